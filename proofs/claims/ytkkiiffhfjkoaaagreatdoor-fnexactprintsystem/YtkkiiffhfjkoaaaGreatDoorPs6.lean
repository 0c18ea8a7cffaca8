import Derived.Test.YtkkiiffhfjkoaaaGreatDoorPs5
import Derived.Test.YtkkiiffhfjkoaaaGreatDoorT10
namespace Go.Proofs.YtkkiiffhfjkoaaaGreatDoor
open Go.RowKit Go.Sort
set_option linter.unusedVariables false

def varT (k v : Int) : List UInt8 := [118, 97, 114, 32] ++ kindName k ++ [32] ++ Lib.itoa v ++ [10]
def subT (u : Int) : List UInt8 := [115, 117, 98, 32] ++ Lib.itoa u ++ [10]
def stHead (s : StD) : List UInt8 := [115, 116, 97, 116, 101, 32] ++ Lib.itoa s.parent ++ [32] ++ Lib.itoa s.initial ++ [10]
def stT (s : StD) : List UInt8 := stHead s ++ (stmsT [101, 110, 116, 114, 121] s.entry s.entry.length ++ stmsT [101, 120, 105, 116] s.exit s.exit.length)
def trHead (t : TrD) : List UInt8 := [111, 110, 32] ++ Lib.itoa t.src ++ [32] ++ Lib.itoa t.sig ++ [32] ++ Lib.itoa t.target ++ codeT t.guard t.guard.length ++ [10]
def trT (t : TrD) : List UInt8 := trHead t ++ stmsT [100, 111] t.action t.action.length
def obHead (x : ObD) : List UInt8 := [111, 98, 106, 101, 99, 116, 32] ++ Lib.itoa x.prio ++ [32] ++ Lib.itoa x.qcap ++ [32] ++ Lib.itoa x.dcap ++ [10]
def varsT (ks vs : List Int) (n : Nat) : List UInt8 := catTo (fun i => varT (ks.getD i 0) (vs.getD i 0)) n
def subsT (us : List Int) (n : Nat) : List UInt8 := catTo (fun i => subT (us.getD i 0)) n
def stsT (ss : List StD) (n : Nat) : List UInt8 := catTo (fun i => stT (ss.getD i st0)) n
def trsT (ts : List TrD) (n : Nat) : List UInt8 := catTo (fun i => trT (ts.getD i tr0)) n
def obT (x : ObD) : List UInt8 := obHead x ++ varsT x.kinds x.vals x.kinds.length ++ subsT x.subs x.subs.length ++ stsT x.sts x.sts.length ++ trsT x.trs x.trs.length
def obsT (os : List ObD) (n : Nat) : List UInt8 := catTo (fun i => obT (os.getD i ob0)) n
def tmT (x : Int × Int) : List UInt8 := [116, 105, 109, 101, 114, 32] ++ Lib.itoa x.1 ++ [32] ++ Lib.itoa x.2 ++ [10]
def tmsT (ts : List (Int × Int)) (n : Nat) : List UInt8 := catTo (fun i => tmT (ts.getD i (0, 0))) n
def sysT (sg : Int) (os : List ObD) (ts : List (Int × Int)) : List UInt8 := [115, 105, 103, 110, 97, 108, 115, 32] ++ Lib.itoa sg ++ [10] ++ obsT os os.length ++ tmsT ts ts.length

structure StOK (s : StD) : Prop where
  p : I64 s.parent
  i : I64 s.initial
  en : StmsOK s.entry
  ex : StmsOK s.exit
structure TrOK (x : TrD) : Prop where
  s : I64 x.src
  g : I64 x.sig
  t : I64 x.target
  gd : CodeOK x.guard
  ac : StmsOK x.action
structure ObOK (x : ObD) : Prop where
  p : I64 x.prio
  q : I64 x.qcap
  d : I64 x.dcap
  kl : x.kinds.length = x.vals.length
  kn : x.kinds.length ≤ 32
  k : ∀ i, i < x.kinds.length → 1 ≤ x.kinds.getD i 0 ∧ x.kinds.getD i 0 ≤ 7
  v : ∀ i, i < x.kinds.length → I64 (x.vals.getD i 0)
  un : x.subs.length ≤ 1048576
  u : ∀ i, i < x.subs.length → I64 (x.subs.getD i 0)
  sn : x.sts.length ≤ 200
  s : ∀ i, i < x.sts.length → StOK (x.sts.getD i st0)
  tn : x.trs.length ≤ 500
  t : ∀ i, i < x.trs.length → TrOK (x.trs.getD i tr0)
structure SysOK' (sg : Int) (os : List ObD) (ts : List (Int × Int)) : Prop where
  g : I64 sg
  on : os.length ≤ 64
  o : ∀ i, i < os.length → ObOK (os.getD i ob0)
  tn : ts.length ≤ 200
  t : ∀ i, i < ts.length → I64 (ts.getD i (0, 0)).1 ∧ I64 (ts.getD i (0, 0)).2
theorem varT_l {k v : Int} (h : I64 v) : (varT k v).length ≤ 30 := by
  have h1 := itoa_l h
  have h2 := kindName_l k
  simp only [varT, List.length_append, List.length_cons, List.length_nil]; omega
theorem subT_l {v : Int} (h : I64 v) : (subT v).length ≤ 30 := by
  have h1 := itoa_l h
  simp only [subT, List.length_append, List.length_cons, List.length_nil]; omega
theorem stHead_l {s : StD} (h : StOK s) : (stHead s).length ≤ 60 := by
  have h1 := itoa_l h.p
  have h2 := itoa_l h.i
  simp only [stHead, List.length_append, List.length_cons, List.length_nil]; omega
theorem stT_l {s : StD} (h : StOK s) : (stT s).length ≤ 500060 := by
  have h1 := stHead_l h
  have h2 := stmsT_l (key := [101, 110, 116, 114, 121]) (by decide) h.en (Nat.le_refl _)
  have h3 := stmsT_l (key := [101, 120, 105, 116]) (by decide) h.ex (Nat.le_refl _)
  simp only [stT, List.length_append]; omega
theorem trHead_l {s : TrD} (h : TrOK s) : (trHead s).length ≤ 4700 := by
  have h1 := itoa_l h.s
  have h2 := itoa_l h.g
  have h3 := itoa_l h.t
  have h4 := codeT_l h.gd (Nat.le_refl _)
  simp only [trHead, List.length_append, List.length_cons, List.length_nil]; omega
theorem trT_l {s : TrD} (h : TrOK s) : (trT s).length ≤ 300000 := by
  have h1 := trHead_l h
  have h2 := stmsT_l (key := [100, 111]) (by decide) h.ac (Nat.le_refl _)
  simp only [trT, List.length_append]; omega
theorem obHead_l {x : ObD} (h : ObOK x) : (obHead x).length ≤ 80 := by
  have h1 := itoa_l h.p
  have h2 := itoa_l h.q
  have h3 := itoa_l h.d
  simp only [obHead, List.length_append, List.length_cons, List.length_nil]; omega
theorem varsT_l {x : ObD} (h : ObOK x) {n : Nat} (hn : n ≤ x.kinds.length) : (varsT x.kinds x.vals n).length ≤ 960 := by
  have h1 : (varsT x.kinds x.vals n).length ≤ n * 30 := catTo_len (fun i hi => varT_l (h.v i (by omega)))
  have := h.kn; omega
theorem subsT_l {x : ObD} (h : ObOK x) {n : Nat} (hn : n ≤ x.subs.length) : (subsT x.subs n).length ≤ 31457280 := by
  have h1 : (subsT x.subs n).length ≤ n * 30 := catTo_len (fun i hi => subT_l (h.u i (by omega)))
  have := h.un; omega
theorem stsT_l {x : ObD} (h : ObOK x) {n : Nat} (hn : n ≤ x.sts.length) : (stsT x.sts n).length ≤ 100012000 := by
  have h1 : (stsT x.sts n).length ≤ n * 500060 := catTo_len (fun i hi => stT_l (h.s i (by omega)))
  have := h.sn; omega
theorem trsT_l {x : ObD} (h : ObOK x) {n : Nat} (hn : n ≤ x.trs.length) : (trsT x.trs n).length ≤ 150000000 := by
  have h1 : (trsT x.trs n).length ≤ n * 300000 := catTo_len (fun i hi => trT_l (h.t i (by omega)))
  have := h.tn; omega
theorem obT_l {x : ObD} (h : ObOK x) : (obT x).length ≤ 290000000 := by
  have h1 := obHead_l h
  have h2 := varsT_l h (Nat.le_refl _)
  have h3 := subsT_l h (Nat.le_refl _)
  have h4 := stsT_l h (Nat.le_refl _)
  have h5 := trsT_l h (Nat.le_refl _)
  simp only [obT, List.length_append]; omega
theorem obsT_l {sg : Int} {os : List ObD} {ts : List (Int × Int)} (h : SysOK' sg os ts) {n : Nat} (hn : n ≤ os.length) : (obsT os n).length ≤ 18560000000 := by
  have h1 : (obsT os n).length ≤ n * 290000000 := catTo_len (fun i hi => obT_l (h.o i (by omega)))
  have := h.on; omega
theorem tmT_l {x : Int × Int} (h1 : I64 x.1) (h2 : I64 x.2) : (tmT x).length ≤ 60 := by
  have h1 := itoa_l h1
  have h2 := itoa_l h2
  simp only [tmT, List.length_append, List.length_cons, List.length_nil]; omega
theorem tmsT_l {sg : Int} {os : List ObD} {ts : List (Int × Int)} (h : SysOK' sg os ts) {n : Nat} (hn : n ≤ ts.length) : (tmsT ts n).length ≤ 12000 := by
  have h1 : (tmsT ts n).length ≤ n * 60 := catTo_len (fun i hi => tmT_l (h.t i (by omega)).1 (h.t i (by omega)).2)
  have := h.tn; omega

theorem chk_parts {ss : List StD} {ts : List TrD} {l : LimD} (h : (checkOf ss ts l).1 = 0) : GoodT ss ts.length ∧ (∀ i, i < ss.length → badA l ss i = false) ∧ ∀ j, j < ts.length → badT ss.length l ts j = false := by
  by_cases c : (faultOf ss ts.length (limB l)).1 = 0
  · unfold checkOf at h
    rw [if_pos c] at h
    cases e : firstB (badA l ss) ss.length with
    | some k => rw [e] at h; simp at h
    | none =>
      rw [e] at h
      cases e2 : firstB (badT ss.length l ts) ts.length with
      | some k => rw [e2] at h; simp at h
      | none => exact ⟨good_of c, firstB_none_iff e, firstB_none_iff e2⟩
  · rw [check_fault c] at h; exact absurd h c
theorem stOK_of {ss : List StD} {tn : Nat} {l : LimD} (g : GoodT ss tn) {i : Nat} (hi : i < ss.length) (h : badA l ss i = false) : StOK (ss.getD i st0) := by
  have h2 := g.n2
  have hp : I64 (par ss i) := by
    rcases Nat.eq_zero_or_pos i with h0 | h0
    · subst h0; rw [g.tree.1]; exact ⟨by omega, by omega⟩
    · have := g.tree.2 i h0 hi; exact ⟨by omega, by omega⟩
  have hn : I64 (ini ss i) := by
    have := g.ini i hi
    unfold badI at this
    split at this
    · simp at this; rw [this]; exact ⟨by omega, by omega⟩
    · simp at this; exact ⟨by omega, by omega⟩
  unfold badA at h
  simp only [Bool.not_eq_false', Bool.and_eq_true] at h
  exact ⟨hp, hn, stmsOK_of h.1, stmsOK_of h.2⟩
theorem trOK_of {n : Nat} {l : LimD} {ts : List TrD} {j : Nat} (hn : n ≤ 200) (hl : l.s ≤ 64) (h : badT n l ts j = false) : TrOK (ts.getD j tr0) := by
  unfold badT okTr at h
  simp only [Bool.not_eq_false', Bool.and_eq_true, betB, decide_eq_true_eq] at h
  obtain ⟨⟨a1, a2⟩, ⟨b1, b2⟩, ⟨c1, c2⟩, hg, ha⟩ := h
  refine ⟨⟨by omega, by omega⟩, ⟨by omega, by omega⟩, ⟨by omega, by omega⟩, ?_, stmsOK_of ha⟩
  unfold grdB at hg
  simp only [Bool.or_eq_true, decide_eq_true_eq] at hg
  rcases hg with hg | hg
  · exact codeOK_nil hg
  · exact codeOK_of hg
theorem obOK_of {sg : Int} {os : List ObD} {nt i : Nat} (hsg : sg ≤ 64) (hf : (os.getD i ob0).subs.length ≤ 1048576) (hv : ∀ j, j < (os.getD i ob0).vals.length → I64 ((os.getD i ob0).vals.getD j 0)) (h : (objFault sg os nt i).1 = 0) : ObOK (os.getD i ob0) := by
  unfold objFault at h
  split at h
  · rename_i hob
    split at h
    · simp at h
    · rename_i hsub
      split at h
      · rename_i hchk
        obtain ⟨g, hA, hT⟩ := chk_parts hchk
        obtain ⟨ho, _⟩ := hob
        simp only [objOK, Bool.and_eq_true, betB, decide_eq_true_eq] at ho
        obtain ⟨⟨p1, p2⟩, ⟨q1, q2⟩, ⟨d1, d2⟩, hb⟩ := ho
        simp only [bankB, decide_eq_true_eq] at hb
        obtain ⟨b1, b2, b3⟩ := hb
        have hs := firstB_none_iff hsub
        refine ⟨⟨by omega, by omega⟩, ⟨by omega, by omega⟩, ⟨by omega, by omega⟩, b1, by omega, fun j hj => ?_, fun j hj => hv j (by omega), hf, fun j hj => ?_, g.n2, fun j hj => stOK_of g hj (hA j hj), g.tn, fun j hj => trOK_of g.n2 (by simp only [limOf]; omega) (hT j hj)⟩
        · have := (b3 j hj).1
          simpa [kOk] using this
        · have := hs j hj
          unfold badSub at this
          simp only [Bool.or_eq_false_iff, Bool.not_eq_false', betB, decide_eq_true_eq] at this
          exact ⟨by omega, by omega⟩
      · rename_i h2
        have := checkOf_code (os.getD i ob0).sts (os.getD i ob0).trs (limOf sg os nt i)
        simp only at h
        omega
  · simp at h
theorem sysOK_of {sg : Int} {os : List ObD} {ts : List (Int × Int)} (hf : FitsObs os) (hv : ∀ i, i < os.length → ∀ j, j < (os.getD i ob0).vals.length → I64 ((os.getD i ob0).vals.getD j 0)) (h : (sysFault sg os ts).1 = 0) : SysOK' sg os ts := by
  by_cases c : cntP sg os.length ts.length
  · unfold sysFault at h
    rw [if_pos c] at h
    cases e : firstB (badOb sg os ts.length) os.length with
    | some k =>
      rw [e] at h
      have hk : badOb sg os ts.length k = true := List.find?_some e
      unfold badOb at hk
      simp only [decide_eq_true_eq] at hk
      exact absurd h hk
    | none =>
      rw [e] at h
      cases e2 : firstB (badTm sg os.length ts) ts.length with
      | some k => rw [e2] at h; simp at h
      | none =>
        have h1 := firstB_none_iff e
        have h2 := firstB_none_iff e2
        refine ⟨⟨by omega, by omega⟩, c.2.1.2, fun i hi => obOK_of (nt := ts.length) c.1.2 (hf.2 i hi).fu (hv i hi) ?_, c.2.2, fun i hi => ?_⟩
        · have := h1 i hi
          unfold badOb at this
          simpa using this
        · have := h2 i hi
          unfold badTm at this
          simp only [Bool.or_eq_false_iff, Bool.not_eq_false', betB, decide_eq_true_eq] at this
          exact ⟨⟨by omega, by omega⟩, ⟨by omega, by omega⟩⟩
  · rw [sys_count c] at h; cases h
end Go.Proofs.YtkkiiffhfjkoaaaGreatDoor
