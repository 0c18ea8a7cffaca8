import Derived.Test.YtkdgkomnbjepdaaGreatDoorPa
import Derived.Test.YtkdgkomnbjepdaaGreatDoorTa
import Derived.Lib.Builder
import Derived.Lib.AppendStr
import Derived.Lib.UnsafeStr
import Derived.Laws.Externs
import Derived.Test.YtkdgkomnbjepdaaGreatDoorRc
import Derived.Test.YtkdgkomnbjepdaaGreatDoorWa
namespace Go.Proofs.YtkdgkomnbjepdaaGreatDoor
open Go.RowKit Go.Sort
set_option linter.unusedVariables false
attribute [local go_sem ↓] Go.wp_at_zero Go.wp_at_succ
end Go.Proofs.YtkdgkomnbjepdaaGreatDoor
namespace Go.Proofs.YtkdgkomnbjepdaaGreatDoor
open Go.RowKit Go.Sort
set_option linter.unusedVariables false
attribute [local go_sem ↓] Go.wp_at_zero Go.wp_at_succ
theorem four_cells {w : World} {H : Nat} {a b c d : Value} {t : TypeId} (k : w.heap[H]? = some (.cells #[a,b,c,d] t (0,0))) : w.cell? ⟨H,0,none⟩ = some a ∧ w.cell? ⟨H,1,none⟩ = some b ∧ w.cell? ⟨H,2,none⟩ = some c ∧ w.cell? ⟨H,3,none⟩ = some d := by
 simp [World.cell?,k]
end Go.Proofs.YtkdgkomnbjepdaaGreatDoor
namespace Go.Proofs.YtkdgkomnbjepdaaGreatDoor
open Go.RowKit Go.Sort
set_option linter.unusedVariables false
def varT (k v : Int) : List UInt8 := [118,97,114,32] ++ kindName k ++ [32] ++ Lib.itoa v ++ [10]
def subT (u : Int) : List UInt8 := [115,117,98,32] ++ Lib.itoa u ++ [10]
def stHead (s : StD) : List UInt8 := [115,116,97,116,101,32] ++ Lib.itoa s.parent ++ [32] ++ Lib.itoa s.initial ++ [10]
def stT (s : StD) : List UInt8 := stHead s ++ (stmsT [101,110,116,114,121] s.entry s.entry.length ++ stmsT [101,120,105,116] s.exit s.exit.length)
def trHead (t : TrD) : List UInt8 := [111,110,32] ++ Lib.itoa t.src ++ [32] ++ Lib.itoa t.sig ++ [32] ++ Lib.itoa t.target ++ codeT t.guard t.guard.length ++ [10]
def trT (t : TrD) : List UInt8 := trHead t ++ stmsT [100,111] t.action t.action.length
def obHead (x : ObD) : List UInt8 := [111,98,106,101,99,116,32] ++ Lib.itoa x.prio ++ [32] ++ Lib.itoa x.qcap ++ [32] ++ Lib.itoa x.dcap ++ [10]
def varsT (ks vs : List Int) (n : Nat) : List UInt8 := catTo (fun i => varT (ks.getD i 0) (vs.getD i 0)) n
def subsT (us : List Int) (n : Nat) : List UInt8 := catTo (fun i => subT (us.getD i 0)) n
def stsT (ss : List StD) (n : Nat) : List UInt8 := catTo (fun i => stT (ss.getD i st0)) n
def trsT (ts : List TrD) (n : Nat) : List UInt8 := catTo (fun i => trT (ts.getD i tr0)) n
def obT (x : ObD) : List UInt8 := obHead x ++ varsT x.kinds x.vals x.kinds.length ++ subsT x.subs x.subs.length ++ stsT x.sts x.sts.length ++ trsT x.trs x.trs.length
def obsT (os : List ObD) (n : Nat) : List UInt8 := catTo (fun i => obT (os.getD i ob0)) n
def tmT (x : Int × Int) : List UInt8 := [116,105,109,101,114,32] ++ Lib.itoa x.1 ++ [32] ++ Lib.itoa x.2 ++ [10]
def tmsT (ts : List (Int × Int)) (n : Nat) : List UInt8 := catTo (fun i => tmT (ts.getD i (0,0))) n
def sysT (sg : Int) (os : List ObD) (ts : List (Int × Int)) : List UInt8 := [115,105,103,110,97,108,115,32] ++ Lib.itoa sg ++ [10] ++ obsT os os.length ++ tmsT ts ts.length
structure StOK (s : StD) : Prop where
 p : I64 s.parent
 i : I64 s.initial
 en : StmsOK s.entry
 ex : StmsOK s.exit
structure TrOK (x : TrD) : Prop where
 s : I64 x.src
 g : I64 x.sig
 t : I64 x.target
 gd : CodeOK x.guard
 ac : StmsOK x.action
structure ObOK (x : ObD) : Prop where
 p : I64 x.prio
 q : I64 x.qcap
 d : I64 x.dcap
 kl : x.kinds.length = x.vals.length
 kn : x.kinds.length ≤ 32
 k : ∀ i,i < x.kinds.length → 1 ≤ x.kinds.getD i 0 ∧ x.kinds.getD i 0 ≤ 7
 v : ∀ i,i < x.kinds.length → I64 (x.vals.getD i 0)
 un : x.subs.length ≤ 1048576
 u : ∀ i,i < x.subs.length → I64 (x.subs.getD i 0)
 sn : x.sts.length ≤ 200
 s : ∀ i,i < x.sts.length → StOK (x.sts.getD i st0)
 tn : x.trs.length ≤ 500
 t : ∀ i,i < x.trs.length → TrOK (x.trs.getD i tr0)
structure SysOK' (sg : Int) (os : List ObD) (ts : List (Int × Int)) : Prop where
 g : I64 sg
 on : os.length ≤ 64
 o : ∀ i,i < os.length → ObOK (os.getD i ob0)
 tn : ts.length ≤ 200
 t : ∀ i,i < ts.length → I64 (ts.getD i (0,0)).1 ∧ I64 (ts.getD i (0,0)).2
theorem varT_l {k v : Int} (h : I64 v) : (varT k v).length ≤ 30 := by
 have h1 := itoa_l h
 have h2 := kindName_l k
 simp only [varT,List.length_append,List.length_cons,List.length_nil]; omega
theorem subT_l {v : Int} (h : I64 v) : (subT v).length ≤ 30 := by
 have h1 := itoa_l h
 simp only [subT,List.length_append,List.length_cons,List.length_nil]; omega
theorem stHead_l {s : StD} (h : StOK s) : (stHead s).length ≤ 60 := by
 have h1 := itoa_l h.p
 have h2 := itoa_l h.i
 simp only [stHead,List.length_append,List.length_cons,List.length_nil]; omega
theorem stT_l {s : StD} (h : StOK s) : (stT s).length ≤ 500060 := by
 have h1 := stHead_l h
 have h2 := stmsT_l (key := [101,110,116,114,121]) (by decide) h.en (Nat.le_refl _)
 have h3 := stmsT_l (key := [101,120,105,116]) (by decide) h.ex (Nat.le_refl _)
 simp only [stT,List.length_append]; omega
theorem trHead_l {s : TrD} (h : TrOK s) : (trHead s).length ≤ 4700 := by
 have h1 := itoa_l h.s
 have h2 := itoa_l h.g
 have h3 := itoa_l h.t
 have h4 := codeT_l h.gd (Nat.le_refl _)
 simp only [trHead,List.length_append,List.length_cons,List.length_nil]; omega
theorem trT_l {s : TrD} (h : TrOK s) : (trT s).length ≤ 300000 := by
 have h1 := trHead_l h
 have h2 := stmsT_l (key := [100,111]) (by decide) h.ac (Nat.le_refl _)
 simp only [trT,List.length_append]; omega
theorem obHead_l {x : ObD} (h : ObOK x) : (obHead x).length ≤ 80 := by
 have h1 := itoa_l h.p
 have h2 := itoa_l h.q
 have h3 := itoa_l h.d
 simp only [obHead,List.length_append,List.length_cons,List.length_nil]; omega
theorem varsT_l {x : ObD} (h : ObOK x) {n : Nat} (hn : n ≤ x.kinds.length) : (varsT x.kinds x.vals n).length ≤ 960 := by
 have h1 : (varsT x.kinds x.vals n).length ≤ n * 30 := catTo_len (fun i hi => varT_l (h.v i (by omega)))
 have := h.kn; omega
theorem subsT_l {x : ObD} (h : ObOK x) {n : Nat} (hn : n ≤ x.subs.length) : (subsT x.subs n).length ≤ 31457280 := by
 have h1 : (subsT x.subs n).length ≤ n * 30 := catTo_len (fun i hi => subT_l (h.u i (by omega)))
 have := h.un; omega
theorem stsT_l {x : ObD} (h : ObOK x) {n : Nat} (hn : n ≤ x.sts.length) : (stsT x.sts n).length ≤ 100012000 := by
 have h1 : (stsT x.sts n).length ≤ n * 500060 := catTo_len (fun i hi => stT_l (h.s i (by omega)))
 have := h.sn; omega
theorem trsT_l {x : ObD} (h : ObOK x) {n : Nat} (hn : n ≤ x.trs.length) : (trsT x.trs n).length ≤ 150000000 := by
 have h1 : (trsT x.trs n).length ≤ n * 300000 := catTo_len (fun i hi => trT_l (h.t i (by omega)))
 have := h.tn; omega
theorem obT_l {x : ObD} (h : ObOK x) : (obT x).length ≤ 290000000 := by
 have h1 := obHead_l h
 have h2 := varsT_l h (Nat.le_refl _)
 have h3 := subsT_l h (Nat.le_refl _)
 have h4 := stsT_l h (Nat.le_refl _)
 have h5 := trsT_l h (Nat.le_refl _)
 simp only [obT,List.length_append]; omega
theorem obsT_l {sg : Int} {os : List ObD} {ts : List (Int × Int)} (h : SysOK' sg os ts) {n : Nat} (hn : n ≤ os.length) : (obsT os n).length ≤ 18560000000 := by
 have h1 : (obsT os n).length ≤ n * 290000000 := catTo_len (fun i hi => obT_l (h.o i (by omega)))
 have := h.on; omega
theorem tmT_l {x : Int × Int} (h1 : I64 x.1) (h2 : I64 x.2) : (tmT x).length ≤ 60 := by
 have h1 := itoa_l h1
 have h2 := itoa_l h2
 simp only [tmT,List.length_append,List.length_cons,List.length_nil]; omega
theorem tmsT_l {sg : Int} {os : List ObD} {ts : List (Int × Int)} (h : SysOK' sg os ts) {n : Nat} (hn : n ≤ ts.length) : (tmsT ts n).length ≤ 12000 := by
 have h1 : (tmsT ts n).length ≤ n * 60 := catTo_len (fun i hi => tmT_l (h.t i (by omega)).1 (h.t i (by omega)).2)
 have := h.tn; omega
theorem chk_parts {ss : List StD} {ts : List TrD} {l : LimD} (h : (checkOf ss ts l).1 = 0) : GoodT ss ts.length ∧ (∀ i,i < ss.length → badA l ss i = false) ∧ ∀ j,j < ts.length → badT ss.length l ts j = false := by
 by_cases c : (faultOf ss ts.length (limB l)).1 = 0
 ·unfold checkOf at h
  rw [if_pos c] at h
  cases e : firstB (badA l ss) ss.length with
  | some k => rw [e] at h; simp at h
  | none =>
   rw [e] at h
   cases e2 : firstB (badT ss.length l ts) ts.length with
   | some k => rw [e2] at h; simp at h
   | none => exact ⟨good_of c,firstB_none_iff e,firstB_none_iff e2⟩
 ·rw [check_fault c] at h; exact absurd h c
theorem stOK_of {ss : List StD} {tn : Nat} {l : LimD} (g : GoodT ss tn) {i : Nat} (hi : i < ss.length) (h : badA l ss i = false) : StOK (ss.getD i st0) := by
 have h2 := g.n2
 have hp : I64 (par ss i) := by
  rcases Nat.eq_zero_or_pos i with h0 | h0
  ·subst h0; rw [g.tree.1]; exact ⟨by omega,by omega⟩
  ·have := g.tree.2 i h0 hi; exact ⟨by omega,by omega⟩
 have hn : I64 (ini ss i) := by
  have := g.ini i hi
  unfold badI at this
  split at this
  ·simp at this; rw [this]; exact ⟨by omega,by omega⟩
  ·simp at this; exact ⟨by omega,by omega⟩
 unfold badA at h
 simp only [Bool.not_eq_false',Bool.and_eq_true] at h
 exact ⟨hp,hn,stmsOK_of h.1,stmsOK_of h.2⟩
theorem trOK_of {n : Nat} {l : LimD} {ts : List TrD} {j : Nat} (hn : n ≤ 200) (hl : l.s ≤ 64) (h : badT n l ts j = false) : TrOK (ts.getD j tr0) := by
 unfold badT okTr at h
 simp only [Bool.not_eq_false',Bool.and_eq_true,betB,decide_eq_true_eq] at h
 obtain ⟨⟨a1,a2⟩,⟨b1,b2⟩,⟨c1,c2⟩,hg,ha⟩ := h
 refine ⟨⟨by omega,by omega⟩,⟨by omega,by omega⟩,⟨by omega,by omega⟩,?_,stmsOK_of ha⟩
 unfold grdB at hg
 simp only [Bool.or_eq_true,decide_eq_true_eq] at hg
 rcases hg with hg | hg
 ·exact codeOK_nil hg
 ·exact codeOK_of hg
theorem obOK_of {sg : Int} {os : List ObD} {nt i : Nat} (hsg : sg ≤ 64) (hf : (os.getD i ob0).subs.length ≤ 1048576) (hv : ∀ j,j < (os.getD i ob0).vals.length → I64 ((os.getD i ob0).vals.getD j 0)) (h : (objFault sg os nt i).1 = 0) : ObOK (os.getD i ob0) := by
 unfold objFault at h
 split at h
 ·rename_i hob
  split at h
  ·simp at h
  ·rename_i hsub
   split at h
   ·rename_i hchk
    obtain ⟨g,hA,hT⟩ := chk_parts hchk
    obtain ⟨ho,_⟩ := hob
    simp only [objOK,Bool.and_eq_true,betB,decide_eq_true_eq] at ho
    obtain ⟨⟨p1,p2⟩,⟨q1,q2⟩,⟨d1,d2⟩,hb⟩ := ho
    simp only [bankB,decide_eq_true_eq] at hb
    obtain ⟨b1,b2,b3⟩ := hb
    have hs := firstB_none_iff hsub
    refine ⟨⟨by omega,by omega⟩,⟨by omega,by omega⟩,⟨by omega,by omega⟩,b1,by omega,fun j hj => ?_,fun j hj => hv j (by omega),hf,fun j hj => ?_,g.n2,fun j hj => stOK_of g hj (hA j hj),g.tn,fun j hj => trOK_of g.n2 (by simp only [limOf]; omega) (hT j hj)⟩
    ·have := (b3 j hj).1
     simpa [kOk] using this
    ·have := hs j hj
     unfold badSub at this
     simp only [Bool.or_eq_false_iff,Bool.not_eq_false',betB,decide_eq_true_eq] at this
     exact ⟨by omega,by omega⟩
   ·rename_i h2
    have := checkOf_code (os.getD i ob0).sts (os.getD i ob0).trs (limOf sg os nt i)
    simp only at h
    omega
 ·simp at h
theorem sysOK_of {sg : Int} {os : List ObD} {ts : List (Int × Int)} (hf : FitsObs os) (hv : ∀ i,i < os.length → ∀ j,j < (os.getD i ob0).vals.length → I64 ((os.getD i ob0).vals.getD j 0)) (h : (sysFault sg os ts).1 = 0) : SysOK' sg os ts := by
 by_cases c : cntP sg os.length ts.length
 ·unfold sysFault at h
  rw [if_pos c] at h
  cases e : firstB (badOb sg os ts.length) os.length with
  | some k =>
   rw [e] at h
   have hk : badOb sg os ts.length k = true := List.find?_some e
   unfold badOb at hk
   simp only [decide_eq_true_eq] at hk
   exact absurd h hk
  | none =>
   rw [e] at h
   cases e2 : firstB (badTm sg os.length ts) ts.length with
   | some k => rw [e2] at h; simp at h
   | none =>
    have h1 := firstB_none_iff e
    have h2 := firstB_none_iff e2
    refine ⟨⟨by omega,by omega⟩,c.2.1.2,fun i hi => obOK_of (nt := ts.length) c.1.2 (hf.2 i hi).fu (hv i hi) ?_,c.2.2,fun i hi => ?_⟩
    ·have := h1 i hi
     unfold badOb at this
     simpa using this
    ·have := h2 i hi
     unfold badTm at this
     simp only [Bool.or_eq_false_iff,Bool.not_eq_false',betB,decide_eq_true_eq] at this
     exact ⟨⟨by omega,by omega⟩,⟨by omega,by omega⟩⟩
 ·rw [sys_count c] at h; cases h
end Go.Proofs.YtkdgkomnbjepdaaGreatDoor
namespace Go.Proofs.YtkdgkomnbjepdaaGreatDoor
open Go.RowKit Go.Sort
set_option linter.unusedVariables false
attribute [local go_sem ↓] Go.wp_at_zero Go.wp_at_succ
def PenP (w : World) (B P : Nat) (p : Value) (l : List UInt8) (i : Bool) : Prop :=
 B ≤ P ∧ ∃ v,w.heap[P]? = some (.cells #[p,v,.bool i] 46 (0,0)) ∧ w.ownsRow B 5 1 v l.length (Lib.byteCells l) ∧ v.ownBlock ≠ some P
def PenAt (w : World) (B P : Nat) (l : List UInt8) (i : Bool) : Prop := PenP w B P (.pointer none) l i ∨ PenP w B P (.pointer (some ⟨P,0,none⟩)) l i
structure Wr (B P : Nat) (w w' : World) : Prop where
 bel : Below B w w'
 fr : ∀ b cs t f,w.heap[b]? = some (.cells cs t f) → b ≠ P → t ≠ 5 → w'.heap[b]? = some (.cells cs t f)
theorem Wr.refl (B P : Nat) (w : World) : Wr B P w w := ⟨Below.refl _ _,fun _ _ _ _ h _ _ => h⟩
theorem Wr.trans {B P : Nat} {a b c : World} (h : Wr B P a b) (k : Wr B P b c) : Wr B P a c := ⟨h.bel.trans k.bel,fun b cs t f h1 h2 h3 => k.fr b cs t f (h.fr b cs t f h1 h2 h3) h2 h3⟩
theorem Wr.of_below {B P : Nat} {w w' : World} (hB : B ≤ w.heap.size) (h : Below w.heap.size w w') : Wr B P w w' := ⟨h.mono hB,fun b cs t f h1 _ _ => block_below h1 h⟩
theorem Wr.set {B P o : Nat} {w : World} (hB : B ≤ P) (v : Value) : Wr B P w (w.setCell ⟨P,o,none⟩ v) := ⟨(Below.refl B w).setCell (p := ⟨P,o,none⟩) hB v,fun b cs t f h1 h2 _ => (Below.heap_setCell _ _ _ _ h2).trans h1⟩
theorem Wr.size {B P : Nat} {w w' : World} (h : Wr B P w w') : w.heap.size ≤ w'.heap.size := h.bel.size
theorem sizeBuilder : (Tryz.prog.info? 44).map (fun i => i.size) = some 2 := by kernel_rfl
theorem infoBuilder : ∃ j,Tryz.prog.info? 44 = some j ∧ j.size = 2 := Option.map_eq_some_iff.1 sizeBuilder
theorem liesBuilder : liesAt Tryz.prog Tryz.prog.depth 46 (3 / Tryz.prog.cellsOf 46) 0 44 1 = true := by kernel_rfl
set_option maxHeartbeats 1000000 in
set_option maxRecDepth 100000 in
theorem copyCheck_used (P : Nat) (w : World) (h0 : w.cell? ⟨P,0,none⟩ = some (.pointer (some ⟨P,0,none⟩))) :
  Calls Tryz.prog 109 #[.pointer (some ⟨P,0,none⟩)] w fun e w' => e = .returned (.tuple #[]) ∧ w' = w := by
 obtain ⟨j,hj,_⟩ := infoBuilder
 go_enter Tryz.func109,Tryz.ntmps109
 go_wp2
 rw [Lib.run_neq_ptr_same w _ Tryz.underlying42 hj]
 go_wp2
 go_end0
 exact ⟨rfl,rfl⟩
set_option maxHeartbeats 1000000 in
set_option maxRecDepth 100000 in
theorem copyCheck_fresh (P : Nat) (w : World) (h0 : w.cell? ⟨P,0,none⟩ = some (.pointer none)) (hsh : w.shape? P = some (46,3)) (hfz : w.frozen? ⟨P,0,none⟩ = false) :
  Calls Tryz.prog 109 #[.pointer (some ⟨P,0,none⟩)] w fun e w' => e = .returned (.tuple #[]) ∧ w' = w.setCell ⟨P,0,none⟩ (.pointer (some ⟨P,0,none⟩)) := by
 obtain ⟨j,hj,hjs⟩ := infoBuilder
 go_enter Tryz.func109,Tryz.ntmps109
 go_wp2
 rw [Lib.run_to_unsafe w ⟨P,0,none⟩ Tryz.underlying42 Tryz.underlying131 hj (by rw [hjs]; decide) hsh (Nat.zero_lt_succ 2)]
 simp only [Result.andThen]
 rw [Oper.upon_value]
 go_wp2
 rw [run_callFunc_extern Tryz.func132 (by kernel_rfl) (by kernel_rfl) (by kernel_rfl) (e := Extern.AbiNoEscape.same) (by kernel_rfl)]
 rw [Lib.run_noEscape]
 simp only [Result.andThen]
 rw [Oper.upon_value]
 go_wp2
 rw [Lib.run_from_unsafe w ⟨P,0,none⟩ Tryz.underlying131 Tryz.underlying42 hj hsh liesBuilder]
 simp only [Result.andThen]
 rw [Oper.upon_value]
 go_wp2
 go_end0
 exact ⟨rfl,rfl⟩
theorem PenP.cell0 {w : World} {B P : Nat} {p : Value} {l : List UInt8} {i : Bool} (h : PenP w B P p l i) : w.cell? ⟨P,0,none⟩ = some p := by
 obtain ⟨_,v,hb,_⟩ := h
 simp [World.cell?,hb]
theorem ownsRow_at {w w' : World} {B : Nat} {e : TypeId} {size : Nat} {v : Value} {n : Nat} {xs : List Value} (h : w.ownsRow B e size v n xs) (hb : ∀ b,b < w.heap.size → v.ownBlock = some b → w'.heap[b]? = w.heap[b]?) : w'.ownsRow B e size v n xs := by
 refine ⟨h.1,?_⟩
 rcases h.2 with h0 | ⟨g,cap,cur,h1,h2,h3,h4⟩
 ·exact .inl h0
 ·exact .inr ⟨g,cap,cur,h1,h2,(hb g (lt_of_block h3) (by rw [h1]; rfl)).trans h3,h4⟩
theorem PenP.used {w : World} {B P : Nat} {p : Value} {l : List UInt8} {i : Bool} (h : PenP w B P p l i) (q : Value) : PenP (w.setCell ⟨P,0,none⟩ q) B P q l i := by
 obtain ⟨hB,v,hb,ho,hn⟩ := h
 exact ⟨hB,v,by rw [heap_setCell_same w P 0 _ _ _ hb]; simp,ownsRow_at ho (fun b _ hb2 => Below.heap_setCell _ _ _ _ (fun e => hn (by rw [hb2,e]))),hn⟩
theorem copyCheck_pen (B P : Nat) (l : List UInt8) (i : Bool) (w : World) (h : PenAt w B P l i) :
  Calls Tryz.prog 109 #[.pointer (some ⟨P,0,none⟩)] w fun e w' => e = .returned (.tuple #[]) ∧ PenP w' B P (.pointer (some ⟨P,0,none⟩)) l i ∧ Wr B P w w' := by
 rcases h with h | h
 ·obtain ⟨_,v,hb,_⟩ := id h
  refine (copyCheck_fresh P w h.cell0 (by simp [World.shape?,hb]) (by simp [World.frozen?,hb])).mono ?_
  rintro e w' ⟨rfl,rfl⟩
  exact ⟨rfl,h.used _,Wr.set h.1 _⟩
 ·refine (copyCheck_used P w h.cell0).mono ?_
  rintro e w' ⟨rfl,rfl⟩
  exact ⟨rfl,h,Wr.refl _ _ _⟩
theorem PenP.put {B P : Nat} {p v v' : Value} {l : List UInt8} {i : Bool} {w : World} (hB : B ≤ P) (hb : w.heap[P]? = some (.cells #[p,v,.bool i] 46 (0,0))) (hown : w.ownsRow B 5 1 v' l.length (Lib.byteCells l)) : PenP (w.setCell ⟨P,1,none⟩ v') B P p l i := by
 have hn : v'.ownBlock ≠ some P := Lib.ownBlock_ne hown hb (by decide)
 exact ⟨hB,v',by rw [heap_setCell_same w P 1 _ _ _ hb]; simp,ownsRow_at hown (fun b _ hb2 => Below.heap_setCell _ _ _ _ (fun e => hn (by rw [hb2,e]))),hn⟩
theorem infoByte : (Tryz.prog.info? 5).map (fun i => (i.zero,i.size,i.bytes)) = some (some (.int .u8 0),1,1) := by kernel_rfl
set_option maxHeartbeats 2000000 in
set_option maxRecDepth 100000 in
theorem writeByte_pen (B P : Nat) (l : List UInt8) (i : Bool) (c : UInt8) (w : World) (h : PenAt w B P l i) (hlen : l.length + 1 ≤ 140737488355328) (hBw : B ≤ w.heap.size) :
  Calls Tryz.prog 76 #[.pointer (some ⟨P,0,none⟩),.int .u8 c.toNat] w fun e w' => e = .returned .nilIface ∧ PenAt w' B P (l ++ [c]) i ∧ Wr B P w w' := by
 obtain ⟨i0,hi,hz0,hz1,hz2⟩ := info_parts infoByte
 go_enter Tryz.func76,Tryz.ntmps76
 go_wp2_with (go_at_call 109; refine (copyCheck_pen B P l i _ h).mono ?_)
 rintro e w1 ⟨rfl,h1,hw1⟩
 have hb1 := hw1.bel
 obtain ⟨hB,v,hbk,hown,hne⟩ := h1
 have c0 : w1.cell? ⟨P,0,none⟩ = some (.pointer (some ⟨P,0,none⟩)) := by rw [Lib.cell_of_heap hbk]; rfl
 have c1 : w1.cell? ⟨P,1,none⟩ = some v := by rw [Lib.cell_of_heap hbk]; rfl
 go_wp2_with (at_builtin; refine wpList_append_own _ rfl _ _ 22 rfl B 5 i0 (.int .u8 0) 1 1 Tryz.underlying22 hi hz0 hz1 hz2 rfl (by decide) _ _ _ rfl (hown.alloc _) ⟨w1.heap.size,0,none⟩ 1 1 [.int .u8 c.toNat] rfl rfl ?c1 ?c2 ?c3 ?c4 ?c5 ?_)
 case c1 =>
  intro j u hj
  match j,hj with
  | 0,hj => simp at hj; subst hj; simp [Addr.add]
 case c2 => intro u hu; simp at hu; subst hu; rfl
 case c3 => unfold maxLen; omega
 case c4 => omega
 case c5 => have := hb1.size; simp; omega
 intro v' w2 hown' hgrow _
 have hlt : P < w1.heap.size := lt_of_block hbk
 have hb2 : w2.heap[P]? = some (.cells #[.pointer (some ⟨P,0,none⟩),v,.bool i] 46 (0,0)) := by
  rw [hgrow.block P (by simp; omega) (fun e => hne e.symm),Lib.alloc_old w1 _ P hlt]
  exact hbk
 have d0 : w2.cell? ⟨P,0,none⟩ = some (.pointer (some ⟨P,0,none⟩)) := by rw [Lib.cell_of_heap hb2]; rfl
 have d1 : w2.cell? ⟨P,1,none⟩ = some v := by rw [Lib.cell_of_heap hb2]; rfl
 have f1 : w2.frozen? ⟨P,1,none⟩ = false := Lib.frozen_of_heap hb2 1
 obtain ⟨g,cap,rfl⟩ : ∃ g cap,v' = .slice (some ⟨g,0,none⟩) (l.length + 1) cap := by
  rcases hown'.2 with ⟨_,h0⟩ | ⟨g,cap,cur,hv,_⟩
  ·omega
  ·exact ⟨g,cap,hv⟩
 go_wp2
 go_ret
 refine ⟨rfl,.inr ?_,?_⟩
 ·exact PenP.put hB hb2 (l := l ++ [c]) (by simpa [Lib.byteCells] using hown')
 ·refine hw1.trans (Wr.trans ⟨((Below.refl B w1).alloc (by have := hb1.size; omega) _).grown hgrow (by have := hb1.size; simp; omega) (fun k hk => (hown.lt k hk).1),fun b cs t f g1 g2 g3 => ?_⟩ (Wr.set hB _))
  rw [hgrow.block b (by have := lt_of_block g1; simp; omega) (fun e => Lib.ownBlock_ne hown g1 g3 e.symm),Lib.alloc_old w1 _ b (lt_of_block g1)]
  exact g1
set_option maxHeartbeats 2000000 in
set_option maxRecDepth 100000 in
theorem writeString_pen (B P : Nat) (l x : List UInt8) (i : Bool) (w : World) (h : PenAt w B P l i) (hlen : l.length + x.length ≤ 140737488355328) (hBw : B ≤ w.heap.size) :
  Calls Tryz.prog 77 #[.pointer (some ⟨P,0,none⟩),.string ⟨x.toArray⟩] w fun e w' => (∃ v,e = .returned v) ∧ PenAt w' B P (l ++ x) i ∧ Wr B P w w' := by
 obtain ⟨i0,hi,hz0,hz1,hz2⟩ := info_parts infoByte
 obtain ⟨s,hs⟩ : ∃ s : ByteArray,s = ⟨x.toArray⟩ := ⟨_,rfl⟩
 have hsz : s.size = x.length := by rw [hs]; rfl
 have hsc : Lib.strCells s = Lib.byteCells x := by rw [hs]; simp [Lib.strCells,Lib.byteCells]
 rw [← hs]
 clear hs
 go_enter Tryz.func77,Tryz.ntmps77
 go_wp2_with (go_at_call 109; refine (copyCheck_pen B P l i _ h).mono ?_)
 rintro e w1 ⟨rfl,h1,hw1⟩
 have hb1 := hw1.bel
 obtain ⟨hB,v,hbk,hown,hne⟩ := h1
 have c0 : w1.cell? ⟨P,0,none⟩ = some (.pointer (some ⟨P,0,none⟩)) := by rw [Lib.cell_of_heap hbk]; rfl
 have c1 : w1.cell? ⟨P,1,none⟩ = some v := by rw [Lib.cell_of_heap hbk]; rfl
 go_wp2_with (at_builtin; refine Lib.wpList_append_own_string _ rfl _ _ 22 9 rfl B 5 i0 Tryz.underlying22 Tryz.underlying9 hi hz0 hz1 hz2 _ _ _ rfl hown s rfl ?c3 ?c4 ?c5 ?_)
 case c3 => unfold maxLen; omega
 case c4 => omega
 case c5 => have := hb1.size; omega
 intro v' w2 hown' hgrow _
 have hlt : P < w1.heap.size := lt_of_block hbk
 have hb2 : w2.heap[P]? = some (.cells #[.pointer (some ⟨P,0,none⟩),v,.bool i] 46 (0,0)) := by
  rw [hgrow.block P hlt (fun e => hne e.symm)]
  exact hbk
 have d0 : w2.cell? ⟨P,0,none⟩ = some (.pointer (some ⟨P,0,none⟩)) := by rw [Lib.cell_of_heap hb2]; rfl
 have d1 : w2.cell? ⟨P,1,none⟩ = some v := by rw [Lib.cell_of_heap hb2]; rfl
 have f1 : w2.frozen? ⟨P,1,none⟩ = false := Lib.frozen_of_heap hb2 1
 obtain ⟨ao,n',cap,rfl⟩ : ∃ ao n' cap,v' = .slice ao n' cap := by
  rcases hown'.2 with ⟨hv,_⟩ | ⟨g,cap,cur,hv,_⟩
  ·exact ⟨_,_,_,hv⟩
  ·exact ⟨_,_,_,hv⟩
 go_wp2
 go_ret2
 refine ⟨⟨_,rfl⟩,.inr ?_,?_⟩
 ·exact PenP.put hB hb2 (l := l ++ x) (by rw [List.length_append,Lib.byteCells_append]; exact hown')
 ·refine hw1.trans (Wr.trans ⟨(Below.refl B w1).grown hgrow (by have := hb1.size; omega) (fun k hk => (hown.lt k hk).1),fun b cs t f g1 g2 g3 => ?_⟩ (Wr.set hB _))
  rw [hgrow.block b (lt_of_block g1) (fun e => Lib.ownBlock_ne hown g1 g3 e.symm)]
  exact g1
set_option maxHeartbeats 2000000 in
set_option maxRecDepth 100000 in
theorem string_pen (B P : Nat) (l : List UInt8) (i : Bool) (w : World) (h : PenAt w B P l i) (h0 : l ≠ []) :
  Calls Tryz.prog 12 #[.pointer (some ⟨P,0,none⟩)] w fun e w' => e = .returned (.string ⟨l.toArray⟩) ∧ Below B w w' := by
 obtain ⟨p,hB,v,hbk,hown,hne⟩ : ∃ p,PenP w B P p l i := by
  rcases h with h | h
  ·exact ⟨_,h⟩
  ·exact ⟨_,h⟩
 have hl0 : l.length ≠ 0 := by simpa using h0
 obtain ⟨g,cap,cur,rfl,hbg,hg,hnc,hcm,hcs,htake⟩ : ∃ g cap cur,v = .slice (some ⟨g,0,none⟩) l.length cap ∧ B ≤ g ∧ w.heap[g]? = some (.cells cur 5 (0,0)) ∧ l.length ≤ cap ∧ cap ≤ maxLen ∧ cur.size = cap * 1 ∧ cur.toList.take (l.length * 1) = Lib.byteCells l := by
  rcases hown.2 with ⟨_,hz⟩ | ⟨g,cap,cur,hv,r⟩
  ·exact absurd hz hl0
  ·exact ⟨g,cap,cur,hv,r⟩
 have c1 : w.drew.cell? ⟨P,1,none⟩ = some (.slice (some ⟨g,0,none⟩) l.length cap) := by
  have : w.drew.heap[P]? = some (.cells #[p,.slice (some ⟨g,0,none⟩) l.length cap,.bool i] 46 (0,0)) := hbk
  rw [Lib.cell_of_heap this]; rfl
 have hSD : (Builtin.unsafeSliceData_ #[22] 94 #[.slice (some ⟨g,0,none⟩) l.length cap]).run Tryz.prog w.drew = .ok (.pointer (some ⟨g,0,none⟩)) w.drew :=
  Lib.run_unsafeSliceData_row _ _ _ _ _ _ (by omega)
 have hUS : (Builtin.unsafeString_ #[94,3] 9 #[.pointer (some ⟨g,0,none⟩),.int .i64 l.length]).run Tryz.prog w.drew = .ok (.string ⟨l.toArray⟩) (w.drew.freeze ⟨g,0,none⟩ l.length) := by
  refine Lib.run_unsafeString_row w.drew 94 3 9 5 Tryz.underlying94 (by kernel_rfl) g cur.size (by have hg' : w.drew.heap[g]? = some (.cells cur 5 (0,0)) := hg; simp [World.shape?,hg']) l h0 (by omega) (by unfold maxLen at hcm; omega) ?_
  intro j x hx
  have := hown.cells (g := g) rfl j (.int .u8 x.toNat) (by simp [Lib.byteCells,hx])
  exact this
 clear hown h hbk hne htake hg hcs hcm hnc h0
 go_enter Tryz.func12,Tryz.ntmps12
 go_wp2
 go_region
 all_goals (go_wp2; go_ret; exact ⟨rfl,Lib.below_freeze (Below.drew (Below.refl B w)) (p := ⟨g,0,none⟩) hbg _⟩)
end Go.Proofs.YtkdgkomnbjepdaaGreatDoor
namespace Go.Proofs.YtkdgkomnbjepdaaGreatDoor
open Go.RowKit Go.Sort
set_option linter.unusedVariables false
attribute [local go_sem ↓] Go.wp_at_zero Go.wp_at_succ
theorem itoa_anyQ (z : Int) (h : I64 z) (w : World) (ht : Pow w) : Calls Tryz.prog 78 #[.int .i64 z] w fun e w' => e = .returned (.string ⟨(Lib.itoa z).toArray⟩) ∧ Below w.heap.size w w' := itoa_any z h.1 h.2 w ht
set_option maxRecDepth 100000 in
set_option maxHeartbeats 4000000 in
theorem formOfKind_any (kd : Int) (w : World) (h1 : 1 ≤ kd) (h9 : kd ≤ 9) {tg : TypeId} {fr : Nat × Nat} (hT : w.heap[8]? = some (.cells formsC tg fr)) :
  Calls Tryz.prog 111 #[.int .i64 kd] w fun e w' => (∃ c,e = .returned (.tuple #[.agg #[.int .i64 kd,.string ⟨(stmName kd).toArray⟩,.bool (giveA kd),.bool (giveB kd),.bool c],.bool true])) ∧ Below w.heap.size w w' := by
 obtain ⟨Z,hZ⟩ : ∃ Z,Z = w.alloc (.cells #[.int .i64 0,.string ⟨#[]⟩,.bool false,.bool false,.bool false] 214) := ⟨_,rfl⟩
 have BZ0 : Below w.heap.size w Z := by rw [hZ]; exact below1 _ _
 have HT := hid (block_below hT (below1 w (.cells #[.int .i64 0,.string ⟨#[]⟩,.bool false,.bool false,.bool false] 214)))
 have HN := hid (heap_alloc_new w (.cells #[.int .i64 0,.string ⟨#[]⟩,.bool false,.bool false,.bool false] 214))
 rw [← hZ] at HN
 have HS : Hid (formsC.size = 45) := hid (by decide)
 have IX := hid forms_at
 obtain ⟨FT,hFT⟩ : ∃ F,F = formsC := ⟨_,rfl⟩
 rw [← hFT] at HT HS IX
 have BZ := hid BZ0
 have HZ := hid hZ
 clear hT hFT BZ0 hZ
 go_enter Tryz.func111,Tryz.ntmps111
 go_wp2_with (refine wpList_load_row rfl 238 _ rfl 8 rfl _ FT fr _ HT.out Tryz.underlying238 rfl (by rw [HS.out]; exact formsC_size) ?_)
 rw [← HZ.out]
 obtain ⟨P0,hP0⟩ : ∃ P,P = w.heap.size := ⟨_,rfl⟩
 have HN' : Hid (Z.heap[P0]? = some (.cells #[.int .i64 0,.string ⟨#[]⟩,.bool false,.bool false,.bool false] 214 (0,0))) := hid (by rw [hP0]; exact HN.out)
 have hPw : Hid (w.heap.size ≤ P0) := hid (by omega)
 rw [← hP0]
 clear hP0 HN HT
 go_loopw [7] (fun i wr => ∃ (k : Nat),k ≤ 9 ∧ i = .int .i64 k ∧ Hid ((k : Int) + 1 ≤ kd) ∧ Below Z.heap.size Z wr) (fun i _ => 9 - (intOf i).toNat)
 case atStart => exact ⟨0,Nat.zero_le _,rfl,hid (by omega),Below.refl _ _⟩
 case round =>
  obtain ⟨k,hk,rfl,hkd,hb⟩ := hrel
  have hlt : k < 9 := by have := hkd.out; omega
  have hlt' : (k : Int) < 9 := by omega
  have ix := IX.out k hlt
  have HB := hid hb
  have X1 := hid (block_below HN'.out hb)
  obtain ⟨q0,q1,q2,q3,q4⟩ := five_cc X1.out
  have ql := lt_of_block X1.out
  by_cases he : (k : Int) + 1 = kd
  ·rw [he] at ix
   clear hb
   have f0 : wr.frozen? ⟨P0,0,none⟩ = false := Lib.frozen_of_heap X1.out 0
   have f1 : wr.frozen? ⟨P0,1,none⟩ = false := Lib.frozen_of_heap X1.out 1
   have f2 : wr.frozen? ⟨P0,2,none⟩ = false := Lib.frozen_of_heap X1.out 2
   have f3 : wr.frozen? ⟨P0,3,none⟩ = false := Lib.frozen_of_heap X1.out 3
   have f4 : wr.frozen? ⟨P0,4,none⟩ = false := Lib.frozen_of_heap X1.out 4
   go_wp2
   have U := block_below (set5 X1.out (.int .i64 kd) (.string ⟨(stmName kd).toArray⟩) (.bool (giveA kd)) (.bool (giveB kd)) (.bool (formC2 k))) (below1 _ (.cells #[.int .i64 kd,.string ⟨(stmName kd).toArray⟩,.bool (giveA kd),.bool (giveB kd),.bool (formC2 k)] 214))
   obtain ⟨u0,u1,u2,u3,u4⟩ := five_cc U
   refine bodyPost_ret (v := .tuple #[.agg #[.int .i64 kd,.string ⟨(stmName kd).toArray⟩,.bool (giveA kd),.bool (giveB kd),.bool (formC2 k)],.bool true]) (by simp [results,Tryz.results111,go_sem,u0,u1,u2,u3,u4]) rfl ?_
   refine ⟨⟨_,rfl⟩,?_⟩
   have hP := hPw.out
   have h0 : Below w.heap.size w wr := BZ.out.trans (HB.out.mono BZ.out.size)
   have h5 := ((((h0.setCell (p := ⟨P0,0,none⟩) hP (.int .i64 kd)).setCell (p := ⟨P0,1,none⟩) hP (.string ⟨(stmName kd).toArray⟩)).setCell (p := ⟨P0,2,none⟩) hP (.bool (giveA kd))).setCell (p := ⟨P0,3,none⟩) hP (.bool (giveB kd))).setCell (p := ⟨P0,4,none⟩) hP (.bool (formC2 k))
   exact h5.alloc h5.size _
  ·have he' : ((k : Int) + 1 == kd) = false := by simpa using he
   have HE := hid he
   clear hb he
   go_wp2
   go_roundw
   case rel => exact ⟨k + 1,by omega,by go_num,hid (by have := hkd.out; have := HE.out; push_cast; omega),HB.out.trans ((below1 wr _).mono HB.out.size)⟩
   case measure => simp [intOf]; omega
end Go.Proofs.YtkdgkomnbjepdaaGreatDoor
namespace Go.Proofs.YtkdgkomnbjepdaaGreatDoor
open Go.RowKit Go.Sort
set_option linter.unusedVariables false
attribute [local go_sem ↓] Go.wp_at_zero Go.wp_at_succ
def itN (o v : Int) : Nat := if o = 19 then (15 + v).toNat else (o - 3).toNat
theorem itN_lt {o v : Int} (h : ItOK o v) (h1 : ¬ o = 1) (h2 : ¬ o = 2) : itN o v < 23 := by
 unfold itN
 have := h.lo; have := h.hi
 split
 ·rename_i h19; have := h.knd h19; omega
 ·omega
theorem itN_is {o v : Int} (h : ItOK o v) (h1 : ¬ o = 1) (h2 : ¬ o = 2) : itO (itN o v) = o ∧ itV (itN o v) = v := by
 unfold itN itO itV
 have := h.lo; have := h.hi
 split
 ·rename_i h19
  have := h.knd h19
  rw [if_neg (by omega),if_neg (by omega)]; omega
 ·rename_i h19
  have hv := h.nul h1 h2 h19
  rw [if_pos (by omega),if_pos (by omega)]; omega
theorem itN_not {o v : Int} (h : ItOK o v) (h1 : ¬ o = 1) (h2 : ¬ o = 2) {k : Nat} (hk : k < itN o v) : itO k = o → ¬ itV k = v := by
 have := h.lo; have := h.hi
 unfold itN at hk
 unfold itO itV
 split at hk
 ·rename_i h19
  have := h.knd h19
  split
  ·intro _; omega
  ·intro _; omega
 ·split
  ·intro _; omega
  ·intro _; omega
set_option maxRecDepth 100000 in
set_option maxHeartbeats 4000000 in
theorem wordOf_any (o v : Int) (h : ItOK o v) (w : World) (hp : Pow w) {tg : TypeId} {fr : Nat × Nat} (hT : w.heap[5]? = some (.cells wordsC tg fr)) (hpb : ∀ w',Below w.heap.size w w' → Pow w') :
  Calls Tryz.prog 79 #[.agg #[.int .i64 o,.int .i64 v]] w fun e w' => e = .returned (.string ⟨(wordT o v).toArray⟩) ∧ Below w.heap.size w w' := by
 obtain ⟨Z,hZ⟩ : ∃ Z,Z = w.alloc (.cells #[.int .i64 o,.int .i64 v] 107) := ⟨_,rfl⟩
 have BZ0 : Below w.heap.size w Z := by rw [hZ]; exact below1 _ _
 have BZ := hid BZ0
 have PZ := hid (hpb Z BZ0)
 have C := hid (fun W hW => itoa_anyQ v h.val W hW)
 by_cases h1 : o = 1
 ·subst h1
  have ew : wordT 1 v = Lib.itoa v := rfl
  rw [ew]
  have PZ' : Hid (Pow (w.alloc (.cells #[.int .i64 1,.int .i64 v] 107))) := hid (by rw [← hZ]; exact PZ.out)
  have HZ := hid hZ
  clear hT hp hpb BZ0 hZ
  go_enter Tryz.func79,Tryz.ntmps79
  go_wp2_with (go_at_call 78; refine (C.out _ PZ'.out).mono ?_; rintro e w1 ⟨rfl,hb1⟩; have B1 := hid hb1; clear hb1)
  go_ret
  exact ⟨rfl,(below1 w _).trans (B1.out.mono (by simp))⟩
 ·by_cases h2 : o = 2
  ·subst h2
   have hil := itoa_l h.val
   have PZ' : Hid (Pow (w.alloc (.cells #[.int .i64 2,.int .i64 v] 107))) := hid (by rw [← hZ]; exact PZ.out)
   obtain ⟨y,hy,Y⟩ := catx [118] (Lib.itoa v) (by simp; omega)
   have ew : Hid (wordT 2 v = y) := hid (by rw [hy.out]; rfl)
   clear hT hp hpb BZ0 hZ hil h1
   go_enter Tryz.func79,Tryz.ntmps79
   go_wp2_with (go_at_call 78; refine (C.out _ PZ'.out).mono ?_; rintro e w1 ⟨rfl,hb1⟩; have B1 := hid hb1; clear hb1)
   go_ret
   exact ⟨by rw [ew.out]; rfl,(below1 w _).trans (B1.out.mono (by simp))⟩
  ·have HT := hid (block_below hT (below1 w (.cells #[.int .i64 o,.int .i64 v] 107)))
   have HN := hid (heap_alloc_new w (.cells #[.int .i64 o,.int .i64 v] 107))
   rw [← hZ] at HN
   have HS : Hid (wordsC.size = 69) := hid (by decide)
   have IX := hid words_at
   obtain ⟨FT,hFT⟩ : ∃ F,F = wordsC := ⟨_,rfl⟩
   rw [← hFT] at HT HS IX
   obtain ⟨N,hN⟩ : ∃ N,N = itN o v := ⟨_,rfl⟩
   have hN23 := itN_lt h h1 h2
   have NI := hid (itN_is h h1 h2)
   have NN := hid (fun k hk => itN_not h h1 h2 (k := k) hk)
   rw [← hN] at hN23 NI NN
   have HZ := hid hZ
   clear hT hFT BZ0 hZ hN hp hpb C PZ
   go_enter Tryz.func79,Tryz.ntmps79
   go_wp2_with (refine wpList_load_row rfl 212 _ rfl 5 rfl _ FT fr _ HT.out Tryz.underlying212 rfl (by rw [HS.out]; exact wordsC_size) ?_)
   rw [← HZ.out]
   obtain ⟨P0,hP0⟩ : ∃ P,P = w.heap.size := ⟨_,rfl⟩
   have HN' : Hid (Z.heap[P0]? = some (.cells #[.int .i64 o,.int .i64 v] 107 (0,0))) := hid (by rw [hP0]; exact HN.out)
   rw [← hP0]
   clear hP0 HN HT
   go_loopw [19] (fun i wr => ∃ (k : Nat),k ≤ N ∧ i = .int .i64 k ∧ Below Z.heap.size Z wr) (fun i _ => 23 - (intOf i).toNat)
   case atStart => exact ⟨0,Nat.zero_le _,rfl,Below.refl _ _⟩
   case round =>
    obtain ⟨k,hk,rfl,hb⟩ := hrel
    have hlt : k < 23 := by omega
    have hlt' : (k : Int) < 23 := by omega
    have ix := IX.out k hlt
    have HB := hid hb
    have X1 := hid (block_below HN'.out hb)
    obtain ⟨q0,q1⟩ := two_cells X1.out
    have ql := lt_of_block X1.out
    by_cases hkN : k = N
    ·subst hkN
     rw [NI.out.1,NI.out.2] at ix
     clear hb
     go_wp2
     go_ret
     exact ⟨rfl,(BZ.out.trans (HB.out.mono BZ.out.size)).trans ((below1 wr _).mono (BZ.out.trans (HB.out.mono BZ.out.size)).size)⟩
    ·have hkN' : k < N := by omega
     have nn := NN.out k hkN'
     obtain ⟨ko,hko⟩ : ∃ z,z = itO k := ⟨_,rfl⟩
     obtain ⟨kv,hkv⟩ : ∃ z,z = itV k := ⟨_,rfl⟩
     obtain ⟨kw,hkw⟩ : ∃ z,z = wordT (itO k) (itV k) := ⟨_,rfl⟩
     rw [← hkw] at ix
     rw [← hko,← hkv] at ix nn
     clear hb hko hkv hkw
     by_cases e1 : ko = o
     ·have e2 := nn e1
      have e2' : (kv == v) = false := by simpa using e2
      subst e1
      clear nn e2
      go_wp2
      go_roundw
      case rel => exact ⟨k + 1,by omega,by go_num,HB.out.trans ((below1 wr _).mono HB.out.size)⟩
      case measure => simp [intOf]; omega
     ·have e1' : (ko == o) = false := by simpa using e1
      clear nn e1
      go_wp2
      go_roundw
      case rel => exact ⟨k + 1,by omega,by go_num,HB.out.trans ((below1 wr _).mono HB.out.size)⟩
      case measure => simp [intOf]; omega
end Go.Proofs.YtkdgkomnbjepdaaGreatDoor
