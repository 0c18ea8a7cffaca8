import Derived.Test.YtkdgkomnbjepdaaGreatDoorP1
import Derived.Test.YtkdgkomnbjepdaaGreatDoorGc
namespace Go.Proofs.YtkdgkomnbjepdaaGreatDoor
open Go.RowKit Go.Sort
set_option linter.unusedVariables false
theorem drawn_check {ss : List StD} {ts : List TrD} {l : LimD} (hn : 1 ≤ ss.length ∧ ss.length ≤ 16) (ht : ts.length ≤ 500) (hl : limP l) (h0 : par ss 0 = -1) (hp : ∀ i,0 < i → i < ss.length → 0 ≤ par ss i ∧ par ss i < i)
  (hi : ∀ i,i < ss.length → (kids ss ss.length i = [] ∧ ini ss i = -1) ∨ (0 ≤ ini ss i ∧ ini ss i < ss.length ∧ par ss (ini ss i).toNat = i)) (ha : ∀ i,i < ss.length → stmsB l (ss.getD i st0).entry = true ∧ stmsB l (ss.getD i st0).exit = true) (hT : ∀ j,j < ts.length → okTr ss.length l (ts.getD j tr0) = true) : (checkOf ss ts l).1 = 0 := by
 have bp : ∀ j,j < ss.length → badP ss j = false := fun j hj => by
  unfold badP
  by_cases e : j = 0
  ·rw [if_pos e]; simp [h0]
  ·rw [if_neg e]
   have := hp j (by omega) hj
   simp
   omega
 have T := tree_of (by omega) bp
 have bd : ∀ j,j < ss.length → badD ss j = false := fun j hj => by
  unfold badD
  have := up_len T j hj
  exact decide_eq_false (by omega)
 have bi : ∀ j,j < ss.length → badI ss j = false := fun j hj => by
  unfold badI
  rcases hi j hj with ⟨h1,h2⟩ | ⟨h1,h2,h3⟩
  ·rw [if_pos h1,decide_eq_true h2]; rfl
  ·have hk : ¬ kids ss ss.length j = [] := fun e => by
    have hm : (ini ss j).toNat ∈ kids ss ss.length j := mem_kids.2 ⟨by omega,h3⟩
    rw [e] at hm
    simp at hm
   rw [if_neg hk,decide_eq_true ⟨h1,h2,h3⟩]; rfl
 have f0 : (faultOf ss ts.length (limB l)).1 = 0 := by
  unfold faultOf
  rw [if_pos ⟨hn.1,by omega,ht,by unfold limB; exact decide_eq_true hl⟩,firstB_none bp,firstB_none bd,firstB_none bi]
 rw [check_ok f0 (fun j hj => by unfold badA; rw [(ha j hj).1,(ha j hj).2]; rfl) (fun j hj => by unfold badT; rw [hT j hj]; rfl)]
def IniI (ss : List StD) (m i : Nat) : Prop := (kids ss m i = [] ∧ ini ss i = -1) ∨ (0 ≤ ini ss i ∧ ini ss i < ss.length ∧ par ss (ini ss i).toNat = i)
theorem ini_skip {ss : List StD} {m i : Nat} (h : IniI ss m i) (hn : ¬ par ss m = i) : IniI ss (m + 1) i := by
 rcases h with ⟨h1,h2⟩ | h1
 ·exact .inl ⟨by rw [kids_succ,if_neg hn]; exact h1,h2⟩
 ·exact .inr h1
theorem ini_hold {ss : List StD} {m i : Nat} (h : IniI ss m i) (hp : 0 ≤ ini ss i) : IniI ss (m + 1) i := by
 rcases h with ⟨h1,h2⟩ | h1
 ·omega
 ·exact .inr h1
theorem ini_start {ss : List StD} {i : Nat} (h0 : par ss 0 = -1) (hp : ∀ j,0 < j → j < ss.length → 0 ≤ par ss j ∧ par ss j < j) (hi : i < ss.length) (hini : ini ss i = -1) : IniI ss (i + 1) i := by
 refine .inl ⟨?_,hini⟩
 unfold kids
 rw [List.filter_eq_nil_iff]
 intro j hj
 have hj' := List.mem_range.1 hj
 simp only [decide_eq_true_eq]
 intro e
 by_cases z : j = 0
 ·subst z; omega
 ·have := hp j (by omega) (by omega); omega
end Go.Proofs.YtkdgkomnbjepdaaGreatDoor
namespace Go.Proofs.YtkdgkomnbjepdaaGreatDoor
open Go.RowKit Go.Sort
set_option linter.unusedVariables false
attribute [local go_sem ↓] Go.wp_at_zero Go.wp_at_succ
theorem StmsV.keep {P : Nat → Prop} {X Y : World} {B : Nat} {v : Value} {sts : List StmD} (h : StmsV X B v sts) (hP : OnlyP P X Y) (hn : ∀ b cs t,X.heap[b]? = some (.cells cs t (0,0)) → (t = 107 ∨ t = 105) → B ≤ b → ¬ P b) : StmsV Y B v sts := by
 obtain ⟨R,ho,hi⟩ := h
 refine ⟨R,hP.own ho (fun b e => ?_),hi.keep hP (fun b cs hb hB => hn b cs _ hb (.inl rfl) hB)⟩
 have hl := (ho.lt b e).1
 rcases ho.2 with ⟨h0,_⟩ | ⟨g,cap,cur,k1,k2,k3,k4⟩
 ·rw [h0] at e; cases e
 ·rw [k1] at e; simp [Value.ownBlock] at e; subst e; exact hn _ _ _ k3 (.inr rfl) hl
def StateIn (X : World) (B : Nat) (d : StD) (c : List Value) : Prop := ∃ ev xv,c = [.int .i64 d.parent,.int .i64 d.initial,ev,xv] ∧ StmsV X B ev d.entry ∧ StmsV X B xv d.exit
def StatesIn (X : World) (B : Nat) (ds : List StD) (R : List (List Value)) : Prop := R.length = ds.length ∧ ∀ i,i < ds.length → StateIn X B (ds.getD i st0) (R.getD i [])
theorem StateIn.keep {P : Nat → Prop} {X Y : World} {B : Nat} {d : StD} {c : List Value} (h : StateIn X B d c) (hP : OnlyP P X Y) (hn : ∀ b cs t,X.heap[b]? = some (.cells cs t (0,0)) → (t = 107 ∨ t = 105) → B ≤ b → ¬ P b) : StateIn Y B d c := by
 obtain ⟨ev,xv,e,h1,h2⟩ := h
 exact ⟨ev,xv,e,h1.keep hP hn,h2.keep hP hn⟩
theorem StatesIn.keep {P : Nat → Prop} {X Y : World} {B : Nat} {ds : List StD} {R : List (List Value)} (h : StatesIn X B ds R) (hP : OnlyP P X Y) (hn : ∀ b cs t,X.heap[b]? = some (.cells cs t (0,0)) → (t = 107 ∨ t = 105) → B ≤ b → ¬ P b) : StatesIn Y B ds R := ⟨h.1,fun i hi => (h.2 i hi).keep hP hn⟩
theorem StatesIn.snoc {X : World} {B : Nat} {ds : List StD} {R : List (List Value)} {d : StD} {c : List Value} (h : StatesIn X B ds R) (hc : StateIn X B d c) : StatesIn X B (ds ++ [d]) (R ++ [c]) := ⟨by simp [h.1],fun i hi => by
 rw [getD_end,getD_end,h.1]
 by_cases hl : i < ds.length
 ·rw [if_pos hl,if_pos hl]; exact h.2 i hl
 ·obtain rfl : i = ds.length := by simp at hi; omega
  rw [if_neg hl,if_neg hl,if_pos rfl,if_pos rfl]; exact hc⟩
structure ChI (w : World) (cb : Nat) (co : Option Addr) (n cap A : Nat) (lx : Array Value) (sv tv : Value) (ss : List StD) (R : List (List Value)) (X : World) (σ : Cs) (F : Prop) : Prop where
 cur : Cur X cb co n cap A σ F
 dw : Dw cb w X
 lb : X.heap[w.heap.size]? = some (.cells lx 81 (0,0))
 r : X.heap[w.heap.size + 1]? = some (.cells #[.slice none 0 0,.slice none 0 0] 64 (0,0))
 c : X.heap[w.heap.size + 1 + 1]? = some (.cells #[sv,tv] 64 (0,0))
 so : X.ownsRow (w.heap.size + 1 + 1 + 1) 71 4 sv ss.length R.flatten
 si : StatesIn X (w.heap.size + 1 + 1 + 1) ss R
 cb0 : cb < w.heap.size
 g0 : 0 < n → ∀ g o,co = some ⟨g,o,none⟩ → g < w.heap.size
section
variable {w : World} {cb : Nat} {co : Option Addr} {n cap A A' : Nat} {lx : Array Value} {sv tv : Value} {ss : List StD} {R : List (List Value)} {X Y : World} {P : Nat → Prop} {σ τ : Cs} {F G : Prop}
theorem ChI.keep (h : ChI w cb co n cap A lx sv tv ss R X σ F) (hP : OnlyP P X Y) (h1 : ∀ q,P q → w.heap.size + 1 + 1 + 1 ≤ q) (h2 : ∀ q,sv.ownBlock = some q → ¬ P q) (h3 : ∀ b cs t,X.heap[b]? = some (.cells cs t (0,0)) → (t = 107 ∨ t = 105) → w.heap.size + 1 + 1 + 1 ≤ b → ¬ P b) : ChI w cb co n cap A lx sv tv ss R Y σ F := by
 have c0 := h.cb0
 have no : ∀ q,q < w.heap.size + 1 + 1 + 1 → ¬ P q := fun q hq e => by have := h1 q e; omega
 exact ⟨h.cur.only hP (no cb (by omega)) (fun hn g o e => no g (by have := h.g0 hn g o e; omega)),⟨hP.os.trans h.dw.os,hP.tape.trans h.dw.tape,hP.output.trans h.dw.output,Nat.le_trans h.dw.size hP.size,fun q hq hn => (hP.block q (Nat.lt_of_lt_of_le hq h.dw.size) (no q (by omega))).trans (h.dw.block q hq hn)⟩,(hP.block _ (lt_of_block h.lb) (no _ (by omega))).trans h.lb,(hP.block _ (lt_of_block h.r) (no _ (by omega))).trans h.r,(hP.block _ (lt_of_block h.c) (no _ (by omega))).trans h.c,hP.own h.so h2,h.si.keep hP h3,c0,h.g0⟩
theorem ChI.fact (h : ChI w cb co n cap A lx sv tv ss R X σ F) (hg : G) : ChI w cb co n cap A lx sv tv ss R X σ G := ⟨h.cur.with hg,h.dw,h.lb,h.r,h.c,h.so,h.si,h.cb0,h.g0⟩
theorem ChI.below (h : ChI w cb co n cap A lx sv tv ss R X σ F) (hb : Below X.heap.size X Y) : ChI w cb co n cap A lx sv tv ss R Y σ F :=
 h.keep (Below.toP (P := fun _ => False) hb) (fun _ e => e.elim) (fun _ _ e => e) (fun _ _ _ _ _ _ e => e)
theorem ChI.draw (h : ChI w cb co n cap A lx sv tv ss R X σ F) (hd : Dw cb X Y) (hc : Cur Y cb co n cap A' τ G) : ChI w cb co n cap A' lx sv tv ss R Y τ G := by
 have c0 := h.cb0
 exact ⟨hc,h.dw.trans hd,hd.at h.lb (by omega),hd.at h.r (by omega),hd.at h.c (by omega),hd.own h.cur h.so (by decide),h.si.keep hd (fun b _ _ _ _ hb e => by omega),c0,h.g0⟩
theorem ch_start (h : Cur w cb co n cap A σ F) : ChI w cb co n cap A lx (.slice none 0 0) (.slice none 0 0) [] [] (((w.alloc (.cells lx 81)).alloc (.cells #[.slice none 0 0,.slice none 0 0] 64)).alloc (.cells #[.slice none 0 0,.slice none 0 0] 64)) σ F := by
 have h2 := heap_alloc_new (w.alloc (.cells lx 81)) (.cells #[.slice none 0 0,.slice none 0 0] 64)
 have h3 := heap_alloc_new ((w.alloc (.cells lx 81)).alloc (.cells #[.slice none 0 0,.slice none 0 0] 64)) (.cells #[.slice none 0 0,.slice none 0 0] 64)
 simp only [World.size_alloc] at h2 h3
 exact ⟨h.below (below3 _ _ _ _),((dw_alloc _ _ _).trans (dw_alloc _ _ _)).trans (dw_alloc _ _ _),block_below (block_below (heap_alloc_new w _) (below1 _ _)) (below1 _ _),block_below h2 (below1 _ _),h3,World.ownsRow_nil _ _ _ _,⟨rfl,fun i hi => absurd hi (by simp)⟩,h.lt,h.code_lt⟩
theorem ChI.add {v' : Value} {d : StD} {c : List Value} (h : ChI w cb co n cap A lx sv tv ss R X σ F) (hc : StateIn X (w.heap.size + 1 + 1 + 1) d c) (hg : X.grownBy Y sv.ownBlock) (ho : Y.ownsRow (w.heap.size + 1 + 1 + 1) 71 4 v' (ss.length + 1) (R.flatten ++ c)) : ChI w cb co n cap A lx v' tv (ss ++ [d]) (R ++ [c]) (Y.setCell ⟨w.heap.size + 1 + 1,0,none⟩ v') σ F := by
 have c0 := h.cb0
 have gP := grP hg
 have sP : OnlyP (fun q => q = w.heap.size + 1 + 1) Y (Y.setCell ⟨w.heap.size + 1 + 1,0,none⟩ v') := OnlyP.set _ rfl
 have g1 : ∀ q,sv.ownBlock = some q → w.heap.size + 1 + 1 + 1 ≤ q := fun q e => (h.so.lt q e).1
 have g3 : ∀ b cs t,X.heap[b]? = some (.cells cs t (0,0)) → (t = 107 ∨ t = 105) → w.heap.size + 1 + 1 + 1 ≤ b → ¬ sv.ownBlock = some b := fun b cs t hb ht _ e => by
  rcases ht with rfl | rfl
  ·exact own_far h.so (by decide) hb e
  ·exact own_far h.so (by decide) hb e
 have s3 : ∀ b cs t,Y.heap[b]? = some (.cells cs t (0,0)) → (t = 107 ∨ t = 105) → w.heap.size + 1 + 1 + 1 ≤ b → ¬ b = w.heap.size + 1 + 1 := fun b _ _ _ _ hb e => by omega
 have bY := (gP.block _ (lt_of_block h.c) (fun e => by have := g1 _ e; omega)).trans h.c
 have aP : OnlyP (fun q => w.heap.size + 1 + 1 ≤ q) X (Y.setCell ⟨w.heap.size + 1 + 1,0,none⟩ v') := (gP.mono (fun q e => by have := g1 q e; omega)).trans (sP.mono (fun q e => by omega))
 refine ⟨h.cur.only aP (by omega) (fun hn g o e => by have := h.g0 hn g o e; omega),⟨aP.os.trans h.dw.os,aP.tape.trans h.dw.tape,aP.output.trans h.dw.output,Nat.le_trans h.dw.size aP.size,fun q hq hn => (aP.block q (Nat.lt_of_lt_of_le hq h.dw.size) (by omega)).trans (h.dw.block q hq hn)⟩,(aP.block _ (lt_of_block h.lb) (by omega)).trans h.lb,(aP.block _ (lt_of_block h.r) (by omega)).trans h.r,by rw [heap_setCell_same Y _ 0 _ _ v' bY]; rfl,sP.own (by simpa using ho) (fun q e e2 => by have := (ho.lt q e).1; omega),((h.si.keep gP g3).snoc (hc.keep gP g3)).keep sP s3,c0,h.g0⟩
end
def StsOk (l : LimD) (ss : List StD) : Prop := ∀ i,i < ss.length → (i = 0 → (ss.getD i st0).parent = -1) ∧ (0 < i → 0 ≤ (ss.getD i st0).parent ∧ (ss.getD i st0).parent < i) ∧ stmsB l (ss.getD i st0).entry = true ∧ stmsB l (ss.getD i st0).exit = true
theorem StsOk.snoc {l : LimD} {ss : List StD} {d : StD} (h : StsOk l ss) (h1 : ss.length = 0 → d.parent = -1) (h2 : 0 < ss.length → 0 ≤ d.parent ∧ d.parent < ss.length) (h3 : stmsB l d.entry = true) (h4 : stmsB l d.exit = true) : StsOk l (ss ++ [d]) := by
 intro i hi
 rw [getD_end]
 by_cases hl : i < ss.length
 ·rw [if_pos hl]; exact h i hl
 ·obtain rfl : i = ss.length := by simp at hi; omega
  rw [if_neg hl,if_pos rfl]; exact ⟨h1,h2,h3,h4⟩
end Go.Proofs.YtkdgkomnbjepdaaGreatDoor
namespace Go.Proofs.YtkdgkomnbjepdaaGreatDoor
open Go.RowKit Go.Sort
set_option linter.unusedVariables false
attribute [local go_sem ↓] Go.wp_at_zero Go.wp_at_succ
theorem own_setc {w : World} {B : Nat} {e : TypeId} {size g n cap j : Nat} {u : Value} {xs : List Value} (h : w.ownsRow B e size (.slice (some ⟨g,0,none⟩) n cap) n xs) (hj : j < n * size) : (w.setCell ⟨g,j,none⟩ u).ownsRow B e size (.slice (some ⟨g,0,none⟩) n cap) n (xs.set j u) := by
 obtain ⟨hl,h2⟩ := h
 refine ⟨by rw [List.length_set]; exact hl,?_⟩
 rcases h2 with ⟨e0,_⟩ | ⟨g',cap',cur,ev,hb,hh,h4,h5,h6,h7⟩
 ·cases e0
 ·simp only [Value.slice.injEq,Option.some.injEq,Addr.mk.injEq] at ev
  obtain ⟨⟨rfl,_,_⟩,_,rfl⟩ := ev
  refine .inr ⟨g,cap,cur.setIfInBounds j u,rfl,hb,heap_setCell_same w g j _ _ u hh,h4,h5,by simpa using h6,?_⟩
  rw [Array.toList_setIfInBounds,List.take_set,h7]
theorem flat4_set {R : List (List Value)} (hl : ∀ i,i < R.length → (R.getD i []).length = 4) : ∀ {i j : Nat} {u : Value},i < R.length → j < 4 → R.flatten.set (i * 4 + j) u = (R.set i ((R.getD i []).set j u)).flatten := by
 induction R with
 | nil => intro i j u hi; simp at hi
 | cons c r ih =>
  intro i j u hi hj
  have hc : c.length = 4 := hl 0 (by simp)
  cases i with
  | zero =>
   simp only [List.flatten_cons,List.set_cons_zero,List.getD_cons_zero]
   rw [List.set_append_left _ _ (by omega)]
   simp
  | succ i =>
   have hr := ih (fun k hk => by have := hl (k + 1) (by simp; omega); simpa using this) (i := i) (j := j) (u := u) (by simpa using hi) hj
   simp only [List.flatten_cons,List.set_cons_succ,List.getD_cons_succ]
   rw [List.set_append_right _ _ (by omega),← hr,hc,show (i + 1) * 4 + j - 4 = i * 4 + j by omega]
def setIni (ss : List StD) (i : Nat) (x : Int) : List StD := ss.set i ⟨(ss.getD i st0).parent,x,(ss.getD i st0).entry,(ss.getD i st0).exit⟩
theorem getD_set {α : Type} (l : List α) (i q : Nat) (x d : α) (hi : i < l.length) : (l.set i x).getD q d = if q = i then x else l.getD q d := by
 by_cases e : q = i
 ·subst e; rw [if_pos rfl]; simp [hi]
 ·rw [if_neg e]; simp [List.getD_eq_getElem?_getD,List.getElem?_set_ne (Ne.symm e)]
theorem setIni_len (ss : List StD) (i : Nat) (x : Int) : (setIni ss i x).length = ss.length := by simp [setIni]
theorem setIni_at {ss : List StD} {i : Nat} {x : Int} (hi : i < ss.length) (q : Nat) : ((setIni ss i x).getD q st0).parent = (ss.getD q st0).parent ∧ ((setIni ss i x).getD q st0).entry = (ss.getD q st0).entry ∧ ((setIni ss i x).getD q st0).exit = (ss.getD q st0).exit ∧ ((setIni ss i x).getD q st0).initial = if q = i then x else (ss.getD q st0).initial := by
 unfold setIni
 rw [getD_set _ _ _ _ _ hi]
 by_cases e : q = i
 ·subst e; rw [if_pos rfl,if_pos rfl]; exact ⟨rfl,rfl,rfl,rfl⟩
 ·rw [if_neg e,if_neg e]; exact ⟨rfl,rfl,rfl,rfl⟩
theorem ChI.setIni {w : World} {cb : Nat} {co : Option Addr} {n cap A g gc i : Nat} {lx : Array Value} {tv : Value} {ss : List StD} {R : List (List Value)} {X : World} {x : Int} {σ : Cs} {F : Prop} (h : ChI w cb co n cap A lx (.slice (some ⟨g,0,none⟩) ss.length gc) tv ss R X σ F) (hi : i < ss.length) : ∃ R',ChI w cb co n cap A lx (.slice (some ⟨g,0,none⟩) ss.length gc) tv (Proofs.YtkdgkomnbjepdaaGreatDoor.setIni ss i x) R' (X.setCell ⟨g,i * 4 + 1,none⟩ (.int .i64 x)) σ F := by
 have c0 := h.cb0
 have gl := (World.ownsRow.lt h.so g rfl).1
 have hP : OnlyP (fun q => q = g) X (X.setCell ⟨g,i * 4 + 1,none⟩ (.int .i64 x)) := OnlyP.set _ rfl
 have h4 : ∀ q,q < R.length → (R.getD q []).length = 4 := fun q hq => by
  obtain ⟨ev,xv,e,_⟩ := h.si.2 q (by rw [← h.si.1]; exact hq)
  rw [e]; rfl
 obtain ⟨cs,hcs⟩ : ∃ cs,X.heap[g]? = some (.cells cs 71 (0,0)) := by
  rcases h.so.2 with ⟨e0,_⟩ | ⟨g',cap',cur,ev,_,hh,_⟩
  ·cases e0
  ·simp only [Value.slice.injEq,Option.some.injEq,Addr.mk.injEq] at ev
   exact ⟨cur,by rw [ev.1.1]; exact hh⟩
 have hR : i < R.length := by rw [h.si.1]; exact hi
 have n3 : ∀ b cs t,X.heap[b]? = some (.cells cs t (0,0)) → (t = 107 ∨ t = 105) → w.heap.size + 1 + 1 + 1 ≤ b → ¬ b = g := fun b cs' t hb ht _ e => by
  rw [e,hcs] at hb
  simp at hb
  rcases ht with rfl | rfl
  ·exact absurd hb.2 (by decide)
  ·exact absurd hb.2 (by decide)
 refine ⟨R.set i ((R.getD i []).set 1 (.int .i64 x)),⟨h.cur.only hP (by omega) (fun hn g' o e => by have := h.g0 hn g' o e; omega),⟨hP.os.trans h.dw.os,hP.tape.trans h.dw.tape,hP.output.trans h.dw.output,Nat.le_trans h.dw.size hP.size,fun q hq hn => (hP.block q (Nat.lt_of_lt_of_le hq h.dw.size) (by omega)).trans (h.dw.block q hq hn)⟩,(hP.block _ (lt_of_block h.lb) (by omega)).trans h.lb,(hP.block _ (lt_of_block h.r) (by omega)).trans h.r,(hP.block _ (lt_of_block h.c) (by omega)).trans h.c,?_,⟨by simp [setIni_len,h.si.1],fun q hq => ?_⟩,c0,h.g0⟩⟩
 ·rw [setIni_len,← flat4_set h4 hR (by omega)]
  exact own_setc h.so (by omega)
 ·have hq' : q < ss.length := by rw [setIni_len] at hq; exact hq
  obtain ⟨ev,xv,e,h1,h2⟩ := (h.si.keep hP n3).2 q hq'
  obtain ⟨a1,a2,a3,a4⟩ := setIni_at (x := x) hi q
  rw [getD_set _ _ _ _ _ hR]
  refine ⟨ev,xv,?_,by rw [a2]; exact h1,by rw [a3]; exact h2⟩
  rw [a1,a4]
  by_cases eq : q = i
  ·subst eq; rw [if_pos rfl,if_pos rfl,e]; rfl
  ·rw [if_neg eq,if_neg eq,e]
end Go.Proofs.YtkdgkomnbjepdaaGreatDoor
namespace Go.Proofs.YtkdgkomnbjepdaaGreatDoor
open Go.RowKit Go.Sort
set_option linter.unusedVariables false
attribute [local go_sem ↓] Go.wp_at_zero Go.wp_at_succ
theorem flat4r {R : List (List Value)} (hl : ∀ i,i < R.length → (R.getD i []).length = 4) : ∀ {i j : Nat},i < R.length → j < 4 → R.flatten[i * 4 + j]? = (R.getD i [])[j]? := by
 induction R with
 | nil => intro i j hi; simp at hi
 | cons c r ih =>
  intro i j hi hj
  have hc : c.length = 4 := hl 0 (by simp)
  cases i with
  | zero => simp only [List.flatten_cons,List.getD_cons_zero,Nat.zero_mul,Nat.zero_add]; rw [List.getElem?_append_left (by omega)]
  | succ i =>
   have hr := ih (fun k hk => by have := hl (k + 1) (by simp; omega); simpa using this) (i := i) (j := j) (by simpa using hi) hj
   simp only [List.flatten_cons,List.getD_cons_succ]
   rw [List.getElem?_append_right (by omega),← hr,hc,show (i + 1) * 4 + j - 4 = i * 4 + j by omega]
theorem ChI.cells {w : World} {cb : Nat} {co : Option Addr} {n cap A g gc j k : Nat} {lx : Array Value} {tv : Value} {ss : List StD} {R : List (List Value)} {X : World} {σ : Cs} {F : Prop} (h : ChI w cb co n cap A lx (.slice (some ⟨g,0,none⟩) k gc) tv ss R X σ F) (hk : ss.length = k) (hj : j < k) : X.cell? ⟨g,j * 4,none⟩ = some (.int .i64 (ss.getD j st0).parent) ∧ X.cell? ⟨g,j * 4 + 1,none⟩ = some (.int .i64 (ss.getD j st0).initial) ∧ g < X.heap.size ∧ X.frozen? ⟨g,j * 4 + 1,none⟩ = false := by
 subst hk
 have h4 : ∀ q,q < R.length → (R.getD q []).length = 4 := fun q hq => by
  obtain ⟨ev,xv,e,_⟩ := h.si.2 q (by rw [← h.si.1]; exact hq)
  rw [e]; rfl
 have hR : j < R.length := by rw [h.si.1]; exact hj
 obtain ⟨ev,xv,e,_⟩ := h.si.2 j hj
 have f0 := flat4r h4 (i := j) (j := 0) hR (by omega)
 have f1 := flat4r h4 (i := j) (j := 1) hR (by omega)
 rw [e] at f0 f1
 refine ⟨?_,?_,(World.ownsRow.lt h.so g rfl).2,?_⟩
 ·rw [World.ownsRow.cellAt h.so (j * 4) (by omega)]; exact f0
 ·rw [World.ownsRow.cellAt h.so (j * 4 + 1) (by omega)]; exact f1
 ·rcases h.so.2 with ⟨e0,_⟩ | ⟨g',cap',cur,ev',_,hh,_⟩
  ·cases e0
  ·simp only [Value.slice.injEq,Option.some.injEq,Addr.mk.injEq] at ev'
   exact frozen_of_row X g _ cur _ (by rw [ev'.1.1]; exact hh)
theorem StsOk.setIni {l : LimD} {ss : List StD} {i : Nat} {x : Int} (h : StsOk l ss) (hi : i < ss.length) : StsOk l (Proofs.YtkdgkomnbjepdaaGreatDoor.setIni ss i x) := by
 intro q hq
 obtain ⟨a1,a2,a3,a4⟩ := setIni_at (x := x) hi q
 have := h q (by rw [setIni_len] at hq; exact hq)
 rw [a1,a2,a3]
 exact this
structure InS (l : LimD) (k i j : Nat) (ss : List StD) : Prop where
 len : ss.length = k
 ok : StsOk l ss
 lo : ∀ a,a < i → IniI ss k a
 at' : i < k → IniI ss j i
 hi : ∀ a,i < a → a < k → (ss.getD a st0).initial = -1
theorem kids_setIni {ss : List StD} {i : Nat} {x : Int} (hi : i < ss.length) (m a : Nat) : kids (setIni ss i x) m a = kids ss m a := by
 unfold kids par
 congr 1
 funext q
 rw [(setIni_at (x := x) hi q).1]
theorem InS.set {l : LimD} {k i j : Nat} {ss : List StD} (h : InS l k i j ss) (hi : i < k) (hj : j < k) (hp : (ss.getD j st0).parent = i) : InS l k i (j + 1) (setIni ss i (j : Int)) := by
 have hl : i < ss.length := by rw [h.len]; exact hi
 refine ⟨by rw [setIni_len]; exact h.len,h.ok.setIni hl,fun a ha => ?_,fun _ => .inr ?_,fun a h1 h2 => by rw [(setIni_at hl a).2.2.2,if_neg (by omega)]; exact h.hi a h1 h2⟩
 ·have e : ini (setIni ss i (j : Int)) a = ini ss a := by unfold ini; rw [(setIni_at hl a).2.2.2,if_neg (by omega)]
  have pe : ∀ q,par (setIni ss i (j : Int)) q = par ss q := fun q => by unfold par; exact (setIni_at hl q).1
  have := h.lo a ha
  unfold IniI at this ⊢
  rw [e,kids_setIni hl,setIni_len,pe]
  exact this
 ·have e : ini (setIni ss i (j : Int)) i = j := by unfold ini; rw [(setIni_at hl i).2.2.2,if_pos rfl]
  rw [e,setIni_len,h.len]
  refine ⟨by omega,by omega,?_⟩
  unfold par
  rw [(setIni_at hl _).1,show ((j : Int)).toNat = j by omega]
  exact hp
theorem InS.skip {l : LimD} {k i j : Nat} {ss : List StD} (h : InS l k i j ss) (hp : ¬ (ss.getD j st0).parent = i) : InS l k i (j + 1) ss := ⟨h.len,h.ok,h.lo,fun hi => ini_skip (h.at' hi) hp,h.hi⟩
theorem InS.hold {l : LimD} {k i j : Nat} {ss : List StD} (h : InS l k i j ss) (hp : ¬ (ss.getD i st0).initial < 0) : InS l k i (j + 1) ss := ⟨h.len,h.ok,h.lo,fun hi => ini_hold (h.at' hi) (by unfold ini; omega),h.hi⟩
theorem InS.next {l : LimD} {k i : Nat} {ss : List StD} (h : InS l k i k ss) (hi : i < k) : InS l k (i + 1) (i + 2) ss := by
 refine ⟨h.len,h.ok,fun a ha => ?_,fun hk => ?_,fun a h1 h2 => h.hi a (by omega) h2⟩
 ·by_cases e : a = i
  ·subst e; exact h.at' hi
  ·exact h.lo a (by omega)
 ·refine ini_start (i := i + 1) ?_ (fun j h1 h2 => ?_) (by rw [h.len]; exact hk) (h.hi (i + 1) (by omega) hk)
  ·exact (h.ok 0 (by rw [h.len]; omega)).1 rfl
  ·exact (h.ok j h2).2.1 h1
theorem InS.start {l : LimD} {k : Nat} {ss : List StD} (hl : ss.length = k) (hk : 0 < k) (h : StsOk l ss) (hi : ∀ i,i < ss.length → (ss.getD i st0).initial = -1) : InS l k 0 1 ss :=
 ⟨hl,h,fun a ha => absurd ha (by omega),fun _ => ini_start ((h 0 (by omega)).1 rfl) (fun j h1 h2 => (h j h2).2.1 h1) (by omega) (hi 0 (by omega)),fun a _ h2 => hi a (by omega)⟩
end Go.Proofs.YtkdgkomnbjepdaaGreatDoor
namespace Go.Proofs.YtkdgkomnbjepdaaGreatDoor
open Go.RowKit Go.Sort
set_option linter.unusedVariables false
attribute [local go_sem ↓] Go.wp_at_zero Go.wp_at_succ
def TrIn (X : World) (B : Nat) (d : TrD) (c : List Value) : Prop := ∃ gv av,c = [.int .i64 d.src,.int .i64 d.sig,gv,.int .i64 d.target,av] ∧ CodeV X B gv d.guard ∧ StmsV X B av d.action
def TrsIn (X : World) (B : Nat) (ds : List TrD) (Q : List (List Value)) : Prop := Q.length = ds.length ∧ ∀ i,i < ds.length → TrIn X B (ds.getD i tr0) (Q.getD i [])
theorem CodeV.keep {P : Nat → Prop} {X Y : World} {B : Nat} {v : Value} {its : List (Int × Int)} (h : CodeV X B v its) (hP : OnlyP P X Y) (hn : ∀ b cs t,X.heap[b]? = some (.cells cs t (0,0)) → (t = 107 ∨ t = 105) → B ≤ b → ¬ P b) : CodeV Y B v its := by
 refine hP.own h (fun b e => ?_)
 have hl := (World.ownsRow.lt h b e).1
 rcases h.2 with ⟨h0,_⟩ | ⟨g,cap,cur,k1,k2,k3,k4⟩
 ·rw [h0] at e; cases e
 ·rw [k1] at e; simp [Value.ownBlock] at e; subst e; exact hn _ _ _ k3 (.inl rfl) hl
theorem TrIn.keep {P : Nat → Prop} {X Y : World} {B : Nat} {d : TrD} {c : List Value} (h : TrIn X B d c) (hP : OnlyP P X Y) (hn : ∀ b cs t,X.heap[b]? = some (.cells cs t (0,0)) → (t = 107 ∨ t = 105) → B ≤ b → ¬ P b) : TrIn Y B d c := by
 obtain ⟨gv,av,e,h1,h2⟩ := h
 exact ⟨gv,av,e,h1.keep hP hn,h2.keep hP hn⟩
theorem TrsIn.keep {P : Nat → Prop} {X Y : World} {B : Nat} {ds : List TrD} {Q : List (List Value)} (h : TrsIn X B ds Q) (hP : OnlyP P X Y) (hn : ∀ b cs t,X.heap[b]? = some (.cells cs t (0,0)) → (t = 107 ∨ t = 105) → B ≤ b → ¬ P b) : TrsIn Y B ds Q := ⟨h.1,fun i hi => (h.2 i hi).keep hP hn⟩
theorem TrsIn.snoc {X : World} {B : Nat} {ds : List TrD} {Q : List (List Value)} {d : TrD} {c : List Value} (h : TrsIn X B ds Q) (hc : TrIn X B d c) : TrsIn X B (ds ++ [d]) (Q ++ [c]) := ⟨by simp [h.1],fun i hi => by
 rw [getD_end,getD_end,h.1]
 by_cases hl : i < ds.length
 ·rw [if_pos hl,if_pos hl]; exact h.2 i hl
 ·obtain rfl : i = ds.length := by simp at hi; omega
  rw [if_neg hl,if_neg hl,if_pos rfl,if_pos rfl]; exact hc⟩
structure CtI (w : World) (cb : Nat) (co : Option Addr) (n cap A : Nat) (lx : Array Value) (sv tv : Value) (ss : List StD) (R : List (List Value)) (ts : List TrD) (Q : List (List Value)) (X : World) (σ : Cs) (F : Prop) : Prop where
 ch : ChI w cb co n cap A lx sv tv ss R X σ F
 tw : X.ownsRow (w.heap.size + 1 + 1 + 1) 75 5 tv ts.length Q.flatten
 ti : TrsIn X (w.heap.size + 1 + 1 + 1) ts Q
section
variable {w : World} {cb : Nat} {co : Option Addr} {n cap A A' : Nat} {lx : Array Value} {sv tv : Value} {ss : List StD} {R : List (List Value)} {ts : List TrD} {Q : List (List Value)} {X Y : World} {σ τ : Cs} {F G : Prop}
theorem ct_start (h : ChI w cb co n cap A lx sv (.slice none 0 0) ss R X σ F) : CtI w cb co n cap A lx sv (.slice none 0 0) ss R [] [] X σ F := ⟨h,World.ownsRow_nil _ _ _ _,rfl,fun i hi => absurd hi (by simp)⟩
theorem CtI.draw (h : CtI w cb co n cap A lx sv tv ss R ts Q X σ F) (hd : Dw cb X Y) (hc : Cur Y cb co n cap A' τ G) : CtI w cb co n cap A' lx sv tv ss R ts Q Y τ G :=
 ⟨h.ch.draw hd hc,hd.own h.ch.cur h.tw (by decide),h.ti.keep hd (fun b _ _ _ _ hb e => by have := h.ch.cb0; omega)⟩
theorem CtI.fact (h : CtI w cb co n cap A lx sv tv ss R ts Q X σ F) (hg : G) : CtI w cb co n cap A lx sv tv ss R ts Q X σ G := ⟨h.ch.fact hg,h.tw,h.ti⟩
theorem CtI.below (h : CtI w cb co n cap A lx sv tv ss R ts Q X σ F) (hb : Below X.heap.size X Y) : CtI w cb co n cap A lx sv tv ss R ts Q Y σ F :=
 ⟨h.ch.below hb,ownsRow_below h.tw hb,h.ti.keep (Below.toP (P := fun _ => False) hb) (fun _ _ _ _ _ _ e => e)⟩
theorem CtI.mono (h : CtI w cb co n cap A lx sv tv ss R ts Q X σ F) (hA : A ≤ A') : CtI w cb co n cap A' lx sv tv ss R ts Q X σ F := ⟨⟨h.ch.cur.mono hA,h.ch.dw,h.ch.lb,h.ch.r,h.ch.c,h.ch.so,h.ch.si,h.ch.cb0,h.ch.g0⟩,h.tw,h.ti⟩
theorem CtI.add {v' : Value} {d : TrD} {c : List Value} (h : CtI w cb co n cap A lx sv tv ss R ts Q X σ F) (hc : TrIn X (w.heap.size + 1 + 1 + 1) d c) (hg : X.grownBy Y tv.ownBlock) (ho : Y.ownsRow (w.heap.size + 1 + 1 + 1) 75 5 v' (ts.length + 1) (Q.flatten ++ c)) : CtI w cb co n cap A lx sv v' ss R (ts ++ [d]) (Q ++ [c]) (Y.setCell ⟨w.heap.size + 1 + 1,1,none⟩ v') σ F := by
 have gP := grP hg
 have sP : OnlyP (fun q => q = w.heap.size + 1 + 1) Y (Y.setCell ⟨w.heap.size + 1 + 1,1,none⟩ v') := OnlyP.set _ rfl
 have g1 : ∀ q,tv.ownBlock = some q → w.heap.size + 1 + 1 + 1 ≤ q := fun q e => (h.tw.lt q e).1
 have far : ∀ b cs t,X.heap[b]? = some (.cells cs t (0,0)) → (t = 107 ∨ t = 105) → w.heap.size + 1 + 1 + 1 ≤ b → ¬ tv.ownBlock = some b := fun b cs t hb ht _ e => by
  rcases ht with rfl | rfl
  ·exact own_far h.tw (by decide) hb e
  ·exact own_far h.tw (by decide) hb e
 have s3 : ∀ b cs t,Y.heap[b]? = some (.cells cs t (0,0)) → (t = 107 ∨ t = 105) → w.heap.size + 1 + 1 + 1 ≤ b → ¬ b = w.heap.size + 1 + 1 := fun b _ _ _ _ hb e => by omega
 have sne : ∀ q,sv.ownBlock = some q → ¬ tv.ownBlock = some q := fun q e e2 => by
  rcases h.ch.so.2 with ⟨h0,_⟩ | ⟨g,cap',cur,k1,k2,k3,k4⟩
  ·rw [h0] at e; cases e
  ·rw [k1] at e; simp [Value.ownBlock] at e; subst e; exact own_far h.tw (by decide) k3 e2
 have hY := h.ch.keep gP g1 sne far
 have c0 := h.ch.cb0
 refine ⟨⟨hY.cur.only sP (by omega) (fun hn g o e => by have := hY.g0 hn g o e; omega),⟨sP.os.trans hY.dw.os,sP.tape.trans hY.dw.tape,sP.output.trans hY.dw.output,Nat.le_trans hY.dw.size sP.size,fun q hq hn => (sP.block q (Nat.lt_of_lt_of_le hq hY.dw.size) (by omega)).trans (hY.dw.block q hq hn)⟩,(sP.block _ (lt_of_block hY.lb) (by omega)).trans hY.lb,(sP.block _ (lt_of_block hY.r) (by omega)).trans hY.r,by rw [heap_setCell_same Y _ 1 _ _ v' hY.c]; rfl,sP.own hY.so (fun q e e2 => by have := (hY.so.lt q e).1; omega),hY.si.keep sP s3,c0,hY.g0⟩,sP.own (by simpa using ho) (fun q e e2 => by have := (ho.lt q e).1; omega),((h.ti.keep gP far).snoc (hc.keep gP far)).keep sP s3⟩
end
end Go.Proofs.YtkdgkomnbjepdaaGreatDoor
