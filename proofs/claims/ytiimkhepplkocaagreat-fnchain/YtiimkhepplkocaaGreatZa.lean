import Derived.Test.YtiimkhepplkocaaGreatWa
import Derived.Test.YtiimkhepplkocaaGreatP2
import Derived.Test.YtiimkhepplkocaaGreatVb
import Derived.Carry
import Derived.Test.YtiimkhepplkocaaGreatZ0
namespace Go.Proofs.YtiimkhepplkocaaGreat
open Go.RowKit Go.Sort
set_option linter.unusedVariables false
attribute [local go_sem ↓] Go.wp_at_zero Go.wp_at_succ
theorem fault_zero {ss : List StD} {tn : Nat} {lim : Bool} (h : (faultOf ss tn lim).1 = 0) : faultOf ss tn lim = (0, 0) := by
 unfold faultOf at h ⊢
 by_cases hc : 1 ≤ ss.length ∧ ss.length ≤ 200 ∧ tn ≤ 500 ∧ lim = true
 ·rw [if_pos hc] at h ⊢
  cases h1 : firstB (badP ss) ss.length with
  | some i => simp [h1] at h
  | none =>
   cases h2 : firstB (badD ss) ss.length with
   | some i => simp [h1, h2] at h
   | none =>
    cases h3 : firstB (badI ss) ss.length with
    | some i => simp [h1, h2, h3] at h
    | none => simp
 ·rw [if_neg hc] at h
  simp at h
structure Chk (ss : List StD) (ts : List TrD) (l : LimD) : Prop where
 flt : faultOf ss ts.length (limB l) = (0, 0)
 good : GoodT ss ts.length
 lim : limP l
 ent : ∀ i, i < ss.length → ∃ vs, liftAll l (ss.getD i st0).entry = some vs
 ext : ∀ i, i < ss.length → ∃ vs, liftAll l (ss.getD i st0).exit = some vs
 src : ∀ j, j < ts.length → 0 ≤ (ts.getD j tr0).src ∧ (ts.getD j tr0).src < ss.length
 sig : ∀ j, j < ts.length → 0 ≤ (ts.getD j tr0).sig ∧ (ts.getD j tr0).sig < l.s
 tgt : ∀ j, j < ts.length → -1 ≤ (ts.getD j tr0).target ∧ (ts.getD j tr0).target < ss.length
 grd : ∀ j, j < ts.length → (ts.getD j tr0).guard = [] ∨ ((ts.getD j tr0).guard ≠ [] ∧ ∃ t, liftT (ts.getD j tr0).guard l.v = some t)
 act : ∀ j, j < ts.length → ∃ vs, liftAll l (ts.getD j tr0).action = some vs
theorem chk_of {ss : List StD} {ts : List TrD} {l : LimD} (h : (checkOf ss ts l).1 = 0) : Chk ss ts l := by
 have f0 : (faultOf ss ts.length (limB l)).1 = 0 := by
  by_cases c : (faultOf ss ts.length (limB l)).1 = 0
  ·exact c
  ·unfold checkOf at h; rw [if_neg c] at h; exact h
 have lm : limP l := by
  unfold faultOf at f0
  split at f0
  ·rename_i hc; have := hc.2.2.2; unfold limB at this; exact of_decide_eq_true this
  ·simp at f0
 unfold checkOf at h
 rw [if_pos f0] at h
 cases e1 : firstB (badA l ss) ss.length with
 | some i => rw [e1] at h; simp at h
 | none =>
  rw [e1] at h
  simp only at h
  cases e2 : firstB (badT ss.length l ts) ts.length with
  | some j => rw [e2] at h; simp at h
  | none =>
   have hA := firstB_none_iff e1
   have hT := firstB_none_iff e2
   have tr : ∀ j, j < ts.length → okTr ss.length l (ts.getD j tr0) = true := fun j hj => by
    have := hT j hj
    unfold badT at this
    simpa using this
   have un : ∀ j, j < ts.length → betB (ts.getD j tr0).src 0 ((ss.length : Int) - 1) = true ∧ betB (ts.getD j tr0).sig 0 (l.s - 1) = true ∧ betB (ts.getD j tr0).target (-1) ((ss.length : Int) - 1) = true ∧ grdB l (ts.getD j tr0).guard = true ∧ stmsB l (ts.getD j tr0).action = true := fun j hj => by
    have := tr j hj
    unfold okTr at this
    simpa only [Bool.and_eq_true] using this
   have some_of : ∀ x, stmsB l x = true → ∃ vs, liftAll l x = some vs := fun x hx => Option.isSome_iff_exists.1 (by rw [liftAll_stmsB]; exact hx)
   have st : ∀ i, i < ss.length → stmsB l (ss.getD i st0).entry = true ∧ stmsB l (ss.getD i st0).exit = true := fun i hi => by
    have := hA i hi
    unfold badA at this
    simpa only [Bool.not_eq_false', Bool.and_eq_true] using this
   refine ⟨fault_zero f0, good_of f0, lm, fun i hi => some_of _ (st i hi).1, fun i hi => some_of _ (st i hi).2, fun j hj => ?_, fun j hj => ?_, fun j hj => ?_, fun j hj => ?_, fun j hj => some_of _ (un j hj).2.2.2.2⟩
   ·have := (un j hj).1; unfold betB at this; have := of_decide_eq_true this; omega
   ·have := (un j hj).2.1; unfold betB at this; have := of_decide_eq_true this; omega
   ·have := (un j hj).2.2.1; unfold betB at this; have := of_decide_eq_true this; omega
   ·have := (un j hj).2.2.2.1
    unfold grdB at this
    rw [Bool.or_eq_true, decide_eq_true_iff] at this
    by_cases c : (ts.getD j tr0).guard = []
    ·exact .inl c
    ·refine .inr ⟨c, ?_⟩
     rcases this with h1 | h1
     ·exact absurd (List.length_eq_zero_iff.1 h1) c
     ·exact Option.isSome_iff_exists.1 (by rw [okT_codeB]; exact h1)
structure Turn (S : Nat → Prop) (B : Nat) (w w' : World) : Prop where
 os : w'.os = w.os
 tape : w'.tape = w.tape
 output : w'.output = w.output
 size : w.heap.size ≤ w'.heap.size
 low : ∀ k, k < B → k < w.heap.size → w'.heap[k]? = w.heap[k]?
 other : ∀ (k : Nat) (cs : Array Value) (t : TypeId) (fr : Nat × Nat), w.heap[k]? = some (Obj.cells cs t fr) → ¬ S t → w'.heap[k]? = w.heap[k]?
 rest : ∀ (k : Nat) (ob : Obj), w.heap[k]? = some ob → (∀ cs t fr, ob ≠ Obj.cells cs t fr) → w'.heap[k]? = w.heap[k]?
theorem Turn.trans {S : Nat → Prop} {B : Nat} {a b c : World} (h : Turn S B a b) (k : Turn S B b c) : Turn S B a c :=
 ⟨k.os.trans h.os, k.tape.trans h.tape, k.output.trans h.output, Nat.le_trans h.size k.size, fun i hi hs => (k.low i hi (Nat.lt_of_lt_of_le hs h.size)).trans (h.low i hi hs),
  fun i cs t fr e h1 => (k.other i cs t fr ((h.other i cs t fr e h1).trans e) h1).trans (h.other i cs t fr e h1),
  fun i ob e h1 => (k.rest i ob ((h.rest i ob e h1).trans e) h1).trans (h.rest i ob e h1)⟩
theorem Turn.of_below {S : Nat → Prop} {B : Nat} {a b : World} (h : Below a.heap.size a b) : Turn S B a b := ⟨h.os, h.tape, h.output, h.size, fun i _ hs => h.block i hs, fun i _ _ _ e _ => h.block i (lt_of_block e), fun i _ e _ => h.block i (lt_of_block e)⟩
theorem Turn.below {S : Nat → Prop} {B : Nat} {w w' : World} (h : Turn S B w w') (hB : B ≤ w.heap.size) : Below B w w' := ⟨h.os, h.tape, h.output, h.size, fun k hk => h.low k hk (by omega)⟩
theorem Turn.set {S : Nat → Prop} {B : Nat} {w : World} {H o : Nat} {cs : Array Value} {t : TypeId} (hH : w.heap[H]? = some (.cells cs t (0, 0))) (ht : S t) (hB : B ≤ H) (u : Value) : Turn S B w (w.setCell ⟨H, o, none⟩ u) := by
 refine ⟨rfl, rfl, rfl, by simp, fun k hk _ => Below.heap_setCell _ _ _ _ (show k ≠ H by omega), fun k cs' t' fr e h1 => Below.heap_setCell _ _ _ _ ?_, fun k ob e h1 => Below.heap_setCell _ _ _ _ ?_⟩
 ·show k ≠ H
  rintro rfl
  rw [hH] at e
  simp at e
  obtain ⟨_, rfl, _⟩ := e
  exact h1 ht
 ·show k ≠ H
  rintro rfl
  rw [hH] at e
  simp at e
  exact h1 _ _ _ e.symm
theorem Turn.box {S : Nat → Prop} {B : Nat} {w w' : World} {H : Nat} {cs : Array Value} {t : TypeId} {fr : Nat × Nat} (h : Turn S B w w') (hb : w.heap[H]? = some (.cells cs t fr)) (h1 : ¬ S t) : w'.heap[H]? = some (.cells cs t fr) := (h.other H cs t fr hb h1).trans hb
theorem Turn.own {S : Nat → Prop} {B B2 : Nat} {w w' : World} {e : TypeId} {size : Nat} {v : Value} {n : Nat} {xs : List Value} (h : Turn S B w w') (ho : w.ownsRow B2 e size v n xs) (h1 : ¬ S e) : w'.ownsRow B2 e size v n xs := by
 refine ⟨ho.1, ?_⟩
 rcases ho.2 with h0 | ⟨g, cap, cur, k1, k2, k3, k4⟩
 ·exact .inl h0
 ·exact .inr ⟨g, cap, cur, k1, k2, h.box k3 h1, k4⟩
theorem Turn.grown {S : Nat → Prop} {B : Nat} {X w2 : World} {e : TypeId} {size : Nat} {v : Value} {n : Nat} {xs : List Value} (ho : X.ownsRow B e size v n xs) (hS : S e) (hg : X.grownBy w2 v.ownBlock) : Turn S B X w2 := by
 have key : ∀ k ob, X.heap[k]? = some ob → some k = v.ownBlock → B ≤ k ∧ ∃ cs fr, ob = .cells cs e fr := by
  intro k ob e1 e2
  rcases ho.2 with ⟨h0, _⟩ | ⟨g, cap, cur, k1, k2, k3, k4⟩
  ·rw [h0] at e2; cases e2
  ·rw [k1] at e2
   simp [Value.ownBlock] at e2
   subst e2
   rw [e1] at k3
   simp at k3
   exact ⟨k2, _, _, k3⟩
 refine ⟨hg.os, hg.tape, hg.output, hg.size, fun k hk hs => hg.block k hs ?_, fun k cs t fr e1 h1 => hg.block k (lt_of_block e1) ?_, fun k ob e1 h1 => hg.block k (lt_of_block e1) ?_⟩
 ·intro e2
  obtain ⟨h, _⟩ := key k _ (Array.getElem?_eq_getElem hs) e2
  omega
 ·intro e2
  obtain ⟨_, cs', fr', h⟩ := key k _ e1 e2
  simp at h
  exact h1 (by rw [h.2.1]; exact hS)
 ·intro e2
  obtain ⟨_, cs', fr', h⟩ := key k _ e1 e2
  exact h1 _ _ _ h
def GuardAt (X : World) (B : Nat) (v : Int) (its : List (Int × Int)) (g : Value) : Prop :=
 (its = [] ∧ g = .func (.func 178) #[] #[]) ∨ (its ≠ [] ∧ ∃ t P, liftT its v = some t ∧ g = .func (.func 179) #[] #[.pointer (some ⟨P, 0, none⟩)] ∧ B ≤ P ∧ X.heap[P]? = some (.cells #[tv t] 138 (0, 0)))
theorem GuardAt.form {X : World} {B : Nat} {v : Int} {its : List (Int × Int)} {g : Value} (h : GuardAt X B v its g) : ∃ fn cp, g = .func fn #[] cp := by
 rcases h with ⟨_, h⟩ | ⟨_, t, P, _, h, _⟩ <;> exact ⟨_, _, h⟩
theorem GuardAt.base {X : World} {B B' : Nat} {v : Int} {its : List (Int × Int)} {g : Value} (h : GuardAt X B v its g) (hB : B' ≤ B) : GuardAt X B' v its g := by
 rcases h with h | ⟨h0, t, P, h1, h2, h3, h4⟩
 ·exact .inl h
 ·exact .inr ⟨h0, t, P, h1, h2, Nat.le_trans hB h3, h4⟩
theorem GuardAt.below {X Y : World} {B : Nat} {v : Int} {its : List (Int × Int)} {g : Value} (h : GuardAt X B v its g) (hb : Below X.heap.size X Y) : GuardAt Y B v its g := by
 rcases h with h | ⟨h0, t, P, h1, h2, h3, h4⟩
 ·exact .inl h
 ·exact .inr ⟨h0, t, P, h1, h2, h3, block_below h4 hb⟩
theorem GuardAt.turn {S : Nat → Prop} {X Y : World} {B B2 : Nat} {v : Int} {its : List (Int × Int)} {g : Value} (h : GuardAt X B v its g) (ht : Turn S B2 X Y) (hS : ¬ S 138) : GuardAt Y B v its g := by
 rcases h with h | ⟨h0, t, P, h1, h2, h3, h4⟩
 ·exact .inl h
 ·exact .inr ⟨h0, t, P, h1, h2, h3, ht.box h4 hS⟩
set_option maxHeartbeats 800000 in
theorem guardOf_any (ao : Option Addr) (n c : Nat) (its : List (Int × Int)) (v : Int) (w : World) (hn : n ≤ 9223372036854775807) (hs : ItemsOf w ao n its) (hg : its = [] ∨ (its ≠ [] ∧ ∃ t, liftT its v = some t)) :
  Calls Tryz.prog 142 #[.slice ao n c, .int .i64 v] w fun e w' => ∃ g, e = .returned g ∧ GuardAt w' w.heap.size v its g ∧ Below w.heap.size w w' := by
 rcases hg with h0 | ⟨h0, t, ht⟩
 ·subst h0
  have hn0 : n = 0 := by have := hs.1; simp at this; omega
  subst hn0
  clear hs
  go_enter Tryz.func142, Tryz.ntmps142
  go_wp2
  go_ret
  exact ⟨_, rfl, .inl ⟨rfl, rfl⟩, Below.refl _ _⟩
 ·have hmf : ∀ (fn : Fn) (first cap : Array Value) (w : World), (Instr.makeFunc fn first cap).run Tryz.prog w = .ok (.func fn first cap) w := fun _ _ _ _ => rfl
  have hn0 : ((n : Int) == 0) = false := by
   have h1 : n ≠ 0 := by have := hs.1; intro e; rw [e] at this; exact h0 (List.length_eq_zero_iff.1 this)
   simpa using h1
  have L := hid (liftCode_any ao n c its v w hn hs)
  rw [ht] at L
  unfold CodeEnd at L
  obtain ⟨y, x, hyx⟩ := tv_form t
  simp only [hyx] at L
  have HV := hid hyx
  clear hyx
  have H0 := hid h0
  have HT := hid ht
  clear hs ht h0
  go_enter Tryz.func142, Tryz.ntmps142
  go_wp2_with (go_at_call 64; refine L.out.mono ?_; rintro e w1 ⟨rfl, hb1⟩; have B1 := hid hb1; clear hb1)
  go_ret
  exact ⟨_, rfl, .inr ⟨H0.out, t, w1.heap.size, HT.out, rfl, B1.out.size, by rw [HV.out]; exact heap_alloc_new w1 _⟩, B1.out.alloc B1.out.size _⟩
end Go.Proofs.YtiimkhepplkocaaGreat
namespace Go.Proofs.YtiimkhepplkocaaGreat
open Go.RowKit Go.Sort
set_option linter.unusedVariables false
attribute [local go_sem ↓] Go.wp_at_zero Go.wp_at_succ
theorem liftTree_ok (so tq : Option Addr) (n sc tn tc : Nat) (ss : List StD) (ts : List TrD) (o s t v : Int) (hC : Chk ss ts ⟨o, s, t, v⟩) (w : World) (hs : StatesOf w so n ss) (hl : ts.length = tn) :
  Calls Tryz.prog 139 #[.agg #[.slice so n sc, .slice tq tn tc], .agg #[.int .i64 o, .int .i64 s, .int .i64 t, .int .i64 v]] w fun e w' => ∃ N tg tcap, e = .returned (.tuple #[.slice (some ⟨tg, 0, none⟩) n tcap, .int .i64 0, .int .i64 0]) ∧ NodesI w' N ss n ∧ NodeB w' N n ∧ w'.ownsRow w.heap.size 110 1 (.slice (some ⟨tg, 0, none⟩) n tcap) n (ptrs N (List.range n)) ∧ Below w.heap.size w w' := by
 have hn := hs.1
 have n1 := hC.good.n1
 have n2 := hC.good.n2
 have t2 := hC.good.tn
 refine (liftTree_any so tq n sc tn tc ss o s t v w (by omega) (by omega) hs).mono ?_
 have hf := hC.flt
 rw [hl] at hf
 rw [hf]
 rintro e w' ⟨hb, h | ⟨_, N, tv, rfl, hN, hNB, hT⟩⟩
 ·exact absurd rfl h.1
 ·rw [hn] at hN hNB hT
  obtain ⟨tg, tcap, rfl, _, _⟩ := World.ownsRow.form hT (by omega)
  exact ⟨N, tg, tcap, rfl, hN, hNB, hT, hb⟩
structure Mac (X : World) (B mb : Nat) (tv ev xv lv mv : Value) (E F : List Value) : Prop where
 box : X.heap[mb]? = some (.cells #[tv, ev, xv, lv, mv] 109 (0, 0))
 hB : B ≤ mb
 e : X.ownsRow B 118 1 ev E.length E
 x : X.ownsRow B 118 1 xv F.length F
 ne : ∀ b, ev.ownBlock = some b → xv.ownBlock ≠ some b
theorem Mac.below {X Y : World} {B mb : Nat} {tv ev xv lv mv : Value} {E F : List Value} (h : Mac X B mb tv ev xv lv mv E F) (hb : Below X.heap.size X Y) : Mac Y B mb tv ev xv lv mv E F :=
 ⟨block_below h.box hb, h.hB, ownsRow_below h.e hb, ownsRow_below h.x hb, h.ne⟩
def S1 (t : Nat) : Prop := t = 118 ∨ t = 109
theorem mac_entry {X Y Z : World} {B mb g cap : Nat} {tv ev xv lv mv sv : Value} {E F : List Value} (h : Mac X B mb tv ev xv lv mv E F) (hb : Below X.heap.size X Y) (hg : Y.grownBy Z ev.ownBlock)
  (ho : Z.ownsRow B 118 1 (.slice (some ⟨g, 0, none⟩) (E.length + 1) cap) (E.length + 1) (E ++ [sv])) (hat : ev.ownBlock = some g ∨ g = Y.heap.size) :
  Mac (Z.setCell ⟨mb, 1, none⟩ (.slice (some ⟨g, 0, none⟩) (E.length + 1) cap)) B mb tv (.slice (some ⟨g, 0, none⟩) (E.length + 1) cap) xv lv mv (E ++ [sv]) F ∧ Turn S1 B X (Z.setCell ⟨mb, 1, none⟩ (.slice (some ⟨g, 0, none⟩) (E.length + 1) cap)) := by
 have hY := h.below hb
 have bY := hY.box
 have nm := own_far hY.e (by decide) bY
 have bZ : Z.heap[mb]? = _ := (hg.block mb (lt_of_block bY) (fun e => nm e.symm)).trans bY
 have oZ : Z.ownsRow B 118 1 xv F.length F := ownsRow_eqb hY.x (fun b hbl e => hg.block b hbl (fun e3 => h.ne b e3.symm e))
 have nn : ∀ b, (Value.slice (some ⟨g, 0, none⟩) (E.length + 1) cap).ownBlock = some b → xv.ownBlock ≠ some b := by
  intro b e1 e2
  simp [Value.ownBlock] at e1
  subst e1
  rcases hat with h1 | h1
  ·exact h.ne g h1 e2
  ·have := (hY.x.lt g e2).2
   omega
 refine ⟨⟨?_, h.hB, ?_, ?_, nn⟩, ((Turn.of_below hb).trans (Turn.grown hY.e (.inl rfl) hg)).trans (Turn.set bZ (.inr rfl) h.hB _)⟩
 ·rw [heap_setCell_same Z mb 1 _ _ _ bZ]; simp
 ·rw [List.length_append]; exact ownsRow_setCell_other ho (own_far ho (by decide) bZ) _
 ·exact ownsRow_setCell_other oZ (own_far oZ (by decide) bZ) _
theorem mac_exit {X Y Z : World} {B mb g cap : Nat} {tv ev xv lv mv sv : Value} {E F : List Value} (h : Mac X B mb tv ev xv lv mv E F) (hb : Below X.heap.size X Y) (hg : Y.grownBy Z xv.ownBlock)
  (ho : Z.ownsRow B 118 1 (.slice (some ⟨g, 0, none⟩) (F.length + 1) cap) (F.length + 1) (F ++ [sv])) (hat : xv.ownBlock = some g ∨ g = Y.heap.size) :
  Mac (Z.setCell ⟨mb, 2, none⟩ (.slice (some ⟨g, 0, none⟩) (F.length + 1) cap)) B mb tv ev (.slice (some ⟨g, 0, none⟩) (F.length + 1) cap) lv mv E (F ++ [sv]) ∧ Turn S1 B X (Z.setCell ⟨mb, 2, none⟩ (.slice (some ⟨g, 0, none⟩) (F.length + 1) cap)) := by
 have hY := h.below hb
 have bY := hY.box
 have nm := own_far hY.x (by decide) bY
 have bZ : Z.heap[mb]? = _ := (hg.block mb (lt_of_block bY) (fun e => nm e.symm)).trans bY
 have oZ : Z.ownsRow B 118 1 ev E.length E := ownsRow_eqb hY.e (fun b hbl e => hg.block b hbl (fun e3 => h.ne b e e3.symm))
 have nn : ∀ b, ev.ownBlock = some b → (Value.slice (some ⟨g, 0, none⟩) (F.length + 1) cap).ownBlock ≠ some b := by
  intro b e1 e2
  simp [Value.ownBlock] at e2
  subst e2
  rcases hat with h1 | h1
  ·exact h.ne g e1 h1
  ·have := (hY.e.lt g e1).2
   omega
 refine ⟨⟨?_, h.hB, ?_, ?_, nn⟩, ((Turn.of_below hb).trans (Turn.grown hY.x (.inl rfl) hg)).trans (Turn.set bZ (.inr rfl) h.hB _)⟩
 ·rw [heap_setCell_same Z mb 2 _ _ _ bZ]; simp
 ·exact ownsRow_setCell_other oZ (own_far oZ (by decide) bZ) _
 ·rw [List.length_append]; exact ownsRow_setCell_other ho (own_far ho (by decide) bZ) _
theorem NodesI.turn {S : Nat → Prop} {B : Nat} {X Y : World} {N : Nat → Nat} {ss : List StD} {n : Nat} (h : NodesI X N ss n) (hB : NodeB X N n) (ht : Turn S B X Y) (hS : ¬ S 113) : NodesI Y N ss n ∧ NodeB Y N n := by
 have blk : ∀ k, k < n → Y.heap[N k]? = X.heap[N k]? := fun k hk => by
  obtain ⟨cs, hc⟩ := hB k hk
  exact (ht.box hc hS).trans hc.symm
 have cel : ∀ k o, k < n → Y.cell? ⟨N k, o, none⟩ = X.cell? ⟨N k, o, none⟩ := fun k o hk => by
  simp only [World.cell?]
  rw [blk k hk]
 refine ⟨⟨fun k hk => ?_, fun k hk => (cel k 2 hk).trans (h.2 k hk)⟩, fun k hk => ?_⟩
 ·obtain ⟨h1, h2, h3⟩ := h.1 k hk
  exact ⟨Nat.lt_of_lt_of_le h1 ht.size, (cel k 0 hk).trans h2, (cel k 1 hk).trans h3⟩
 ·obtain ⟨cs, hc⟩ := hB k hk
  exact ⟨cs, ht.box hc hS⟩
theorem rowIs_turn {S : Nat → Prop} {B : Nat} {X Y : World} {b n : Nat} {T : TypeId} {f : Nat → Value} (h : X.rowIs b T n f) (ht : Turn S B X Y) (hS : ¬ S T) : Y.rowIs b T n f := by
 obtain ⟨c, h1, h2, h3⟩ := h
 exact ⟨c, ht.box h1 hS, h2, h3⟩
structure MB (w : World) (cx lx : Array Value) (N : Nat → Nat) (tg tcap : Nat) (ss : List StD) (n mp : Nat) (X : World) : Prop where
 bel : Below w.heap.size w X
 ch : X.heap[w.heap.size]? = some (.cells cx 36 (0, 0))
 li : X.heap[w.heap.size + 1]? = some (.cells lx 40 (0, 0))
 nd : NodesI X N ss n
 nb : NodeB X N n
 tr : X.ownsRow w.heap.size 110 1 (.slice (some ⟨tg, 0, none⟩) n tcap) n (ptrs N (List.range n))
 mp : X.heap[mp]? = some (.map #[] 0)
theorem MB.turn {S : Nat → Prop} {B : Nat} {w : World} {cx lx : Array Value} {N : Nat → Nat} {tg tcap : Nat} {ss : List StD} {n mp : Nat} {X Y : World} (h : MB w cx lx N tg tcap ss n mp X) (ht : Turn S B X Y) (hB : w.heap.size ≤ B) (h1 : ¬ S 36) (h2 : ¬ S 40) (h3 : ¬ S 113) (h4 : ¬ S 110) : MB w cx lx N tg tcap ss n mp Y := by
 have hn := h.nd.turn h.nb ht h3
 exact ⟨h.bel.trans ⟨ht.os, ht.tape, ht.output, ht.size, fun k hk => ht.low k (by omega) (Nat.lt_of_lt_of_le hk h.bel.size)⟩, ht.box h.ch h1, ht.box h.li h2, hn.1, hn.2, ht.own h.tr h4, (ht.rest _ _ h.mp (fun _ _ _ e => by cases e)).trans h.mp⟩
theorem MB.below {w : World} {cx lx : Array Value} {N : Nat → Nat} {tg tcap : Nat} {ss : List StD} {n mp : Nat} {X Y : World} (h : MB w cx lx N tg tcap ss n mp X) (hb : Below X.heap.size X Y) : MB w cx lx N tg tcap ss n mp Y :=
 ⟨h.bel.trans (hb.mono h.bel.size), block_below h.ch hb, block_below h.li hb, h.nd.below hb, h.nb.below hb, ownsRow_below h.tr hb, block_below h.mp hb⟩
def StmR (X : World) (B : Nat) (l : LimD) (v : Value) (xs : List StmD) : Prop := ∃ vs, nodesR l xs = some vs ∧ X.ownsRow B 212 1 v vs.length vs
theorem StmR.turn {S : Nat → Prop} {B B2 : Nat} {X Y : World} {l : LimD} {v : Value} {xs : List StmD} (h : StmR X B l v xs) (ht : Turn S B2 X Y) (hS : ¬ S 212) : StmR Y B l v xs := by
 obtain ⟨vs, h1, h2⟩ := h
 exact ⟨vs, h1, ht.own h2 hS⟩
theorem lift_nodes {l : LimD} {xs : List StmD} {vs : List Value} (h : liftAll l xs = some vs) : nodesR l xs = some vs := by
 unfold liftAll at h
 split at h
 ·exact h
 ·cases h
end Go.Proofs.YtiimkhepplkocaaGreat
namespace Go.Proofs.YtiimkhepplkocaaGreat
open Go.RowKit Go.Sort
set_option linter.unusedVariables false
attribute [local go_sem ↓] Go.wp_at_zero Go.wp_at_succ
theorem infoS_move : (Tryz.prog.info? 114).map (fun i => (i.zero, i.size, i.bytes)) = some (some (.slice none 0 0), 1, 24) := by kernel_rfl
theorem infoS_stmNode : (Tryz.prog.info? 118).map (fun i => (i.zero, i.size, i.bytes)) = some (some (.slice none 0 0), 1, 24) := by kernel_rfl
structure L1 (w : World) (cx lx : Array Value) (N : Nat → Nat) (tg tcap : Nat) (ss : List StD) (n : Nat) (l : LimD) (B P M : Nat) (k kf : Nat) (E F : List Value) (ev xv : Value) (L : Nat → Value) (X : World) : Prop where
 hB : w.heap.size + 1 < B ∧ B ≤ P
 mb : MB w cx lx N tg tcap ss n P X
 mac : Mac X B M (.slice (some ⟨tg, 0, none⟩) n tcap) ev xv (.slice (some ⟨B, 0, none⟩) n n) (.map (some P)) E F
 row : X.rowIs B 114 n L
 le : E.length = k
 lf : F.length = kf
 ce : ∀ i, i < k → StmR X w.heap.size l (E.getD i undef) (ss.getD i st0).entry
 cf : ∀ i, i < kf → StmR X w.heap.size l (F.getD i undef) (ss.getD i st0).exit
theorem getD_snoc {α : Type} (l : List α) (x d : α) (i : Nat) : (l ++ [x]).getD i d = if i < l.length then l.getD i d else if i = l.length then x else d := by
 simp only [List.getD_eq_getElem?_getD]
 by_cases h : i < l.length
 ·rw [if_pos h, List.getElem?_append_left h]
 ·rw [if_neg h, List.getElem?_append_right (by omega)]
  by_cases e : i = l.length
  ·subst e; simp
  ·rw [if_neg e, List.getElem?_eq_none (by simp; omega)]; rfl
theorem L1.below {w : World} {cx lx : Array Value} {N : Nat → Nat} {tg tcap : Nat} {ss : List StD} {n : Nat} {l : LimD} {B P M k kf : Nat} {E F : List Value} {ev xv : Value} {L : Nat → Value} {X Y : World} (h : L1 w cx lx N tg tcap ss n l B P M k kf E F ev xv L X) (hb : Below X.heap.size X Y) : L1 w cx lx N tg tcap ss n l B P M k kf E F ev xv L Y :=
 ⟨h.hB, h.mb.below hb, h.mac.below hb, h.row.of_block (hb.block _ h.row.lt), h.le, h.lf, fun i hi => (h.ce i hi).turn (S := fun _ => False) (B2 := 0) (Turn.of_below hb) (fun x => x), fun i hi => (h.cf i hi).turn (S := fun _ => False) (B2 := 0) (Turn.of_below hb) (fun x => x)⟩
theorem L1.entry {w : World} {cx lx : Array Value} {N : Nat → Nat} {tg tcap : Nat} {ss : List StD} {n : Nat} {l : LimD} {B P M k kf : Nat} {E F : List Value} {ev xv val : Value} {L : Nat → Value} {X Y Z : World} {g cap : Nat} (h : L1 w cx lx N tg tcap ss n l B P M k kf E F ev xv L X) (hb : Below X.heap.size X Y) (hv : StmR Y w.heap.size l val (ss.getD k st0).entry) (hg : Y.grownBy Z ev.ownBlock)
  (ho : Z.ownsRow B 118 1 (.slice (some ⟨g, 0, none⟩) (E.length + 1) cap) (E.length + 1) (E ++ [val])) (hat : ev.ownBlock = some g ∨ g = Y.heap.size) :
  L1 w cx lx N tg tcap ss n l B P M (k + 1) kf (E ++ [val]) F (.slice (some ⟨g, 0, none⟩) (E.length + 1) cap) xv L (Z.setCell ⟨M, 1, none⟩ (.slice (some ⟨g, 0, none⟩) (E.length + 1) cap)) ∧ Turn S1 B X (Z.setCell ⟨M, 1, none⟩ (.slice (some ⟨g, 0, none⟩) (E.length + 1) cap)) := by
 obtain ⟨m1, t1⟩ := mac_entry h.mac hb hg ho hat
 have hY := h.below hb
 have bY := hY.mac.box
 have nm := own_far hY.mac.e (by decide) bY
 have bZ : Z.heap[M]? = _ := (hg.block M (lt_of_block bY) (fun e => nm e.symm)).trans bY
 have tY : Turn S1 B Y (Z.setCell ⟨M, 1, none⟩ (.slice (some ⟨g, 0, none⟩) (E.length + 1) cap)) := (Turn.grown hY.mac.e (.inl rfl) hg).trans (Turn.set bZ (.inr rfl) h.mac.hB _)
 have hB := h.hB
 refine ⟨⟨h.hB, h.mb.turn t1 (by omega) (by simp [S1]) (by simp [S1]) (by simp [S1]) (by simp [S1]), m1, rowIs_turn h.row t1 (by simp [S1]), by simp [h.le], h.lf, fun i hi => ?_, fun i hi => (h.cf i hi).turn t1 (by simp [S1])⟩, t1⟩
 have hle := h.le
 rw [getD_snoc]
 by_cases e : i < k
 ·rw [if_pos (by omega)]; exact (h.ce i e).turn t1 (by simp [S1])
 ·obtain rfl : i = k := by omega
  rw [if_neg (by omega), if_pos hle.symm]
  exact hv.turn tY (by simp [S1])
theorem L1.exit_ {w : World} {cx lx : Array Value} {N : Nat → Nat} {tg tcap : Nat} {ss : List StD} {n : Nat} {l : LimD} {B P M k kf : Nat} {E F : List Value} {ev xv val : Value} {L : Nat → Value} {X Y Z : World} {g cap : Nat} (h : L1 w cx lx N tg tcap ss n l B P M k kf E F ev xv L X) (hb : Below X.heap.size X Y) (hv : StmR Y w.heap.size l val (ss.getD kf st0).exit) (hg : Y.grownBy Z xv.ownBlock)
  (ho : Z.ownsRow B 118 1 (.slice (some ⟨g, 0, none⟩) (F.length + 1) cap) (F.length + 1) (F ++ [val])) (hat : xv.ownBlock = some g ∨ g = Y.heap.size) :
  L1 w cx lx N tg tcap ss n l B P M k (kf + 1) E (F ++ [val]) ev (.slice (some ⟨g, 0, none⟩) (F.length + 1) cap) L (Z.setCell ⟨M, 2, none⟩ (.slice (some ⟨g, 0, none⟩) (F.length + 1) cap)) ∧ Turn S1 B X (Z.setCell ⟨M, 2, none⟩ (.slice (some ⟨g, 0, none⟩) (F.length + 1) cap)) := by
 obtain ⟨m1, t1⟩ := mac_exit h.mac hb hg ho hat
 have hY := h.below hb
 have bY := hY.mac.box
 have nm := own_far hY.mac.x (by decide) bY
 have bZ : Z.heap[M]? = _ := (hg.block M (lt_of_block bY) (fun e => nm e.symm)).trans bY
 have tY : Turn S1 B Y (Z.setCell ⟨M, 2, none⟩ (.slice (some ⟨g, 0, none⟩) (F.length + 1) cap)) := (Turn.grown hY.mac.x (.inl rfl) hg).trans (Turn.set bZ (.inr rfl) h.mac.hB _)
 have hB := h.hB
 refine ⟨⟨h.hB, h.mb.turn t1 (by omega) (by simp [S1]) (by simp [S1]) (by simp [S1]) (by simp [S1]), m1, rowIs_turn h.row t1 (by simp [S1]), h.le, by simp [h.lf], fun i hi => (h.ce i hi).turn t1 (by simp [S1]), fun i hi => ?_⟩, t1⟩
 have hle := h.lf
 rw [getD_snoc]
 by_cases e : i < kf
 ·rw [if_pos (by omega)]; exact (h.cf i e).turn t1 (by simp [S1])
 ·obtain rfl : i = kf := by omega
  rw [if_neg (by omega), if_pos hle.symm]
  exact hv.turn tY (by simp [S1])
end Go.Proofs.YtiimkhepplkocaaGreat
namespace Go.Proofs.YtiimkhepplkocaaGreat
open Go.RowKit Go.Sort
set_option linter.unusedVariables false
attribute [local go_sem ↓] Go.wp_at_zero Go.wp_at_succ
theorem infoMove : (Tryz.prog.info? 120).map (fun i => (i.zero, i.size, i.bytes)) = some (some (.agg #[.int .i64 0, .int .i64 0, .pointer none, .pointer none, .nilFunc, .slice none 0 0]), 6, 64) := by kernel_rfl
def outs (ts : List TrD) (i m : Nat) : List Nat := (List.range m).filter fun q => decide ((ts.getD q tr0).src = i)
theorem outs_lt {ts : List TrD} {i m q : Nat} (h : q ∈ outs ts i m) : q < m := by
 unfold outs at h
 exact List.mem_range.1 (List.mem_filter.1 h).1
theorem outs_succ (ts : List TrD) (i m : Nat) : outs ts i (m + 1) = outs ts i m ++ (if (ts.getD m tr0).src = i then [m] else []) := by
 unfold outs
 rw [List.range_succ, List.filter_append]
 congr 1
 by_cases h : (ts.getD m tr0).src = i
 ·rw [if_pos h, List.filter_cons_of_pos (by exact decide_eq_true h)]; rfl
 ·rw [if_neg h, List.filter_cons_of_neg (by simpa only [decide_eq_true_eq] using h)]; rfl
theorem outs_len (ts : List TrD) (i m : Nat) : (outs ts i m).length ≤ m := by
 unfold outs
 exact Nat.le_trans (List.length_filter_le _ _) (by simp)
def tgtV (N : Nat → Nat) (t : Int) : Value := if t = -1 then .pointer none else .pointer (some ⟨N t.toNat, 0, none⟩)
def mvC (N : Nat → Nat) (ts : List TrD) (lets act : Nat → Value) (q : Nat) : List Value :=
 [.int .i64 (q : Int), .int .i64 (ts.getD q tr0).sig, .pointer (some ⟨N (ts.getD q tr0).src.toNat, 0, none⟩), tgtV N (ts.getD q tr0).target, lets q, act q]
def mvs (N : Nat → Nat) (ts : List TrD) (lets act : Nat → Value) (l : List Nat) : List Value := l.flatMap (mvC N ts lets act)
theorem mvs_append (N : Nat → Nat) (ts : List TrD) (lets act : Nat → Value) (a b : List Nat) : mvs N ts lets act (a ++ b) = mvs N ts lets act a ++ mvs N ts lets act b := by simp [mvs]
theorem mvs_congr {N : Nat → Nat} {ts : List TrD} {lets act lets' act' : Nat → Value} {a : List Nat} (h : ∀ q, q ∈ a → lets q = lets' q ∧ act q = act' q) : mvs N ts lets act a = mvs N ts lets' act' a := by
 induction a with
 | nil => rfl
 | cons x r ih =>
  have h1 := h x (by simp)
  simp only [mvs, List.flatMap_cons] at ih ⊢
  rw [ih (fun q hq => h q (by simp [hq]))]
  simp [mvC, h1.1, h1.2]
def S2 (t : Nat) : Prop := t = 120 ∨ t = 114
theorem L1.turn {w : World} {cx lx : Array Value} {N : Nat → Nat} {tg tcap : Nat} {ss : List StD} {n : Nat} {l : LimD} {B P M k kf : Nat} {E F : List Value} {ev xv : Value} {L L' : Nat → Value} {X Y : World} (h : L1 w cx lx N tg tcap ss n l B P M k kf E F ev xv L X) (ht : Turn S2 B X Y) (hr : Y.rowIs B 114 n L') : L1 w cx lx N tg tcap ss n l B P M k kf E F ev xv L' Y := by
 have hB := h.hB
 exact ⟨h.hB, h.mb.turn ht (by omega) (by simp [S2]) (by simp [S2]) (by simp [S2]) (by simp [S2]), ⟨ht.box h.mac.box (by simp [S2]), h.mac.hB, ht.own h.mac.e (by simp [S2]), ht.own h.mac.x (by simp [S2]), h.mac.ne⟩, hr, h.le, h.lf, fun i hi => (h.ce i hi).turn ht (by simp [S2]), fun i hi => (h.cf i hi).turn ht (by simp [S2])⟩
structure L2 (w : World) (cx lx : Array Value) (N : Nat → Nat) (tg tcap : Nat) (ss : List StD) (ts : List TrD) (n : Nat) (l : LimD) (B P M j : Nat) (E F : List Value) (ev xv : Value) (L lets act : Nat → Value) (X : World) : Prop where
 l1 : L1 w cx lx N tg tcap ss n l B P M n n E F ev xv L X
 lv : ∀ i, i < n → X.ownsRow B 120 6 (L i) (outs ts i j).length (mvs N ts lets act (outs ts i j))
 dis : ∀ i i', i < n → i' < n → i ≠ i' → ∀ b, (L i).ownBlock = some b → (L i').ownBlock ≠ some b
 gd : ∀ q, q < j → GuardAt X w.heap.size l.v (ts.getD q tr0).guard (lets q) ∧ StmR X w.heap.size l (act q) (ts.getD q tr0).action
theorem L2.below {w : World} {cx lx : Array Value} {N : Nat → Nat} {tg tcap : Nat} {ss : List StD} {ts : List TrD} {n : Nat} {l : LimD} {B P M j : Nat} {E F : List Value} {ev xv : Value} {L lets act : Nat → Value} {X Y : World} (h : L2 w cx lx N tg tcap ss ts n l B P M j E F ev xv L lets act X) (hb : Below X.heap.size X Y) : L2 w cx lx N tg tcap ss ts n l B P M j E F ev xv L lets act Y :=
 ⟨h.l1.below hb, fun i hi => ownsRow_below (h.lv i hi) hb, h.dis, fun q hq => ⟨(h.gd q hq).1.below hb, (h.gd q hq).2.turn (S := fun _ => False) (B2 := 0) (Turn.of_below hb) (fun x => x)⟩⟩
theorem L2.start {w : World} {cx lx : Array Value} {N : Nat → Nat} {tg tcap : Nat} {ss : List StD} {ts : List TrD} {n : Nat} {l : LimD} {B P M : Nat} {E F : List Value} {ev xv : Value} {X : World} (h : L1 w cx lx N tg tcap ss n l B P M n n E F ev xv (fun _ => .slice none 0 0) X) : L2 w cx lx N tg tcap ss ts n l B P M 0 E F ev xv (fun _ => .slice none 0 0) (fun _ => undef) (fun _ => undef) X :=
 ⟨h, fun i hi => by simpa [outs, mvs] using World.ownsRow_nil X B 120 6, fun i i' _ _ _ b e => by simp [Value.ownBlock] at e, fun q hq => absurd hq (by omega)⟩
theorem L2.add {w : World} {cx lx : Array Value} {N : Nat → Nat} {tg tcap : Nat} {ss : List StD} {ts : List TrD} {n : Nat} {l : LimD} {B P M j : Nat} {E F : List Value} {ev xv gv av : Value} {L lets act : Nat → Value} {X Y Z : World} {g cap i : Nat} (h : L2 w cx lx N tg tcap ss ts n l B P M j E F ev xv L lets act X)
  (hb : Below X.heap.size X Y) (hi : i < n) (hsrc : (ts.getD j tr0).src = i) (hgu : GuardAt Y w.heap.size l.v (ts.getD j tr0).guard gv) (hac : StmR Y w.heap.size l av (ts.getD j tr0).action) (hg : Y.grownBy Z (L i).ownBlock)
  (ho : Z.ownsRow B 120 6 (.slice (some ⟨g, 0, none⟩) ((outs ts i j).length + 1) cap) ((outs ts i j).length + 1) (mvs N ts lets act (outs ts i j) ++ [.int .i64 (j : Int), .int .i64 (ts.getD j tr0).sig, .pointer (some ⟨N i, 0, none⟩), tgtV N (ts.getD j tr0).target, gv, av]))
  (hat : (L i).ownBlock = some g ∨ g = Y.heap.size) :
  L2 w cx lx N tg tcap ss ts n l B P M (j + 1) E F ev xv (fun k => if k = i then .slice (some ⟨g, 0, none⟩) ((outs ts i j).length + 1) cap else L k) (fun q => if q = j then gv else lets q) (fun q => if q = j then av else act q) (Z.setCell ⟨B, i, none⟩ (.slice (some ⟨g, 0, none⟩) ((outs ts i j).length + 1) cap)) := by
 have hY := h.below hb
 have oY := hY.lv i hi
 have rY := hY.l1.row
 obtain ⟨rc, rb, rs, rf⟩ := rY
 have nB := own_far oY (by decide) rb
 have bZ : Z.heap[B]? = Y.heap[B]? := hg.block B (lt_of_block rb) (fun e => nB e.symm)
 have rZ : Z.rowIs B 114 n L := hY.l1.row.of_block bZ
 have t1 : Turn S2 B Y Z := Turn.grown oY (.inl rfl) hg
 have t2 : Turn S2 B Z (Z.setCell ⟨B, i, none⟩ (.slice (some ⟨g, 0, none⟩) ((outs ts i j).length + 1) cap)) := Turn.set (bZ.trans rb) (.inr rfl) (Nat.le_refl _) _
 have tt := t1.trans t2
 have rr := rZ.set i (.slice (some ⟨g, 0, none⟩) ((outs ts i j).length + 1) cap)
 have same : ∀ i', mvs N ts (fun q => if q = j then gv else lets q) (fun q => if q = j then av else act q) (outs ts i' j) = mvs N ts lets act (outs ts i' j) := fun i' => mvs_congr fun q hq => by
  have := outs_lt hq
  rw [if_neg (by omega), if_neg (by omega)]
  exact ⟨rfl, rfl⟩
 refine ⟨hY.l1.turn tt (rr.congr fun k _ => rfl), fun i' hi' => ?_, fun a b ha hb' hab x hx => ?_, fun q hq => ?_⟩
 ·by_cases e : i' = i
  ·subst e
   rw [if_pos rfl, outs_succ, if_pos hsrc, mvs_append, same, List.length_append]
   have e2 : mvs N ts (fun q => if q = j then gv else lets q) (fun q => if q = j then av else act q) [j] = [.int .i64 (j : Int), .int .i64 (ts.getD j tr0).sig, .pointer (some ⟨N i', 0, none⟩), tgtV N (ts.getD j tr0).target, gv, av] := by
    simp only [mvs, List.flatMap_cons, List.flatMap_nil, List.append_nil, mvC, hsrc, if_true, Int.toNat_natCast]
   rw [e2]
   exact ownsRow_setCell_other ho (own_far ho (by decide) (bZ.trans rb)) _
  ·rw [if_neg e, outs_succ, if_neg (by rw [hsrc]; omega), List.append_nil, same]
   have o2 : Z.ownsRow B 120 6 (L i') (outs ts i' j).length (mvs N ts lets act (outs ts i' j)) := ownsRow_eqb (hY.lv i' hi') (fun b hbl e1 => hg.block b hbl (fun e3 => h.dis i' i hi' hi e b e1 e3.symm))
   exact ownsRow_setCell_other o2 (own_far o2 (by decide) (bZ.trans rb)) _
 ·have new : ∀ k, k < n → k ≠ i → (L k).ownBlock ≠ some g := fun k hk hki e => by
   rcases hat with h1 | h1
   ·exact h.dis k i hk hi hki g e h1
   ·have := ((hY.lv k hk).lt g e).2
    omega
  by_cases ea : a = i
  ·subst ea
   have eb : b ≠ a := fun e => hab e.symm
   rw [if_pos rfl] at hx
   rw [if_neg eb]
   simp [Value.ownBlock] at hx
   subst hx
   exact new b hb' eb
  ·rw [if_neg ea] at hx
   by_cases eb : b = i
   ·subst eb
    rw [if_pos rfl]
    intro e
    simp [Value.ownBlock] at e
    subst e
    exact new a ha ea hx
   ·rw [if_neg eb]
    exact h.dis a b ha hb' hab x hx
 ·by_cases e : q = j
  ·subst e
   rw [if_pos rfl, if_pos rfl]
   exact ⟨hgu.turn tt (by simp [S2]), hac.turn tt (by simp [S2])⟩
  ·rw [if_neg e, if_neg e]
   have hh := hY.gd q (by omega)
   exact ⟨hh.1.turn tt (by simp [S2]), hh.2.turn tt (by simp [S2])⟩
abbrev set6 (X : World) (r : Nat) (a b c d e f : Value) : World := (((((X.setCell ⟨r, 0, none⟩ a).setCell ⟨r, 1, none⟩ b).setCell ⟨r, 2, none⟩ c).setCell ⟨r, 3, none⟩ d).setCell ⟨r, 4, none⟩ e).setCell ⟨r, 5, none⟩ f
theorem row6 {X : World} {r : Nat} {a b c d e f x0 x1 x2 x3 x4 x5 : Value} {t : TypeId} (h : X.heap[r]? = some (.cells #[x0, x1, x2, x3, x4, x5] t (0, 0))) : (set6 X r a b c d e f).heap[r]? = some (.cells #[a, b, c, d, e, f] t (0, 0)) := by
 have m1 := heap_setCell_same X r 0 _ _ a h
 have m2 := heap_setCell_same _ r 1 _ _ b m1
 have m3 := heap_setCell_same _ r 2 _ _ c m2
 have m4 := heap_setCell_same _ r 3 _ _ d m3
 have m5 := heap_setCell_same _ r 4 _ _ e m4
 have m6 := heap_setCell_same _ r 5 _ _ f m5
 rw [m6]; simp
theorem bel6 {w X : World} {C r : Nat} {a b c d e f : Value} (h : Below C w X) (hr : C ≤ r) : Below C w (set6 X r a b c d e f) := (((((h.setCell hr _).setCell hr _).setCell hr _).setCell hr _).setCell hr _).setCell hr _
theorem turn6 {S : Nat → Prop} {X : World} {r : Nat} {a b c d e f x0 x1 x2 x3 x4 x5 : Value} {t : TypeId} (h : X.heap[r]? = some (.cells #[x0, x1, x2, x3, x4, x5] t (0, 0))) (ht : S t) : Turn S 0 X (set6 X r a b c d e f) := by
 have m1 := heap_setCell_same X r 0 _ _ a h
 have m2 := heap_setCell_same _ r 1 _ _ b m1
 have m3 := heap_setCell_same _ r 2 _ _ c m2
 have m4 := heap_setCell_same _ r 3 _ _ d m3
 have m5 := heap_setCell_same _ r 4 _ _ e m4
 exact (((((Turn.set h ht (Nat.zero_le _) _).trans (Turn.set m1 ht (Nat.zero_le _) _)).trans (Turn.set m2 ht (Nat.zero_le _) _)).trans (Turn.set m3 ht (Nat.zero_le _) _)).trans (Turn.set m4 ht (Nat.zero_le _) _)).trans (Turn.set m5 ht (Nat.zero_le _) _)
theorem six_fr {w : World} {H : Nat} {cs : Array Value} {t : TypeId} (h : w.heap[H]? = some (.cells cs t (0, 0))) : ∀ o, w.frozen? ⟨H, o, none⟩ = false := fun o => frozen_of_row w H o cs t h
theorem tree_cell {X : World} {B tg n tcap : Nat} {N : Nat → Nat} (h : X.ownsRow B 110 1 (.slice (some ⟨tg, 0, none⟩) n tcap) n (ptrs N (List.range n))) {f : Nat} (hf : f < n) : X.cell? ⟨tg, f, none⟩ = some (.pointer (some ⟨N f, 0, none⟩)) := by
 rw [World.ownsRow.cellAt h f (by simpa using hf)]
 simp [ptrs, hf]
theorem StmR.below {X Y : World} {B : Nat} {l : LimD} {v : Value} {xs : List StmD} (h : StmR X B l v xs) (hb : Below X.heap.size X Y) : StmR Y B l v xs := h.turn (S := fun _ => False) (B2 := 0) (Turn.of_below hb) (fun x => x)
theorem undrewH {w w' : World} (h : Below w.drew.heap.size w.drew w') : Below w.heap.size w w' := ⟨h.os, h.tape, h.output, h.size, h.block⟩
structure Bt (w : World) (X : World) (H b : Nat) (tx mx : Array Value) (l : LimD) (gc : List (Int × Int)) (ac : List StmD) (gv av : Value) (Y : World) : Prop where
 bel : Below X.heap.size X Y
 q : Y.heap[H]? = some (.cells tx 60 (0, 0))
 m : Y.heap[b]? = some (.cells mx 120 (0, 0))
 bl : X.heap.size ≤ b
 g : GuardAt Y w.heap.size l.v gc gv
 a : StmR Y w.heap.size l av ac
theorem bt_put {w X Y : World} {H r : Nat} {tx : Array Value} {a b c d d' gv av : Value} {l : LimD} {gc : List (Int × Int)} {ac : List StmD} (h : Bt w X H r tx #[a, b, c, d, gv, av] l gc ac gv av Y) : Bt w X H r tx #[a, b, c, d', gv, av] l gc ac gv av (Y.setCell ⟨r, 3, none⟩ d') := by
 have tt : Turn S2 0 Y (Y.setCell ⟨r, 3, none⟩ d') := Turn.set h.m (.inl rfl) (Nat.zero_le _) _
 exact ⟨h.bel.setCell h.bl _, tt.box h.q (by simp [S2]), by rw [heap_setCell_same Y r 3 _ _ _ h.m]; simp, h.bl, h.g.turn tt (by simp [S2]), h.a.turn tt (by simp [S2])⟩
theorem bt_new {w X Y : World} {H : Nat} {tx : Array Value} {a b c d gv av : Value} {l : LimD} {gc : List (Int × Int)} {ac : List StmD} (hb : Below X.heap.size X Y) (hq : Y.heap[H]? = some (.cells tx 60 (0, 0))) (hg : GuardAt Y w.heap.size l.v gc gv) (ha : StmR Y w.heap.size l av ac) : Bt w X H Y.heap.size tx #[a, b, c, d, gv, av] l gc ac gv av (Y.alloc (.cells #[a, b, c, d, gv, av] 120)) :=
 ⟨hb.trans ((below1 _ _).mono hb.size), block_below hq (below1 _ _), heap_alloc_new _ _, hb.size, hg.below (below1 _ _), ha.below (below1 _ _)⟩
theorem bt_set {w X Y : World} {H r : Nat} {tx : Array Value} {a b c d gv av x0 x1 x2 x3 x4 x5 : Value} {l : LimD} {gc : List (Int × Int)} {ac : List StmD} (hb : Below X.heap.size X Y) (hr : X.heap.size ≤ r) (hq : Y.heap[H]? = some (.cells tx 60 (0, 0))) (hx : Y.heap[r]? = some (.cells #[x0, x1, x2, x3, x4, x5] 120 (0, 0))) (hg : GuardAt Y w.heap.size l.v gc gv) (ha : StmR Y w.heap.size l av ac) : Bt w X H r tx #[a, b, c, d, gv, av] l gc ac gv av (set6 Y r a b c d gv av) := by
 have tt : Turn S2 0 Y (set6 Y r a b c d gv av) := turn6 hx (.inl rfl)
 exact ⟨bel6 hb hr, tt.box hq (by simp [S2]), row6 hx, hr, hg.turn tt (by simp [S2]), ha.turn tt (by simp [S2])⟩
end Go.Proofs.YtiimkhepplkocaaGreat
