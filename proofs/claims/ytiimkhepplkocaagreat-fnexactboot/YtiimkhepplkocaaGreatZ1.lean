import Derived.Test.YtiimkhepplkocaaGreatWa
import Derived.Test.YtiimkhepplkocaaGreatP2
namespace Go.Proofs.YtiimkhepplkocaaGreat
open Go.RowKit Go.Sort
set_option linter.unusedVariables false
attribute [local go_sem ↓] Go.wp_at_zero Go.wp_at_succ

theorem fault_zero {ss : List StD} {tn : Nat} {lim : Bool} (h : (faultOf ss tn lim).1 = 0) : faultOf ss tn lim = (0, 0) := by
  unfold faultOf at h ⊢
  by_cases hc : 1 ≤ ss.length ∧ ss.length ≤ 200 ∧ tn ≤ 500 ∧ lim = true
  · rw [if_pos hc] at h ⊢
    cases h1 : firstB (badP ss) ss.length with
    | some i => simp [h1] at h
    | none =>
      cases h2 : firstB (badD ss) ss.length with
      | some i => simp [h1, h2] at h
      | none =>
        cases h3 : firstB (badI ss) ss.length with
        | some i => simp [h1, h2, h3] at h
        | none => simp
  · rw [if_neg hc] at h
    simp at h
/-- A checked chart, laid open. -/
structure Chk (ss : List StD) (ts : List TrD) (l : LimD) : Prop where
  flt : faultOf ss ts.length (limB l) = (0, 0)
  good : GoodT ss ts.length
  lim : limP l
  ent : ∀ i, i < ss.length → ∃ vs, liftAll l (ss.getD i st0).entry = some vs
  ext : ∀ i, i < ss.length → ∃ vs, liftAll l (ss.getD i st0).exit = some vs
  src : ∀ j, j < ts.length → 0 ≤ (ts.getD j tr0).src ∧ (ts.getD j tr0).src < ss.length
  sig : ∀ j, j < ts.length → 0 ≤ (ts.getD j tr0).sig ∧ (ts.getD j tr0).sig < l.s
  tgt : ∀ j, j < ts.length → -1 ≤ (ts.getD j tr0).target ∧ (ts.getD j tr0).target < ss.length
  grd : ∀ j, j < ts.length → (ts.getD j tr0).guard = [] ∨ ((ts.getD j tr0).guard ≠ [] ∧ ∃ t, liftT (ts.getD j tr0).guard l.v = some t)
  act : ∀ j, j < ts.length → ∃ vs, liftAll l (ts.getD j tr0).action = some vs
theorem chk_of {ss : List StD} {ts : List TrD} {l : LimD} (h : (checkOf ss ts l).1 = 0) : Chk ss ts l := by
  have f0 : (faultOf ss ts.length (limB l)).1 = 0 := by
    by_cases c : (faultOf ss ts.length (limB l)).1 = 0
    · exact c
    · unfold checkOf at h; rw [if_neg c] at h; exact h
  have lm : limP l := by
    unfold faultOf at f0
    split at f0
    · rename_i hc; have := hc.2.2.2; unfold limB at this; exact of_decide_eq_true this
    · simp at f0
  unfold checkOf at h
  rw [if_pos f0] at h
  cases e1 : firstB (badA l ss) ss.length with
  | some i => rw [e1] at h; simp at h
  | none =>
    rw [e1] at h
    simp only at h
    cases e2 : firstB (badT ss.length l ts) ts.length with
    | some j => rw [e2] at h; simp at h
    | none =>
      have hA := firstB_none_iff e1
      have hT := firstB_none_iff e2
      have tr : ∀ j, j < ts.length → okTr ss.length l (ts.getD j tr0) = true := fun j hj => by
        have := hT j hj
        unfold badT at this
        simpa using this
      have un : ∀ j, j < ts.length → betB (ts.getD j tr0).src 0 ((ss.length : Int) - 1) = true ∧ betB (ts.getD j tr0).sig 0 (l.s - 1) = true ∧ betB (ts.getD j tr0).target (-1) ((ss.length : Int) - 1) = true ∧ grdB l (ts.getD j tr0).guard = true ∧ stmsB l (ts.getD j tr0).action = true := fun j hj => by
        have := tr j hj
        unfold okTr at this
        simpa only [Bool.and_eq_true] using this
      have some_of : ∀ x, stmsB l x = true → ∃ vs, liftAll l x = some vs := fun x hx => Option.isSome_iff_exists.1 (by rw [liftAll_stmsB]; exact hx)
      have st : ∀ i, i < ss.length → stmsB l (ss.getD i st0).entry = true ∧ stmsB l (ss.getD i st0).exit = true := fun i hi => by
        have := hA i hi
        unfold badA at this
        simpa only [Bool.not_eq_false', Bool.and_eq_true] using this
      refine ⟨fault_zero f0, good_of f0, lm, fun i hi => some_of _ (st i hi).1, fun i hi => some_of _ (st i hi).2, fun j hj => ?_, fun j hj => ?_, fun j hj => ?_, fun j hj => ?_, fun j hj => some_of _ (un j hj).2.2.2.2⟩
      · have := (un j hj).1; unfold betB at this; have := of_decide_eq_true this; omega
      · have := (un j hj).2.1; unfold betB at this; have := of_decide_eq_true this; omega
      · have := (un j hj).2.2.1; unfold betB at this; have := of_decide_eq_true this; omega
      · have := (un j hj).2.2.2.1
        unfold grdB at this
        rw [Bool.or_eq_true, decide_eq_true_iff] at this
        by_cases c : (ts.getD j tr0).guard = []
        · exact .inl c
        · refine .inr ⟨c, ?_⟩
          rcases this with h1 | h1
          · exact absurd (List.length_eq_zero_iff.1 h1) c
          · exact Option.isSome_iff_exists.1 (by rw [okT_codeB]; exact h1)

/-- Blocks of the types in S may turn at B and above; no other. -/
structure Turn (S : Nat → Prop) (B : Nat) (w w' : World) : Prop where
  os : w'.os = w.os
  tape : w'.tape = w.tape
  output : w'.output = w.output
  size : w.heap.size ≤ w'.heap.size
  low : ∀ k, k < B → k < w.heap.size → w'.heap[k]? = w.heap[k]?
  other : ∀ (k : Nat) (cs : Array Value) (t : TypeId) (fr : Nat × Nat), w.heap[k]? = some (Obj.cells cs t fr) → ¬ S t → w'.heap[k]? = w.heap[k]?
  rest : ∀ (k : Nat) (ob : Obj), w.heap[k]? = some ob → (∀ cs t fr, ob ≠ Obj.cells cs t fr) → w'.heap[k]? = w.heap[k]?
theorem Turn.refl (S : Nat → Prop) (B : Nat) (w : World) : Turn S B w w := ⟨rfl, rfl, rfl, Nat.le_refl _, fun _ _ _ => rfl, fun _ _ _ _ _ _ => rfl, fun _ _ _ _ => rfl⟩
theorem Turn.trans {S : Nat → Prop} {B : Nat} {a b c : World} (h : Turn S B a b) (k : Turn S B b c) : Turn S B a c :=
  ⟨k.os.trans h.os, k.tape.trans h.tape, k.output.trans h.output, Nat.le_trans h.size k.size, fun i hi hs => (k.low i hi (Nat.lt_of_lt_of_le hs h.size)).trans (h.low i hi hs),
    fun i cs t fr e h1 => (k.other i cs t fr ((h.other i cs t fr e h1).trans e) h1).trans (h.other i cs t fr e h1),
    fun i ob e h1 => (k.rest i ob ((h.rest i ob e h1).trans e) h1).trans (h.rest i ob e h1)⟩
theorem Turn.of_below {S : Nat → Prop} {B : Nat} {a b : World} (h : Below a.heap.size a b) : Turn S B a b := ⟨h.os, h.tape, h.output, h.size, fun i _ hs => h.block i hs, fun i _ _ _ e _ => h.block i (lt_of_block e), fun i _ e _ => h.block i (lt_of_block e)⟩
theorem Turn.below {S : Nat → Prop} {B : Nat} {w w' : World} (h : Turn S B w w') (hB : B ≤ w.heap.size) : Below B w w' := ⟨h.os, h.tape, h.output, h.size, fun k hk => h.low k hk (by omega)⟩
theorem Turn.mono {S S' : Nat → Prop} {B B' : Nat} {w w' : World} (h : Turn S B w w') (hB : B' ≤ B) (hS : ∀ t, S t → S' t) : Turn S' B' w w' := ⟨h.os, h.tape, h.output, h.size, fun k hk => h.low k (by omega), fun k cs t fr e hn => h.other k cs t fr e (fun x => hn (hS t x)), h.rest⟩
theorem Turn.set {S : Nat → Prop} {B : Nat} {w : World} {H o : Nat} {cs : Array Value} {t : TypeId} (hH : w.heap[H]? = some (.cells cs t (0, 0))) (ht : S t) (hB : B ≤ H) (u : Value) : Turn S B w (w.setCell ⟨H, o, none⟩ u) := by
  refine ⟨rfl, rfl, rfl, by simp, fun k hk _ => Below.heap_setCell _ _ _ _ (show k ≠ H by omega), fun k cs' t' fr e h1 => Below.heap_setCell _ _ _ _ ?_, fun k ob e h1 => Below.heap_setCell _ _ _ _ ?_⟩
  · show k ≠ H
    rintro rfl
    rw [hH] at e
    simp at e
    obtain ⟨_, rfl, _⟩ := e
    exact h1 ht
  · show k ≠ H
    rintro rfl
    rw [hH] at e
    simp at e
    exact h1 _ _ _ e.symm
theorem Turn.box {S : Nat → Prop} {B : Nat} {w w' : World} {H : Nat} {cs : Array Value} {t : TypeId} {fr : Nat × Nat} (h : Turn S B w w') (hb : w.heap[H]? = some (.cells cs t fr)) (h1 : ¬ S t) : w'.heap[H]? = some (.cells cs t fr) := (h.other H cs t fr hb h1).trans hb
theorem Turn.own {S : Nat → Prop} {B B2 : Nat} {w w' : World} {e : TypeId} {size : Nat} {v : Value} {n : Nat} {xs : List Value} (h : Turn S B w w') (ho : w.ownsRow B2 e size v n xs) (h1 : ¬ S e) : w'.ownsRow B2 e size v n xs := by
  refine ⟨ho.1, ?_⟩
  rcases ho.2 with h0 | ⟨g, cap, cur, k1, k2, k3, k4⟩
  · exact .inl h0
  · exact .inr ⟨g, cap, cur, k1, k2, h.box k3 h1, k4⟩
theorem Turn.grown {S : Nat → Prop} {B : Nat} {X w2 : World} {e : TypeId} {size : Nat} {v : Value} {n : Nat} {xs : List Value} (ho : X.ownsRow B e size v n xs) (hS : S e) (hg : X.grownBy w2 v.ownBlock) : Turn S B X w2 := by
  have key : ∀ k ob, X.heap[k]? = some ob → some k = v.ownBlock → B ≤ k ∧ ∃ cs fr, ob = .cells cs e fr := by
    intro k ob e1 e2
    rcases ho.2 with ⟨h0, _⟩ | ⟨g, cap, cur, k1, k2, k3, k4⟩
    · rw [h0] at e2; cases e2
    · rw [k1] at e2
      simp [Value.ownBlock] at e2
      subst e2
      rw [e1] at k3
      simp at k3
      exact ⟨k2, _, _, k3⟩
  refine ⟨hg.os, hg.tape, hg.output, hg.size, fun k hk hs => hg.block k hs ?_, fun k cs t fr e1 h1 => hg.block k (lt_of_block e1) ?_, fun k ob e1 h1 => hg.block k (lt_of_block e1) ?_⟩
  · intro e2
    obtain ⟨h, _⟩ := key k _ (Array.getElem?_eq_getElem hs) e2
    omega
  · intro e2
    obtain ⟨_, cs', fr', h⟩ := key k _ e1 e2
    simp at h
    exact h1 (by rw [h.2.1]; exact hS)
  · intro e2
    obtain ⟨_, cs', fr', h⟩ := key k _ e1 e2
    exact h1 _ _ _ h

/-- What a guard's closure holds. -/
def GuardAt (X : World) (B : Nat) (v : Int) (its : List (Int × Int)) (g : Value) : Prop :=
  (its = [] ∧ g = .func (.func 178) #[] #[]) ∨ (its ≠ [] ∧ ∃ t P, liftT its v = some t ∧ g = .func (.func 179) #[] #[.pointer (some ⟨P, 0, none⟩)] ∧ B ≤ P ∧ X.heap[P]? = some (.cells #[tv t] 138 (0, 0)))
theorem GuardAt.form {X : World} {B : Nat} {v : Int} {its : List (Int × Int)} {g : Value} (h : GuardAt X B v its g) : ∃ fn cp, g = .func fn #[] cp := by
  rcases h with ⟨_, h⟩ | ⟨_, t, P, _, h, _⟩ <;> exact ⟨_, _, h⟩
theorem GuardAt.base {X : World} {B B' : Nat} {v : Int} {its : List (Int × Int)} {g : Value} (h : GuardAt X B v its g) (hB : B' ≤ B) : GuardAt X B' v its g := by
  rcases h with h | ⟨h0, t, P, h1, h2, h3, h4⟩
  · exact .inl h
  · exact .inr ⟨h0, t, P, h1, h2, Nat.le_trans hB h3, h4⟩
theorem GuardAt.below {X Y : World} {B : Nat} {v : Int} {its : List (Int × Int)} {g : Value} (h : GuardAt X B v its g) (hb : Below X.heap.size X Y) : GuardAt Y B v its g := by
  rcases h with h | ⟨h0, t, P, h1, h2, h3, h4⟩
  · exact .inl h
  · exact .inr ⟨h0, t, P, h1, h2, h3, block_below h4 hb⟩
theorem GuardAt.turn {S : Nat → Prop} {X Y : World} {B B2 : Nat} {v : Int} {its : List (Int × Int)} {g : Value} (h : GuardAt X B v its g) (ht : Turn S B2 X Y) (hS : ¬ S 138) : GuardAt Y B v its g := by
  rcases h with h | ⟨h0, t, P, h1, h2, h3, h4⟩
  · exact .inl h
  · exact .inr ⟨h0, t, P, h1, h2, h3, ht.box h4 hS⟩

set_option maxHeartbeats 800000 in
theorem guardOf_any (ao : Option Addr) (n c : Nat) (its : List (Int × Int)) (v : Int) (w : World) (hn : n ≤ 9223372036854775807) (hs : ItemsOf w ao n its) (hg : its = [] ∨ (its ≠ [] ∧ ∃ t, liftT its v = some t)) :
    Calls Tryz.prog 142 #[.slice ao n c, .int .i64 v] w fun e w' => ∃ g, e = .returned g ∧ GuardAt w' w.heap.size v its g ∧ Below w.heap.size w w' := by
  rcases hg with h0 | ⟨h0, t, ht⟩
  · subst h0
    have hn0 : n = 0 := by have := hs.1; simp at this; omega
    subst hn0
    clear hs
    go_enter Tryz.func142, Tryz.ntmps142
    go_wp2
    go_ret
    exact ⟨_, rfl, .inl ⟨rfl, rfl⟩, Below.refl _ _⟩
  · have hmf : ∀ (fn : Fn) (first cap : Array Value) (w : World), (Instr.makeFunc fn first cap).run Tryz.prog w = .ok (.func fn first cap) w := fun _ _ _ _ => rfl
    have hn0 : ((n : Int) == 0) = false := by
      have h1 : n ≠ 0 := by have := hs.1; intro e; rw [e] at this; exact h0 (List.length_eq_zero_iff.1 this)
      simpa using h1
    have L := hid (liftCode_any ao n c its v w hn hs)
    rw [ht] at L
    unfold CodeEnd at L
    obtain ⟨y, x, hyx⟩ := tv_form t
    simp only [hyx] at L
    have HV := hid hyx
    clear hyx
    have H0 := hid h0
    have HT := hid ht
    clear hs ht h0
    go_enter Tryz.func142, Tryz.ntmps142
    go_wp2_with (go_at_call 64; refine L.out.mono ?_; rintro e w1 ⟨rfl, hb1⟩; have B1 := hid hb1; clear hb1)
    go_ret
    exact ⟨_, rfl, .inr ⟨H0.out, t, w1.heap.size, HT.out, rfl, B1.out.size, by rw [HV.out]; exact heap_alloc_new w1 _⟩, B1.out.alloc B1.out.size _⟩
end Go.Proofs.YtiimkhepplkocaaGreat
