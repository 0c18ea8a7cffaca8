import Derived.Test.YtiimkhepplkocaaGreatVb
import Derived.Test.YtiimkhepplkocaaGreatYa
namespace Go.Proofs.YtiimkhepplkocaaGreat
open Go.RowKit Go.Sort
set_option linter.unusedVariables false
attribute [local go_sem ↓] Go.wp_at_zero Go.wp_at_succ
structure OutE (B : Nat) (w : World) (kv vv ev : Value) (ks vs : List Int) (es : List EffD) : Prop where
 k : w.ownsRow B 3 1 kv ks.length (ks.map (Value.int .i64))
 v : w.ownsRow B 3 1 vv vs.length (vs.map (Value.int .i64))
 e : w.ownsRow B 136 4 ev es.length (effCells es)
 ne : ∀ b, kv.ownBlock = some b → vv.ownBlock ≠ some b
theorem OutE.below {B : Nat} {w w' : World} {kv vv ev : Value} {ks vs : List Int} {es : List EffD} (h : OutE B w kv vv ev ks vs es) (hb : Below w.heap.size w w') : OutE B w' kv vv ev ks vs es := ⟨ownsRow_below h.k hb, ownsRow_below h.v hb, ownsRow_below h.e hb, h.ne⟩
theorem outE_none {B E : Nat} {w : World} (h : w.heap[E]? = some OE) (hB : B ≤ E) : OutE B w (.slice none 0 0) (.slice none 0 0) (.slice (some ⟨E, 0, none⟩) 0 0) [] [] [] :=
 ⟨World.ownsRow_nil _ _ _ _, World.ownsRow_nil _ _ _ _, eff_none h hB, fun b e => by cases e⟩
theorem dn0 {a b : World} (h : Below a.drew.heap.size a.drew b) : Below a.heap.size a b := ⟨h.os, h.tape, h.output, h.size, h.block⟩
theorem out_cells {wr : World} {b : Nat} {t : TypeId} {u1 u2 x y : Value} (hb : wr.heap[b]? = some (.cells #[x, y] t (0, 0))) : ((wr.setCell ⟨b, 0, none⟩ u1).setCell ⟨b, 1, none⟩ u2).heap[b]? = some (.cells #[u1, u2] t (0, 0)) := by
 have m1 := heap_setCell_same wr b 0 _ _ u1 hb
 have m2 := heap_setCell_same _ b 1 _ _ u2 m1
 rw [m2]; simp
theorem out_bel {w wr : World} {b o1 o2 : Nat} {u1 u2 : Value} (h : Below w.heap.size w wr) (hb : w.heap.size ≤ b) : Below w.heap.size w ((wr.setCell ⟨b, o1, none⟩ u1).setCell ⟨b, o2, none⟩ u2) := (h.setCell hb _).setCell hb _
theorem OutE.set2 {B : Nat} {w : World} {kv vv ev : Value} {ks vs : List Int} {es : List EffD} {b : Nat} {cs : Array Value} {t : TypeId} (h : OutE B w kv vv ev ks vs es) (hb : w.heap[b]? = some (.cells cs t (0, 0))) (h1 : t ≠ 3) (h2 : t ≠ 136) (o1 o2 : Nat) (u1 u2 : Value) : OutE B ((w.setCell ⟨b, o1, none⟩ u1).setCell ⟨b, o2, none⟩ u2) kv vv ev ks vs es := by
 have m1 := heap_setCell_same w b o1 _ _ u1 hb
 have f1 := ownsRow_setCell_other (a := ⟨b, o1, none⟩) h.k (own_far h.k h1 hb) u1
 have f2 := ownsRow_setCell_other (a := ⟨b, o1, none⟩) h.v (own_far h.v h1 hb) u1
 have f3 := ownsRow_setCell_other (a := ⟨b, o1, none⟩) h.e (own_far h.e h2 hb) u1
 exact ⟨ownsRow_setCell_other f1 (own_far f1 h1 m1) u2, ownsRow_setCell_other f2 (own_far f2 h1 m1) u2, ownsRow_setCell_other f3 (own_far f3 h2 m1) u2, h.ne⟩
theorem bankP_of {ks vs : List Int} (h : bankB ks vs = true) : ks.length = vs.length ∧ vs.length ≤ 32 ∧ ∀ i, i < ks.length → 1 ≤ ks.getD i 0 ∧ ks.getD i 0 ≤ 7 := by
 unfold bankB at h
 obtain ⟨h1, h2, h3⟩ := of_decide_eq_true h
 refine ⟨h1, h2, fun i hi => ?_⟩
 have := (h3 i hi).1
 simpa [kOk] using this
end Go.Proofs.YtiimkhepplkocaaGreat
