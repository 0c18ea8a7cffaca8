import Derived.Test.YtiimkhepplkocaaGreatVb
import Derived.Test.YtiimkhepplkocaaGreatYa
namespace Go.Proofs.YtiimkhepplkocaaGreat
open Go.RowKit Go.Sort
set_option linter.unusedVariables false
attribute [local go_sem ↓] Go.wp_at_zero Go.wp_at_succ

/-- A bank and its effects, all of it made by the call. -/
structure OutE (B : Nat) (w : World) (kv vv ev : Value) (ks vs : List Int) (es : List EffD) : Prop where
  k : w.ownsRow B 3 1 kv ks.length (ks.map (Value.int .i64))
  v : w.ownsRow B 3 1 vv vs.length (vs.map (Value.int .i64))
  e : w.ownsRow B 136 4 ev es.length (effCells es)
  ne : ∀ b, kv.ownBlock = some b → vv.ownBlock ≠ some b
theorem OutE.below {B : Nat} {w w' : World} {kv vv ev : Value} {ks vs : List Int} {es : List EffD} (h : OutE B w kv vv ev ks vs es) (hb : Below w.heap.size w w') : OutE B w' kv vv ev ks vs es := ⟨ownsRow_below h.k hb, ownsRow_below h.v hb, ownsRow_below h.e hb, h.ne⟩
theorem out_cells {wr : World} {b : Nat} {t : TypeId} {u1 u2 x y : Value} (hb : wr.heap[b]? = some (.cells #[x, y] t (0, 0))) : ((wr.setCell ⟨b, 0, none⟩ u1).setCell ⟨b, 1, none⟩ u2).heap[b]? = some (.cells #[u1, u2] t (0, 0)) := by
  have m1 := heap_setCell_same wr b 0 _ _ u1 hb
  have m2 := heap_setCell_same _ b 1 _ _ u2 m1
  rw [m2]; simp
theorem out_bel {w wr : World} {b o1 o2 : Nat} {u1 u2 : Value} (h : Below w.heap.size w wr) (hb : w.heap.size ≤ b) : Below w.heap.size w ((wr.setCell ⟨b, o1, none⟩ u1).setCell ⟨b, o2, none⟩ u2) := (h.setCell hb _).setCell hb _
/-- The answer's two cells are set: what was made stays. -/
theorem OutE.set2 {B : Nat} {w : World} {kv vv ev : Value} {ks vs : List Int} {es : List EffD} {b : Nat} {cs : Array Value} {t : TypeId} (h : OutE B w kv vv ev ks vs es) (hb : w.heap[b]? = some (.cells cs t (0, 0))) (h1 : t ≠ 3) (h2 : t ≠ 136) (o1 o2 : Nat) (u1 u2 : Value) : OutE B ((w.setCell ⟨b, o1, none⟩ u1).setCell ⟨b, o2, none⟩ u2) kv vv ev ks vs es := by
  have m1 := heap_setCell_same w b o1 _ _ u1 hb
  have f1 := ownsRow_setCell_other (a := ⟨b, o1, none⟩) h.k (own_far h.k h1 hb) u1
  have f2 := ownsRow_setCell_other (a := ⟨b, o1, none⟩) h.v (own_far h.v h1 hb) u1
  have f3 := ownsRow_setCell_other (a := ⟨b, o1, none⟩) h.e (own_far h.e h2 hb) u1
  exact ⟨ownsRow_setCell_other f1 (own_far f1 h1 m1) u2, ownsRow_setCell_other f2 (own_far f2 h1 m1) u2, ownsRow_setCell_other f3 (own_far f3 h2 m1) u2, h.ne⟩

end Go.Proofs.YtiimkhepplkocaaGreat
