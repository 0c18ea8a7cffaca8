import Derived.Test.YtiimkhepplkocaaGreatZc
namespace Go.Proofs.YtiimkhepplkocaaGreat
open Go.RowKit Go.Sort
set_option linter.unusedVariables false
attribute [local go_sem ↓] Go.wp_at_zero Go.wp_at_succ

/-- The three boxes of l3Boot. -/
structure Bq (w : World) (cx bx : Array Value) (X : World) : Prop where
  bel : Below w.heap.size w X
  c : X.heap[w.heap.size]? = some (.cells cx 36 (0, 0))
  b : X.heap[w.heap.size + 1]? = some (.cells bx 32 (0, 0))
  r : X.heap[w.heap.size + 1 + 1]? = some (.cells #[.slice none 0 0, .slice none 0 0] 32 (0, 0))
theorem Bq.below {w : World} {cx bx : Array Value} {X Y : World} (h : Bq w cx bx X) (hb : Below X.heap.size X Y) : Bq w cx bx Y := ⟨h.bel.trans (hb.mono h.bel.size), block_below h.c hb, block_below h.b hb, block_below h.r hb⟩
theorem Bq.grown {w : World} {cx bx : Array Value} {X Y : World} {B n : Nat} {v : Value} {xs : List Value} (h : Bq w cx bx X) (ho : X.ownsRow w.heap.size 3 1 v n xs) (hg : X.grownBy Y v.ownBlock) : Bq w cx bx Y :=
  ⟨h.bel.grown hg h.bel.size (fun kk e => (ho.lt kk e).1), (hg.block _ (lt_of_block h.c) (fun e => own_far ho (by decide) h.c e.symm)).trans h.c, (hg.block _ (lt_of_block h.b) (fun e => own_far ho (by decide) h.b e.symm)).trans h.b, (hg.block _ (lt_of_block h.r) (fun e => own_far ho (by decide) h.r e.symm)).trans h.r⟩

end Go.Proofs.YtiimkhepplkocaaGreat
namespace Go.Proofs.YtiimkhepplkocaaGreat
open Go.RowKit Go.Sort
set_option linter.unusedVariables false
attribute [local go_sem ↓] Go.wp_at_zero Go.wp_at_succ

/-- The three boxes of l3Ready. -/
structure By (w : World) (cx lx bx : Array Value) (X : World) : Prop where
  bel : Below w.heap.size w X
  c : X.heap[w.heap.size]? = some (.cells cx 36 (0, 0))
  l : X.heap[w.heap.size + 1]? = some (.cells lx 40 (0, 0))
  b : X.heap[w.heap.size + 1 + 1]? = some (.cells bx 32 (0, 0))
theorem By.below {w : World} {cx lx bx : Array Value} {X Y : World} (h : By w cx lx bx X) (hb : Below X.heap.size X Y) : By w cx lx bx Y := ⟨h.bel.trans (hb.mono h.bel.size), block_below h.c hb, block_below h.l hb, block_below h.b hb⟩
end Go.Proofs.YtiimkhepplkocaaGreat
namespace Go.Proofs.YtiimkhepplkocaaGreat
open Go.RowKit Go.Sort
set_option linter.unusedVariables false
attribute [local go_sem ↓] Go.wp_at_zero Go.wp_at_succ

end Go.Proofs.YtiimkhepplkocaaGreat
