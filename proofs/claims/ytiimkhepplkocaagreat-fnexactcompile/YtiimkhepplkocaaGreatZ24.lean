import Derived.Test.YtiimkhepplkocaaGreatZd
namespace Go.Proofs.YtiimkhepplkocaaGreat
open Go.RowKit Go.Sort
set_option linter.unusedVariables false
attribute [local go_sem ↓] Go.wp_at_zero Go.wp_at_succ

structure SB (w : World) (bx ex : Array Value) (X : World) : Prop where
  bel : Below w.heap.size w X
  b : X.heap[w.heap.size]? = some (.cells bx 32 (0, 0))
  e : X.heap[w.heap.size + 1]? = some (.cells ex 51 (0, 0))
  r : X.heap[w.heap.size + 1 + 1]? = some (.cells #[.slice none 0 0, .slice none 0 0] 32 (0, 0))
theorem SB.below {w : World} {bx ex : Array Value} {X Y : World} (h : SB w bx ex X) (hb : Below X.heap.size X Y) : SB w bx ex Y := ⟨h.bel.trans (hb.mono h.bel.size), block_below h.b hb, block_below h.e hb, block_below h.r hb⟩
theorem GuardAt.but {P0 : Nat} {X Y : World} {B : Nat} {v : Int} {its : List (Int × Int)} {g : Value} (h : GuardAt X B v its g) (ht : ButM P0 X Y) (hm : ∃ es c, X.heap[P0]? = some (.map es c)) : GuardAt Y 0 v its g := by
  rcases h with h | ⟨h0, t, P, h1, h2, h3, h4⟩
  · exact .inl h
  · exact .inr ⟨h0, t, P, h1, h2, Nat.zero_le _, ht.box hm h4⟩

end Go.Proofs.YtiimkhepplkocaaGreat
