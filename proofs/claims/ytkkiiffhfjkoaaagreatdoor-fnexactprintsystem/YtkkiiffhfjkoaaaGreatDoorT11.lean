import Derived.Test.YtkkiiffhfjkoaaaGreatDoorT10
namespace Go.Proofs.YtkkiiffhfjkoaaaGreatDoor
open Go.RowKit Go.Sort
set_option linter.unusedVariables false
attribute [local go_sem ↓] Go.wp_at_zero Go.wp_at_succ

/-- What stays of the law's own box. -/
structure LBox (w wr : World) (c : Array Value) : Prop where
  bel : Below w.heap.size w wr
  sy : wr.heap[w.heap.size]? = some (.cells c 25 (0, 0))
theorem LBox.below {w wr w1 : World} {c : Array Value} (h : LBox w wr c) (hb : Below wr.heap.size wr w1) : LBox w w1 c := ⟨h.bel.trans (hb.mono h.bel.size), block_below h.sy hb⟩
theorem lbox_start (w : World) (c : Array Value) : LBox w (w.alloc (.cells c 25)) c := ⟨below1 _ _, heap_alloc_new w _⟩

end Go.Proofs.YtkkiiffhfjkoaaaGreatDoor
