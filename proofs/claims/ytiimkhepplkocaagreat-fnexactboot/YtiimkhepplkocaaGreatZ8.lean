import Derived.Test.YtiimkhepplkocaaGreatZ7
namespace Go.Proofs.YtiimkhepplkocaaGreat
open Go.RowKit Go.Sort
set_option linter.unusedVariables false
attribute [local go_sem ↓] Go.wp_at_zero Go.wp_at_succ

/-- What compileRow keeps while it gathers the lists. -/
structure Cr (w : World) (rx : Array Value) (lv : Value) (LS : List Value) (X : World) : Prop where
  bel : Below w.heap.size w X
  rb : X.heap[w.heap.size]? = some (.cells rx 44 (0, 0))
  lb : X.heap[w.heap.size + 1]? = some (.cells #[.int .i64 0, .slice none 0 0, .slice none 0 0, .int .i64 0, .nilFunc] 194 (0, 0))
  pb : X.heap[w.heap.size + 1 + 1]? = some (.cells #[lv] 105 (0, 0))
  o : X.ownsRow w.heap.size 118 1 lv LS.length LS
theorem Cr.below {w : World} {rx : Array Value} {lv : Value} {LS : List Value} {X Y : World} (h : Cr w rx lv LS X) (hb : Below X.heap.size X Y) : Cr w rx lv LS Y :=
  ⟨h.bel.trans (hb.mono h.bel.size), block_below h.rb hb, block_below h.lb hb, block_below h.pb hb, ownsRow_below h.o hb⟩
theorem Cr.add {w : World} {rx : Array Value} {lv sv : Value} {LS : List Value} {X Y Z : World} {g cap : Nat} (h : Cr w rx lv LS X) (hb : Below X.heap.size X Y) (hg : Y.grownBy Z lv.ownBlock) (ho : Z.ownsRow w.heap.size 118 1 (.slice (some ⟨g, 0, none⟩) (LS.length + 1) cap) (LS.length + 1) (LS ++ [sv])) :
    Cr w rx (.slice (some ⟨g, 0, none⟩) (LS.length + 1) cap) (LS ++ [sv]) (Z.setCell ⟨w.heap.size + 1 + 1, 0, none⟩ (.slice (some ⟨g, 0, none⟩) (LS.length + 1) cap)) := by
  have hY := h.below hb
  have keep : ∀ {q : Nat} {cs : Array Value} {t : TypeId}, Y.heap[q]? = some (.cells cs t (0, 0)) → t ≠ 118 → Z.heap[q]? = some (.cells cs t (0, 0)) := fun hq ht => (hg.block _ (lt_of_block hq) (fun e => own_far hY.o ht hq e.symm)).trans hq
  have bp := keep hY.pb (by decide)
  refine ⟨?_, ?_, ?_, ?_, ?_⟩
  · exact (hY.bel.grown hg hY.bel.size (fun kk e => (hY.o.lt kk e).1)).setCell (by simp; omega) _
  · rw [heap_setCell_other _ _ _ _ (by simp; omega)]; exact keep hY.rb (by decide)
  · rw [heap_setCell_other _ _ _ _ (by simp)]; exact keep hY.lb (by decide)
  · rw [heap_setCell_same Z _ 0 _ _ _ bp]; simp
  · rw [List.length_append]; exact ownsRow_setCell_other ho (own_far ho (by decide) bp) _
end Go.Proofs.YtiimkhepplkocaaGreat
