import Derived.Test.YtjeckanjekgkkaaGreatS2
namespace Go.Proofs.YtjeckanjekgkkaaGreat
open Go.RowKit Go.Sort
attribute [local go_sem ↓] Go.wp_at_zero Go.wp_at_succ

theorem ownI_cells {w w' : World} {g n cap : Nat} {l : List Nat} (h : OwnI w w' (.slice (some ⟨g, 0, none⟩) n cap) l) (hn : n = l.length) : g < w'.heap.size ∧ n ≤ cap ∧ ∀ j, j < n → w'.cell? ⟨g, j, none⟩ = some (.int .i64 ((l.getD j 0 : Nat) : Int)) := by
  subst hn
  unfold OwnI at h
  rcases h.2 with ⟨h0, _⟩ | ⟨g', cap', cur, e, _, hb, hcap, _⟩
  · simp at h0
  · simp at e
    obtain ⟨rfl, rfl⟩ := e
    refine ⟨lt_of_block hb, hcap, fun j hj => ?_⟩
    rw [h.cellAt j (by omega)]
    simp [ints, List.getD_eq_getElem?_getD, hj]
theorem below_two {w w1 : World} {a c : Value} {t : TypeId} (hb1 : Below (w.alloc (.cells #[a, c] t)).heap.size (w.alloc (.cells #[a, c] t)) w1) :
    Below w.heap.size w w1 ∧ w1.heap[w.heap.size]? = some (.cells #[a, c] t (0, 0)) :=
  ⟨(below1 _ _).trans (hb1.mono (by simp)), block_below (heap_alloc_new w _) hb1⟩

end Go.Proofs.YtjeckanjekgkkaaGreat
