import Derived.Test.YtiimkhepplkocaaGreatV6
import Derived.Test.YtiimkhepplkocaaGreatXb
namespace Go.Proofs.YtiimkhepplkocaaGreat
open Go.RowKit Go.Sort
set_option linter.unusedVariables false
attribute [local go_sem ↓] Go.wp_at_zero Go.wp_at_succ

theorem cell_far {w : World} {B o H q : Nat} {v : Value} (h : H ≠ B) : (w.setCell ⟨B, o, none⟩ v).cell? ⟨H, q, none⟩ = w.cell? ⟨H, q, none⟩ := World.cell?_of_block (a := ⟨H, q, none⟩) (Below.heap_setCell _ _ _ _ h)
theorem own_news {w : World} {B g n cap size : Nat} {e : TypeId} {xs : List Value} (h : w.ownsRow B e size (.slice (some ⟨g, 0, none⟩) n cap) n xs) : ∀ j u, xs[j]? = some u → w.cell? ((⟨g, 0, none⟩ : Addr).add j) = some u := by
  intro j u hj
  have hj' := (List.getElem?_eq_some_iff.1 hj).1
  rw [show (⟨g, 0, none⟩ : Addr).add j = ⟨g, j, none⟩ by unfold Addr.add; split <;> simp_all, World.ownsRow.cellAt h j (by rw [← h.1]; exact hj'), hj]
end Go.Proofs.YtiimkhepplkocaaGreat
