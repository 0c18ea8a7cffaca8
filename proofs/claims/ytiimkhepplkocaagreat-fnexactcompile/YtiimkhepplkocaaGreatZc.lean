import Derived.Test.YtiimkhepplkocaaGreatZf
import Derived.Test.YtiimkhepplkocaaGreatV8
namespace Go.Proofs.YtiimkhepplkocaaGreat
open Go.RowKit Go.Sort
set_option linter.unusedVariables false
attribute [local go_sem ↓] Go.wp_at_zero Go.wp_at_succ

/-- Cells that hold statements. -/
def StC (w : World) (cells : List Value) (xs : List StmD) : Prop := cells.length = xs.length * 4 ∧ (∀ u, u ∈ cells → u.oneCell' = true) ∧ ∀ i, i < xs.length → cells[i * 4]? = some (.int .i64 (xs.getD i stm0).kind) ∧ cells[i * 4 + 1]? = some (.int .i64 (xs.getD i stm0).a) ∧ cells[i * 4 + 2]? = some (.int .i64 (xs.getD i stm0).b) ∧
  ∃ co cn cc, cells[i * 4 + 3]? = some (.slice co cn cc) ∧ cn ≤ 9223372036854775807 ∧ ItemsOf w co cn (xs.getD i stm0).code
theorem StC.below {w w' : World} {cells : List Value} {xs : List StmD} (h : StC w cells xs) (hb : Below w.heap.size w w') : StC w' cells xs := ⟨h.1, h.2.1, fun i hi => by
  obtain ⟨h1, h2, h3, co, cn, cc, h4, h5, h6⟩ := h.2.2 i hi
  exact ⟨h1, h2, h3, co, cn, cc, h4, h5, h6.below hb⟩⟩
theorem stc_append {w : World} {a b : List Value} {xs ys : List StmD} (h1 : StC w a xs) (h2 : StC w b ys) : StC w (a ++ b) (xs ++ ys) := by
  have e := h1.1
  refine ⟨by simp [h1.1, h2.1]; omega, fun u hu => ?_, fun i hi => ?_⟩
  · rcases List.mem_append.1 hu with h | h
    · exact h1.2.1 u h
    · exact h2.2.1 u h
  · rw [List.length_append] at hi
    by_cases h : i < xs.length
    · have hx : (xs ++ ys).getD i stm0 = xs.getD i stm0 := by simp only [List.getD_eq_getElem?_getD]; rw [List.getElem?_append_left h]
      rw [hx, List.getElem?_append_left (by omega), List.getElem?_append_left (by omega), List.getElem?_append_left (by omega), List.getElem?_append_left (by omega)]
      exact h1.2.2 i h
    · have hx : (xs ++ ys).getD i stm0 = ys.getD (i - xs.length) stm0 := by simp only [List.getD_eq_getElem?_getD]; rw [List.getElem?_append_right (by omega)]
      have g : ∀ r, (a ++ b)[i * 4 + r]? = b[(i - xs.length) * 4 + r]? := fun r => by rw [List.getElem?_append_right (by omega)]; congr 1; omega
      have g0 := g 0
      simp only [Nat.add_zero] at g0
      rw [hx, g0, g 1, g 2, g 3]
      exact h2.2.2 (i - xs.length) (by omega)
end Go.Proofs.YtiimkhepplkocaaGreat
namespace Go.Proofs.YtiimkhepplkocaaGreat
open Go.RowKit Go.Sort
set_option linter.unusedVariables false
attribute [local go_sem ↓] Go.wp_at_zero Go.wp_at_succ

/-- The script that is gathered. -/
structure Sc (w : World) (bx : Array Value) (lv : Value) (xs : List StmD) (X : World) : Prop where
  bel : Below w.heap.size w X
  q : X.heap[w.heap.size]? = some (.cells bx 36 (0, 0))
  o : ∃ g cap cells, lv = .slice (some ⟨g, 0, none⟩) xs.length cap ∧ X.ownsRow w.heap.size 210 4 lv xs.length cells ∧ StC w cells xs
theorem Sc.grown {w : World} {bx : Array Value} {g cap g2 cap2 : Nat} {xs ys : List StmD} {cells news : List Value} {X Y : World} (h1 : Below w.heap.size w X) (h2 : X.heap[w.heap.size]? = some (.cells bx 36 (0, 0))) (ho : X.ownsRow w.heap.size 210 4 (.slice (some ⟨g, 0, none⟩) xs.length cap) xs.length cells) (hc : StC w cells xs) (hn : StC w news ys) (hg : X.grownBy Y (Value.slice (some ⟨g, 0, none⟩) xs.length cap).ownBlock)
    (ho2 : Y.ownsRow w.heap.size 210 4 (.slice (some ⟨g2, 0, none⟩) (xs.length + ys.length) cap2) (xs.length + ys.length) (cells ++ news)) : Sc w bx (.slice (some ⟨g2, 0, none⟩) (xs.length + ys.length) cap2) (xs ++ ys) Y := by
  have bY : Below w.heap.size w Y := h1.grown hg h1.size (fun kk e => (ho.lt kk e).1)
  refine ⟨bY, (hg.block _ (lt_of_block h2) (fun e => own_far ho (by decide) h2 e.symm)).trans h2, g2, cap2, cells ++ news, by rw [List.length_append], by rw [List.length_append]; exact ho2, stc_append hc hn⟩
end Go.Proofs.YtiimkhepplkocaaGreat
namespace Go.Proofs.YtiimkhepplkocaaGreat
open Go.RowKit Go.Sort
set_option linter.unusedVariables false
attribute [local go_sem ↓] Go.wp_at_zero Go.wp_at_succ

end Go.Proofs.YtiimkhepplkocaaGreat
