import Derived.Test.YtiimkhepplkocaaGreatZ11
namespace Go.Proofs.YtiimkhepplkocaaGreat
open Go.RowKit Go.Sort
set_option linter.unusedVariables false
attribute [local go_sem ↓] Go.wp_at_zero Go.wp_at_succ

/-- Cells that hold statements. -/
def StC (w : World) (cells : List Value) (xs : List StmD) : Prop := cells.length = xs.length * 4 ∧ (∀ u, u ∈ cells → u.oneCell' = true) ∧ ∀ i, i < xs.length → cells[i * 4]? = some (.int .i64 (xs.getD i stm0).kind) ∧ cells[i * 4 + 1]? = some (.int .i64 (xs.getD i stm0).a) ∧ cells[i * 4 + 2]? = some (.int .i64 (xs.getD i stm0).b) ∧
  ∃ co cn cc, cells[i * 4 + 3]? = some (.slice co cn cc) ∧ cn ≤ 9223372036854775807 ∧ ItemsOf w co cn (xs.getD i stm0).code
theorem stc_nil (w : World) : StC w [] [] := ⟨rfl, fun u h => by simp at h, fun i h => by simp at h⟩
theorem StC.below {w w' : World} {cells : List Value} {xs : List StmD} (h : StC w cells xs) (hb : Below w.heap.size w w') : StC w' cells xs := ⟨h.1, h.2.1, fun i hi => by
  obtain ⟨h1, h2, h3, co, cn, cc, h4, h5, h6⟩ := h.2.2 i hi
  exact ⟨h1, h2, h3, co, cn, cc, h4, h5, h6.below hb⟩⟩
theorem stc_append {w : World} {a b : List Value} {xs ys : List StmD} (h1 : StC w a xs) (h2 : StC w b ys) : StC w (a ++ b) (xs ++ ys) := by
  have e := h1.1
  refine ⟨by simp [h1.1, h2.1]; omega, fun u hu => ?_, fun i hi => ?_⟩
  · rcases List.mem_append.1 hu with h | h
    · exact h1.2.1 u h
    · exact h2.2.1 u h
  · rw [List.length_append] at hi
    by_cases h : i < xs.length
    · have hx : (xs ++ ys).getD i stm0 = xs.getD i stm0 := by simp only [List.getD_eq_getElem?_getD]; rw [List.getElem?_append_left h]
      rw [hx, List.getElem?_append_left (by omega), List.getElem?_append_left (by omega), List.getElem?_append_left (by omega), List.getElem?_append_left (by omega)]
      exact h1.2.2 i h
    · have hx : (xs ++ ys).getD i stm0 = ys.getD (i - xs.length) stm0 := by simp only [List.getD_eq_getElem?_getD]; rw [List.getElem?_append_right (by omega)]
      have g : ∀ r, (a ++ b)[i * 4 + r]? = b[(i - xs.length) * 4 + r]? := fun r => by rw [List.getElem?_append_right (by omega)]; congr 1; omega
      have g0 := g 0
      simp only [Nat.add_zero] at g0
      rw [hx, g0, g 1, g 2, g 3]
      exact h2.2.2 (i - xs.length) (by omega)
/-- The cells of a row, as they lie. -/
def rowC (w : World) (b off m : Nat) : List Value := (List.range m).map fun j => (w.cell? ⟨b, off + j, none⟩).getD undef
theorem rowC_get {w : World} {b off m j : Nat} (h : j < m) : (rowC w b off m)[j]? = some ((w.cell? ⟨b, off + j, none⟩).getD undef) := by simp [rowC, h]
theorem stms_cell {w : World} {b off n : Nat} {xs : List StmD} (hc : ∀ i, i < n → StmAt w b (off + i * 4) (xs.getD i stm0)) {j : Nat} (hj : j < n * 4) : ∃ u, w.cell? ⟨b, off + j, none⟩ = some u ∧ u.oneCell' = true := by
  obtain ⟨h1, h2, h3, co, cn, cc, h4, _⟩ := hc (j / 4) (by omega)
  have hr : j % 4 < 4 := Nat.mod_lt _ (by omega)
  have ej : j = j / 4 * 4 + j % 4 := by omega
  rcases (by omega : j % 4 = 0 ∨ j % 4 = 1 ∨ j % 4 = 2 ∨ j % 4 = 3) with e | e | e | e
  · exact ⟨_, by rw [show off + j = off + j / 4 * 4 by omega]; exact h1, rfl⟩
  · exact ⟨_, by rw [show off + j = off + j / 4 * 4 + 1 by omega]; exact h2, rfl⟩
  · exact ⟨_, by rw [show off + j = off + j / 4 * 4 + 2 by omega]; exact h3, rfl⟩
  · exact ⟨_, by rw [show off + j = off + j / 4 * 4 + 3 by omega]; exact h4, rfl⟩
theorem stc_row {w : World} {b off n : Nat} {xs : List StmD} (hl : xs.length = n) (hc : ∀ i, i < n → StmAt w b (off + i * 4) (xs.getD i stm0)) : StC w (rowC w b off (n * 4)) xs ∧ ∀ j u, (rowC w b off (n * 4))[j]? = some u → w.cell? ⟨b, off + j, none⟩ = some u := by
  refine ⟨⟨by simp [rowC, hl], fun u hu => ?_, fun i hi => ?_⟩, fun j u hu => ?_⟩
  · obtain ⟨j, hj, rfl⟩ := List.mem_map.1 hu
    obtain ⟨v, hv, ho⟩ := stms_cell hc (List.mem_range.1 hj)
    rw [hv]; exact ho
  · obtain ⟨h1, h2, h3, co, cn, cc, h4, h5, h6⟩ := hc i (by omega)
    refine ⟨?_, ?_, ?_, co, cn, cc, ?_, h5, h6⟩
    · rw [rowC_get (by omega), h1]; rfl
    · rw [rowC_get (by omega), ← Nat.add_assoc, h2]; rfl
    · rw [rowC_get (by omega), ← Nat.add_assoc, h3]; rfl
    · rw [rowC_get (by omega), ← Nat.add_assoc, h4]; rfl
  · have hj : j < n * 4 := by
      have := List.getElem?_eq_some_iff.1 hu
      obtain ⟨h, _⟩ := this
      simpa [rowC] using h
    rw [rowC_get hj] at hu
    obtain ⟨v, hv, _⟩ := stms_cell hc hj
    rw [hv] at hu ⊢
    simpa using hu
theorem stc_stms {X : World} {B g n cap : Nat} {cells : List Value} {xs : List StmD} (ho : X.ownsRow B 210 4 (.slice (some ⟨g, 0, none⟩) n cap) n cells) (hl : xs.length = n) (hc : StC X cells xs) : StmsOf X (some ⟨g, 0, none⟩) n xs := by
  refine ⟨hl, fun _ => ⟨g, 0, rfl, (ho.lt g rfl).2, fun i hi => ?_⟩⟩
  obtain ⟨h1, h2, h3, co, cn, cc, h4, h5, h6⟩ := hc.2.2 i (by omega)
  have cel : ∀ r, r < 4 → X.cell? ⟨g, 0 + i * 4 + r, none⟩ = cells[i * 4 + r]? := fun r hr => by
    rw [show 0 + i * 4 + r = i * 4 + r by omega]
    exact World.ownsRow.cellAt ho (i * 4 + r) (by omega)
  exact ⟨(cel 0 (by omega)).trans h1, (cel 1 (by omega)).trans h2, (cel 2 (by omega)).trans h3, co, cn, cc, (cel 3 (by omega)).trans h4, h5, h6⟩
end Go.Proofs.YtiimkhepplkocaaGreat
