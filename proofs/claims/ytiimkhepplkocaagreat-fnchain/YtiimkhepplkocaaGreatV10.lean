import Derived.Test.YtiimkhepplkocaaGreatV9
namespace Go.Proofs.YtiimkhepplkocaaGreat
open Go.RowKit Go.Sort
set_option linter.unusedVariables false
attribute [local go_sem ↓] Go.wp_at_zero Go.wp_at_succ
theorem effCells_get : ∀ (es : List EffD) (k : Nat), k < es.length → ∃ x : EffD, (effCells es)[k * 4]? = some (.int .i64 x.kind) ∧ (effCells es)[k * 4 + 1]? = some (.int .i64 x.a) ∧ (effCells es)[k * 4 + 2]? = some (.int .i64 x.b) ∧ (effCells es)[k * 4 + 3]? = some (.int .i64 x.v)
 | [], k, h => by simp at h
 | e :: r, 0, _ => ⟨e, rfl, rfl, rfl, rfl⟩
 | e :: r, k + 1, h => by
  obtain ⟨x, h1, h2, h3, h4⟩ := effCells_get r k (by simpa using h)
  refine ⟨x, ?_, ?_, ?_, ?_⟩
  ·rw [show (k + 1) * 4 = k * 4 + 4 by omega]; simpa [effCells] using h1
  ·rw [show (k + 1) * 4 + 1 = k * 4 + 1 + 4 by omega]; simpa [effCells] using h2
  ·rw [show (k + 1) * 4 + 2 = k * 4 + 2 + 4 by omega]; simpa [effCells] using h3
  ·rw [show (k + 1) * 4 + 3 = k * 4 + 3 + 4 by omega]; simpa [effCells] using h4
theorem own_any {w : World} {B : Nat} {e : TypeId} {size : Nat} {v : Value} {n : Nat} {xs : List Value} (h : w.ownsRow B e size v n xs) : ∃ ao c, v = .slice ao n c := by
 rcases h.2 with ⟨e, rfl⟩ | ⟨g, cap, cur, e, _⟩
 ·exact ⟨none, 0, e⟩
 ·exact ⟨_, cap, e⟩
end Go.Proofs.YtiimkhepplkocaaGreat
