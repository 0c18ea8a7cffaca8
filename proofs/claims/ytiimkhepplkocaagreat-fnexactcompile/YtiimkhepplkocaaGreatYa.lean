import Derived.Test.YtiimkhepplkocaaGreatXa
import Derived.Laws.OwnMore
namespace Go.Proofs.YtiimkhepplkocaaGreat
open Go.RowKit Go.Sort

/-- A list of numbers that the call itself made. -/
def Own (w : World) (base : Nat) (v : Value) (zs : List Int) : Prop := w.ownsRow base 3 1 v zs.length (zs.map (Value.int .i64)) ∧ v ≠ .slice none 0 0

theorem Own.form {w : World} {base : Nat} {v : Value} {zs : List Int} (h : Own w base v zs) : ∃ g cap, v = .slice (some ⟨g, 0, none⟩) zs.length cap ∧ base ≤ g ∧ g < w.heap.size := by
  rcases h.1.2 with ⟨e, _⟩ | ⟨g, cap, cur, e, hb, hh, _⟩
  · exact absurd e h.2
  · exact ⟨g, cap, e, hb, lt_of_block hh⟩

theorem Own.slice {w : World} {base : Nat} {zs : List Int} {ao : Option Addr} {n cap : Nat} (h : Own w base (.slice ao n cap) zs) : SliceOf w ao n zs := by
  obtain ⟨g, cap', e, hb, hg⟩ := h.form
  simp only [Value.slice.injEq] at e
  obtain ⟨rfl, rfl, rfl⟩ := e
  refine ⟨rfl, fun _ => ⟨g, 0, rfl, hg, fun i hi => ?_⟩⟩
  have := h.1.cellAt i (by omega)
  rw [Nat.zero_add, this]
  simp [hi, List.getD]

end Go.Proofs.YtiimkhepplkocaaGreat
namespace Go.Proofs.YtiimkhepplkocaaGreat
open Go.RowKit Go.Sort
attribute [local go_sem ↓] Go.wp_at_zero Go.wp_at_succ

end Go.Proofs.YtiimkhepplkocaaGreat
namespace Go.Proofs.YtiimkhepplkocaaGreat
open Go.RowKit Go.Sort
attribute [local go_sem ↓] Go.wp_at_zero Go.wp_at_succ

end Go.Proofs.YtiimkhepplkocaaGreat
namespace Go.Proofs.YtiimkhepplkocaaGreat
open Go.RowKit Go.Sort

end Go.Proofs.YtiimkhepplkocaaGreat
