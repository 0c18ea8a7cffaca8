import Derived.Test.YtiimkhepplkocaaGreatR1
import Derived.Test.YtiimkhepplkocaaGreatDa
namespace Go.Proofs.YtiimkhepplkocaaGreat
open Go.ChangeShapes Go.WideShapes Go.ChangeAt Go.RowKit Go.Joins
open Go.Deep (open_slice choose_lt open_slice_pairs)
set_option linter.unusedVariables false
theorem bytesAt_trod {H : Type} {enc : TypeId × Value → H} {w : World} {base : Nat} {spare : Nat → Bool} {held : Bool} {fuel : Nat} {v : Value} {x : DataW H × List MemPlace}
  (h : DataW.trod enc Tryz.prog w base spare held fuel 22 [v] = some x) : ∃ ao n c, v = .slice ao n c ∧ n ≤ 9223372036854775807 ∧ BytesAt w ao n := by
 rcases open_ints Tryz.underlying22 Tryz.underlying5 (by kernel_rfl) h with ⟨hcs, _⟩ | ⟨a, l, c, zs, hcs, _, hl, hm, hz, _, hcell, hwz⟩
 ·simp at hcs
  subst hcs
  exact ⟨none, 0, 0, rfl, by omega, fun h => absurd h (by omega)⟩
 ·simp at hcs
  subst hcs
  have hlz : l ≤ zs.length := by rw [hz]; split <;> omega
  refine ⟨some a, l, c, rfl, by unfold maxLen at hm; omega, fun h0 => ?_⟩
  obtain ⟨b, off, spot⟩ := a
  have hc := hcell 0 (by omega)
  have hspot : spot = none := by simpa [Addr.add] using World.cell?_spot hc
  subst hspot
  refine ⟨b, off, rfl, block_lt_of_cell hc, fun i hi => ?_⟩
  have := hcell i (by omega)
  rw [addr_add] at this
  have hb := bounds_u8 (hwz (zs.getD i 0) (by rw [List.getD_eq_getElem?_getD, List.getElem?_eq_getElem (show i < zs.length by omega)]; simp))
  exact ⟨_, this, hb.1, by omega⟩
end Go.Proofs.YtiimkhepplkocaaGreat
