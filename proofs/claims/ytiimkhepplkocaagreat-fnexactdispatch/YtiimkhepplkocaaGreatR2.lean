import Derived.Test.YtiimkhepplkocaaGreatR1
import Derived.Test.YtiimkhepplkocaaGreatX7
namespace Go.Proofs.YtiimkhepplkocaaGreat
open Go.ChangeShapes Go.WideShapes Go.ChangeAt Go.RowKit Go.Joins
open Go.Deep (open_slice choose_lt open_slice_pairs)
set_option linter.unusedVariables false

theorem sliceOf_trod {H : Type} {enc : TypeId × Value → H} {w : World} {base : Nat} {spare : Nat → Bool} {held : Bool} {fuel : Nat} {v : Value} {x : DataW H × List MemPlace}
    (h : DataW.trod enc Tryz.prog w base spare held fuel 30 [v] = some x) : ∃ ao n c zs, v = .slice ao n c ∧ n ≤ 9223372036854775807 ∧ SliceOf w ao n zs := by
  rcases open_ints Tryz.underlying30 Tryz.underlying3 (by kernel_rfl) h with ⟨hcs, _⟩ | ⟨a, l, c, zs, hcs, _, hl, hm, hz, _, hcell, hwz⟩
  · simp at hcs
    subst hcs
    exact ⟨none, 0, 0, [], rfl, by omega, rfl, fun h => absurd h (by omega)⟩
  · simp at hcs
    subst hcs
    have hlz : l ≤ zs.length := by rw [hz]; split <;> omega
    refine ⟨some a, l, c, zs.take l, rfl, by unfold maxLen at hm; omega, by simp; omega, fun h0 => ?_⟩
    obtain ⟨b, off, spot⟩ := a
    have hc := hcell 0 (by omega)
    have hspot : spot = none := by simpa [Addr.add] using World.cell?_spot hc
    subst hspot
    refine ⟨b, off, rfl, block_lt_of_cell hc, fun i hi => ?_⟩
    have := hcell i (by omega)
    have e : (⟨b, off, none⟩ : Addr).add i = ⟨b, off + i, none⟩ := by
      by_cases h : i = 0
      · subst h; simp [Addr.add]
      · simp [Addr.add, h]
    rw [e] at this
    simpa [List.getD_eq_getElem?_getD, List.getElem?_take, hi] using this

theorem wf_I64 {x : Int} (h : (Lit.int .i64 x).wf = true) : I64 x := by
  have := bounds_i64 h
  unfold I64
  omega

theorem sliceOf_trod_bd {H : Type} {enc : TypeId × Value → H} {w : World} {base : Nat} {spare : Nat → Bool} {held : Bool} {fuel : Nat} {v : Value} {x : DataW H × List MemPlace}
    (h : DataW.trod enc Tryz.prog w base spare held fuel 30 [v] = some x) : ∃ ao n c zs, v = .slice ao n c ∧ n ≤ 9223372036854775807 ∧ SliceOf w ao n zs ∧ ∀ i, I64 (zs.getD i 0) := by
  have z0 : I64 0 := by unfold I64; omega
  rcases open_ints Tryz.underlying30 Tryz.underlying3 (by kernel_rfl) h with ⟨hcs, _⟩ | ⟨a, l, c, zs, hcs, _, hl, hm, hz, _, hcell, hwz⟩
  · simp at hcs
    subst hcs
    exact ⟨none, 0, 0, [], rfl, by omega, ⟨rfl, fun h => absurd h (by omega)⟩, fun i => by simpa using z0⟩
  · simp at hcs
    subst hcs
    have hlz : l ≤ zs.length := by rw [hz]; split <;> omega
    refine ⟨some a, l, c, zs.take l, rfl, by unfold maxLen at hm; omega, ⟨by simp; omega, fun h0 => ?_⟩, fun i => ?_⟩
    · obtain ⟨b, off, spot⟩ := a
      have hc := hcell 0 (by omega)
      have hspot : spot = none := by simpa [Addr.add] using World.cell?_spot hc
      subst hspot
      refine ⟨b, off, rfl, block_lt_of_cell hc, fun i hi => ?_⟩
      have := hcell i (by omega)
      rw [addr_add] at this
      simpa [List.getD_eq_getElem?_getD, List.getElem?_take, hi] using this
    · by_cases hi : i < (zs.take l).length
      · have hmem : (zs.take l).getD i 0 ∈ zs := by
          have e : (zs.take l).getD i 0 = (zs.take l)[i] := by simp [List.getD_eq_getElem?_getD, List.getElem?_eq_getElem hi]
          rw [e]
          exact List.mem_of_mem_take (List.getElem_mem hi)
        exact wf_I64 (hwz _ hmem)
      · have e : (zs.take l).getD i 0 = 0 := by simp [List.getD_eq_getElem?_getD, List.getElem?_eq_none (show (zs.take l).length ≤ i by omega)]
        rw [e]; exact z0

end Go.Proofs.YtiimkhepplkocaaGreat
