import Derived.Test.YtjeckanjekgkkaaGreatI2
import Derived.WalkMore
namespace Go.Proofs.YtjeckanjekgkkaaGreat
open Go.RowKit Go.Sort
attribute [local go_sem ↓] Go.wp_at_zero Go.wp_at_succ

def domV (N : Nat → Nat) (ss : List StD) (f t : Nat) : Value := if dom ss f t = -1 then .pointer none else .pointer (some ⟨N (dom ss f t).toNat, 0, none⟩)
theorem domV_meet {N : Nat → Nat} {ss : List StD} (T : TreeOK ss) {f t m : Nat} (hf : f < ss.length) (ht : t < ss.length) {pre post : List Nat} (e : up ss f = pre ++ m :: post) (hpre : ∀ x, x ∈ pre → ¬ x ∈ up ss t) (hm : m ∈ up ss t) :
    domV N ss f t = if (aboveB ss m f && aboveB ss m t) = true then .pointer (some ⟨N m, 0, none⟩) else parV N ss m := by
  have hml : m < ss.length := Nat.lt_of_le_of_lt (up_le T f hf m (by rw [e]; simp)) hf
  unfold domV
  rw [dom_meet T hf ht e hpre hm]
  by_cases h : m ∈ (up ss f).tail ∧ m ∈ (up ss t).tail
  · have h2 : (aboveB ss m f && aboveB ss m t) = true := by simp [aboveB, h]
    rw [if_pos h, if_pos h2, if_neg (by omega), Int.toNat_natCast]
  · have h2 : ¬ (aboveB ss m f && aboveB ss m t) = true := by simpa [aboveB] using h
    rw [if_neg h, if_neg h2]
    by_cases h0 : m = 0
    · rw [if_pos h0, if_pos rfl, parV, if_pos h0]
    · have := T.2 m (by omega) hml
      rw [if_neg h0, if_neg (by omega), parV, if_neg h0]

theorem zero_up {ss : List StD} (T : TreeOK ss) : ∀ k, k < ss.length → 0 ∈ up ss k := by
  intro k
  induction k using Nat.strongRecOn with
  | ind k ih =>
    intro hk
    by_cases h0 : k = 0
    · subst h0; simp [up_zero]
    · have h1 := T.2 k (by omega) hk
      rw [up_pos T (by omega) hk]
      exact List.mem_cons_of_mem _ (ih _ (by omega) (by omega))
theorem ownP_cells {w w' : World} {g n cap : Nat} {N : Nat → Nat} {l : List Nat} (h : OwnP w w' (.slice (some ⟨g, 0, none⟩) n cap) N l) (hn : n = l.length) : g < w'.heap.size ∧ ∀ j, j < n → w'.cell? ⟨g, j, none⟩ = some (.pointer (some ⟨N (l.getD j 0), 0, none⟩)) := by
  subst hn
  unfold OwnP at h
  rcases h.2 with ⟨h0, _⟩ | ⟨g', cap', cur, e, _, hb, hcap, _⟩
  · simp at h0
  · simp at e
    obtain ⟨rfl, rfl⟩ := e
    refine ⟨lt_of_block hb, fun j hj => ?_⟩
    rw [h.cellAt j (by omega)]
    simp [ptrs, List.getD_eq_getElem?_getD, hj]
theorem getD_mem {l : List Nat} {k : Nat} (h : k < l.length) : l.getD k 0 ∈ l := by
  rw [List.getD_eq_getElem?_getD, List.getElem?_eq_getElem h]
  exact List.getElem_mem _
theorem mem_getD {l : List Nat} {x : Nat} (h : x ∈ l) : ∃ k, k < l.length ∧ l.getD k 0 = x := by
  obtain ⟨k, hk, e⟩ := List.getElem_of_mem h
  exact ⟨k, hk, by rw [List.getD_eq_getElem?_getD, List.getElem?_eq_getElem hk]; exact e⟩
theorem split_mid {l : List Nat} {k : Nat} (h : k < l.length) : l = l.take k ++ l.getD k 0 :: l.drop (k + 1) := by
  have e : l.getD k 0 = l[k] := by simp [List.getD_eq_getElem?_getD, List.getElem?_eq_getElem h]
  rw [e]
  simp

end Go.Proofs.YtjeckanjekgkkaaGreat
