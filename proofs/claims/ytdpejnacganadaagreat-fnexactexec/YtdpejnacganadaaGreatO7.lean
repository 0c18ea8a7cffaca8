import Derived.Test.YtdpejnacganadaaGreatO6
namespace Go.Proofs.YtdpejnacganadaaGreat
open Go.RowKit Go.Sort

theorem fieldA_most (k : Int) (l : LimD) : fieldA k l = mostA k l + 1 := by
  unfold fieldA mostA
  split
  · omega
  split
  · omega
  split <;> omega

theorem fieldB_most (k : Int) (l : LimD) : fieldB k l = mostB k l + 1 := by
  unfold fieldB mostB
  split
  · omega
  split <;> omega

theorem fieldsB_eq (k a b : Int) (cn : Nat) (l : LimD) : fieldsB k a b cn l = (betB a 0 (mostA k l) && betB b 0 (mostB k l) && (if hasB k then true else decide (cn = 0))) := by
  unfold fieldsB
  rw [fieldA_most, fieldB_most]
  have h1 : decide (0 ≤ a ∧ a < mostA k l + 1) = betB a 0 (mostA k l) := by rw [Bool.eq_iff_iff]; simp [betB]; omega
  have h2 : decide (0 ≤ b ∧ b < mostB k l + 1) = betB b 0 (mostB k l) := by rw [Bool.eq_iff_iff]; simp [betB]; omega
  rw [h1, h2]

theorem nodeOf_stmB (l : LimD) (s : StmD) : (nodeOf l s).isSome = stmB l s := by
  unfold nodeOf stmB
  rw [fieldsB_eq, ← okT_codeB s.code l.v]
  obtain ⟨k, a, b, code⟩ := s
  simp only
  cases hA : betB a 0 (mostA k l) with
  | false => simp
  | true =>
    cases hB : betB b 0 (mostB k l) with
    | false => simp
    | true =>
      simp only [Bool.true_and]
      by_cases h6 : k = 6
      · subst h6
        by_cases hz : code.length = 0 <;> simp [hasB, betB, hz]
      by_cases h7 : k = 7
      · subst h7
        by_cases hz : code.length = 0 <;> simp [hasB, betB, hz]
      by_cases h9 : k = 9
      · subst h9
        by_cases hz : code.length = 0 <;> simp [hasB, betB, hz]
      have hh : hasB k = true := by simp [hasB, h6, h7, h9]
      simp only [hh, if_true, h6, h7, h9, if_false]
      cases liftT code l.v with
      | none => simp
      | some t =>
        by_cases h1 : k = 1
        · subst h1; simp [betB]
        by_cases h2 : k = 2
        · subst h2; simp [betB]
        by_cases h3 : k = 3
        · subst h3; simp [betB]
        by_cases h4 : k = 4
        · subst h4; simp [betB]
        by_cases h5 : k = 5
        · subst h5; simp [betB]
        by_cases h8 : k = 8
        · subst h8; simp [betB]
        have hk : betB k 1 9 = false := by simp [betB]; omega
        simp [h1, h2, h3, h4, h5, h8, hk]

theorem nodesR_some (l : LimD) : ∀ ss : List StmD, (nodesR l ss).isSome = true ↔ ∀ i, i < ss.length → stmB l (ss.getD i stm0) = true := by
  intro ss
  induction ss with
  | nil => simp [nodesR]
  | cons s r ih =>
    have e : (nodesR l (s :: r)).isSome = ((nodeOf l s).isSome && (nodesR l r).isSome) := by
      simp only [nodesR]
      cases nodeOf l s with
      | none => rfl
      | some v => cases nodesR l r <;> rfl
    rw [e, Bool.and_eq_true, ih, nodeOf_stmB]
    constructor
    · rintro ⟨h1, h2⟩ i hi
      match i, hi with
      | 0, _ => simpa using h1
      | i + 1, hi => simpa using h2 i (by simpa using hi)
    · intro h
      exact ⟨by simpa using h 0 (by simp), fun i hi => by simpa using h (i + 1) (by simpa using hi)⟩

theorem liftAll_stmsB (l : LimD) (ss : List StmD) : (liftAll l ss).isSome = stmsB l ss := by
  rw [Bool.eq_iff_iff]
  unfold liftAll stmsB
  rw [decide_eq_true_iff]
  by_cases h : limP l ∧ ss.length ≤ 50
  · rw [if_pos h, nodesR_some]
    exact ⟨fun hh => ⟨h.1, h.2, hh⟩, fun hh => hh.2.2⟩
  · rw [if_neg h]
    constructor
    · intro hh; cases hh
    · intro hh; exact absurd ⟨hh.1, hh.2.1⟩ h

end Go.Proofs.YtdpejnacganadaaGreat
