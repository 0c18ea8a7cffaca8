import Derived.Test.YtkcbomhhdfgihaaGreatK1
namespace Go.Proofs.YtkcbomhhdfgihaaGreat
open Go.RowKit Go.Sort

set_option maxHeartbeats 1600000 in
theorem limitsOK_any (o s t v : Int) (w : World) : Calls Tryz.prog 116 #[.agg #[.int .i64 o, .int .i64 s, .int .i64 t, .int .i64 v]] w fun e w' => e = .returned (.bool (limB ⟨o, s, t, v⟩)) ∧ Below w.heap.size w w' := by
  by_cases h0 : 0 ≤ o
  case neg =>
    have d : decide (0 ≤ o) = false := by simpa using h0
    have E : Hid (limB ⟨o, s, t, v⟩ = false) := hid (by unfold limB; rw [decide_eq_false_iff_not]; unfold limP; simp only; omega)
    go_enter Tryz.func116, Tryz.ntmps116
    go_wp2
    go_ret
    exact ⟨ret_bool E.out.symm, below1 _ _⟩
  by_cases h1 : o ≤ 64
  case neg =>
    have d : decide (o ≤ 64) = false := by simpa using h1
    have E : Hid (limB ⟨o, s, t, v⟩ = false) := hid (by unfold limB; rw [decide_eq_false_iff_not]; unfold limP; simp only; omega)
    go_enter Tryz.func116, Tryz.ntmps116
    go_wp2
    go_ret
    exact ⟨ret_bool E.out.symm, below1 _ _⟩
  by_cases h2 : 0 ≤ s
  case neg =>
    have d : decide (0 ≤ s) = false := by simpa using h2
    have E : Hid (limB ⟨o, s, t, v⟩ = false) := hid (by unfold limB; rw [decide_eq_false_iff_not]; unfold limP; simp only; omega)
    go_enter Tryz.func116, Tryz.ntmps116
    go_wp2
    go_ret
    exact ⟨ret_bool E.out.symm, below1 _ _⟩
  by_cases h3 : s ≤ 64
  case neg =>
    have d : decide (s ≤ 64) = false := by simpa using h3
    have E : Hid (limB ⟨o, s, t, v⟩ = false) := hid (by unfold limB; rw [decide_eq_false_iff_not]; unfold limP; simp only; omega)
    go_enter Tryz.func116, Tryz.ntmps116
    go_wp2
    go_ret
    exact ⟨ret_bool E.out.symm, below1 _ _⟩
  by_cases h4 : 0 ≤ t
  case neg =>
    have d : decide (0 ≤ t) = false := by simpa using h4
    have E : Hid (limB ⟨o, s, t, v⟩ = false) := hid (by unfold limB; rw [decide_eq_false_iff_not]; unfold limP; simp only; omega)
    go_enter Tryz.func116, Tryz.ntmps116
    go_wp2
    go_ret
    exact ⟨ret_bool E.out.symm, below1 _ _⟩
  by_cases h5 : t ≤ 200
  case neg =>
    have d : decide (t ≤ 200) = false := by simpa using h5
    have E : Hid (limB ⟨o, s, t, v⟩ = false) := hid (by unfold limB; rw [decide_eq_false_iff_not]; unfold limP; simp only; omega)
    go_enter Tryz.func116, Tryz.ntmps116
    go_wp2
    go_ret
    exact ⟨ret_bool E.out.symm, below1 _ _⟩
  by_cases h6 : 0 ≤ v
  case neg =>
    have d : decide (0 ≤ v) = false := by simpa using h6
    have E : Hid (limB ⟨o, s, t, v⟩ = false) := hid (by unfold limB; rw [decide_eq_false_iff_not]; unfold limP; simp only; omega)
    go_enter Tryz.func116, Tryz.ntmps116
    go_wp2
    go_ret
    exact ⟨ret_bool E.out.symm, below1 _ _⟩
  by_cases h7 : v ≤ 32
  case neg =>
    have d : decide (v ≤ 32) = false := by simpa using h7
    have E : Hid (limB ⟨o, s, t, v⟩ = false) := hid (by unfold limB; rw [decide_eq_false_iff_not]; unfold limP; simp only; omega)
    go_enter Tryz.func116, Tryz.ntmps116
    go_wp2
    go_ret
    exact ⟨ret_bool E.out.symm, below1 _ _⟩
  have E : Hid (limB ⟨o, s, t, v⟩ = true) := hid (by unfold limB; rw [decide_eq_true_iff]; unfold limP; simp only; omega)
  go_enter Tryz.func116, Tryz.ntmps116
  go_wp2
  go_ret
  exact ⟨ret_bool E.out.symm, below1 _ _⟩
end Go.Proofs.YtkcbomhhdfgihaaGreat
