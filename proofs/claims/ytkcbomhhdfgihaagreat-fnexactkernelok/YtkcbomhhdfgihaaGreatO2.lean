import Derived.Test.YtkcbomhhdfgihaaGreatN9
namespace Go.Proofs.YtkcbomhhdfgihaaGreat
open Go.RowKit Go.Sort

def limV (l : LimD) : Value := .agg #[.int .i64 l.o, .int .i64 l.s, .int .i64 l.t, .int .i64 l.v]

def mostA (k : Int) (l : LimD) : Int := if k = 1 then l.v - 1 else if k = 3 ∨ k = 4 then l.o - 1 else if k = 8 ∨ k = 9 then l.t - 1 else 0

def mostB (k : Int) (l : LimD) : Int := if k = 3 ∨ k = 4 ∨ k = 5 then l.s - 1 else if k = 8 then 999999999 else 0

def hasB (k : Int) : Bool := decide (k ≠ 6 ∧ k ≠ 7 ∧ k ≠ 9)

set_option maxHeartbeats 1600000 in
theorem l1Most_any (k o s t v : Int) (w : World) (hl : limP ⟨o, s, t, v⟩) : Calls Tryz.prog 86 #[.int .i64 k, .agg #[.int .i64 o, .int .i64 s, .int .i64 t, .int .i64 v]] w fun e w' => e = .returned (.tuple #[.int .i64 (mostA k ⟨o, s, t, v⟩), .int .i64 (mostB k ⟨o, s, t, v⟩)]) ∧ Below w.heap.size w w' := by
  obtain ⟨⟨o1, o2⟩, ⟨s1, s2⟩, ⟨t1, t2⟩, ⟨v1, v2⟩⟩ := hl
  simp only at o1 o2 s1 s2 t1 t2 v1 v2
  by_cases h1 : k = 1
  · subst h1
    go_enter Tryz.func86, Tryz.ntmps86
    go_wp2
    go_ret2
    exact ⟨ret_two (by simp [mostA]) (by simp [mostB]), below1 _ _⟩
  by_cases h3 : k = 3
  · subst h3
    go_enter Tryz.func86, Tryz.ntmps86
    go_wp2
    go_quiet (fail)
    go_wp2
    go_ret2
    exact ⟨ret_two (by simp [mostA]) (by simp [mostB]), belowDraws (below1 _ _) _⟩
  by_cases h4 : k = 4
  · subst h4
    go_enter Tryz.func86, Tryz.ntmps86
    go_wp2
    go_quiet (fail)
    go_wp2
    go_ret2
    exact ⟨ret_two (by simp [mostA]) (by simp [mostB]), belowDraws (below1 _ _) _⟩
  by_cases h5 : k = 5
  · subst h5
    go_enter Tryz.func86, Tryz.ntmps86
    go_wp2
    go_quiet (fail)
    go_wp2
    go_ret2
    exact ⟨ret_two (by simp [mostA]) (by simp [mostB]), belowDraws (below1 _ _) _⟩
  by_cases h8 : k = 8
  · subst h8
    go_enter Tryz.func86, Tryz.ntmps86
    go_wp2
    go_ret2
    exact ⟨ret_two (by simp [mostA]) (by simp [mostB]), below1 _ _⟩
  by_cases h9 : k = 9
  · subst h9
    go_enter Tryz.func86, Tryz.ntmps86
    go_wp2
    go_ret2
    exact ⟨ret_two (by simp [mostA]) (by simp [mostB]), below1 _ _⟩
  have e1 : (k == 1) = false := by simpa using h1
  have e3 : (k == 3) = false := by simpa using h3
  have e4 : (k == 4) = false := by simpa using h4
  have e5 : (k == 5) = false := by simpa using h5
  have e8 : (k == 8) = false := by simpa using h8
  have e9 : (k == 9) = false := by simpa using h9
  have E : Hid (mostA k ⟨o, s, t, v⟩ = 0 ∧ mostB k ⟨o, s, t, v⟩ = 0) := hid (by simp [mostA, mostB, h1, h3, h4, h5, h8, h9])
  clear h1 h3 h4 h5 h8 h9
  go_enter Tryz.func86, Tryz.ntmps86
  go_wp2
  go_ret2
  exact ⟨ret_two E.out.1.symm E.out.2.symm, below1 _ _⟩

set_option maxHeartbeats 400000 in
theorem l1HasCode_any (k : Int) (w : World) : Calls Tryz.prog 87 #[.int .i64 k] w fun e w' => e = .returned (.bool (hasB k)) ∧ w' = w := by
  by_cases h6 : k = 6
  · subst h6
    go_enter Tryz.func87, Tryz.ntmps87
    go_wp2
    go_ret
    exact ⟨ret_bool (by simp [hasB]), rfl⟩
  by_cases h7 : k = 7
  · subst h7
    go_enter Tryz.func87, Tryz.ntmps87
    go_wp2
    go_ret
    exact ⟨ret_bool (by simp [hasB]), rfl⟩
  by_cases h9 : k = 9
  · subst h9
    go_enter Tryz.func87, Tryz.ntmps87
    go_wp2
    go_ret
    exact ⟨ret_bool (by simp [hasB]), rfl⟩
  have e6 : (k != 6) = true := by simpa using h6
  have e7 : (k != 7) = true := by simpa using h7
  have e9 : (k != 9) = true := by simpa using h9
  have E : Hid (hasB k = true) := hid (by simp [hasB, h6, h7, h9])
  clear h6 h7 h9
  go_enter Tryz.func87, Tryz.ntmps87
  go_wp2
  go_ret
  exact ⟨ret_bool E.out.symm, rfl⟩

end Go.Proofs.YtkcbomhhdfgihaaGreat
