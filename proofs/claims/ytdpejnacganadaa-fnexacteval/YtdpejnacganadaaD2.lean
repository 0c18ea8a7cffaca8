import Derived.Test.YtdpejnacganadaaC1
namespace Go.Proofs.Ytdpejnacganadaa
open Go.RowKit Go.Sort

/-- Limits as data. -/
structure LimD where
  o : Int
  s : Int
  t : Int
  v : Int
def limV (l : LimD) : Value := .agg #[.int .i64 l.o, .int .i64 l.s, .int .i64 l.t, .int .i64 l.v]
abbrev limP (l : LimD) : Prop := (0 ≤ l.o ∧ l.o ≤ 64) ∧ (0 ≤ l.s ∧ l.s ≤ 64) ∧ (0 ≤ l.t ∧ l.t ≤ 200) ∧ (0 ≤ l.v ∧ l.v ≤ 32)
def limB (l : LimD) : Bool := decide (limP l)

set_option maxHeartbeats 800000 in
theorem l1LimOK_any (o s t v : Int) (w : World) : Calls Try.prog 44 #[.agg #[.int .i64 o, .int .i64 s, .int .i64 t, .int .i64 v]] w fun e w' => e = .returned (.bool (limB ⟨o, s, t, v⟩)) ∧ Below w.heap.size w w' := by
  obtain ⟨b1, h1⟩ : ∃ b, b = betB o 0 64 := ⟨_, rfl⟩
  obtain ⟨b2, h2⟩ : ∃ b, b = betB s 0 64 := ⟨_, rfl⟩
  obtain ⟨b3, h3⟩ : ∃ b, b = betB t 0 200 := ⟨_, rfl⟩
  obtain ⟨b4, h4⟩ : ∃ b, b = betB v 0 32 := ⟨_, rfl⟩
  have C1 := hid (l1Between_of o 0 64 b1 h1)
  have C2 := hid (l1Between_of s 0 64 b2 h2)
  have C3 := hid (l1Between_of t 0 200 b3 h3)
  have C4 := hid (l1Between_of v 0 32 b4 h4)
  have E : Hid (limB ⟨o, s, t, v⟩ = (b1 && b2 && b3 && b4)) := hid (by rw [h1, h2, h3, h4, Bool.eq_iff_iff]; simp [limB, limP, betB, and_assoc])
  clear h1 h2 h3 h4
  rw [E.out]
  cases b1 <;> cases b2 <;> cases b3 <;> cases b4
  all_goals
    go_enter Try.func44, Try.ntmps44
    go_wp2_with (first | (go_at_call_of 37 (Value.int .i64 o); refine (C1.out _).mono ?_; rintro e w1 ⟨rfl, hw⟩; obtain rfl := hw.symm) | (go_at_call_of 37 (Value.int .i64 s); refine (C2.out _).mono ?_; rintro e w1 ⟨rfl, hw⟩; obtain rfl := hw.symm) | (go_at_call_of 37 (Value.int .i64 t); refine (C3.out _).mono ?_; rintro e w1 ⟨rfl, hw⟩; obtain rfl := hw.symm) | (go_at_call_of 37 (Value.int .i64 v); refine (C4.out _).mono ?_; rintro e w1 ⟨rfl, hw⟩; obtain rfl := hw.symm))
    go_ret
    exact ⟨rfl, below1 _ _⟩

def mostA (k : Int) (l : LimD) : Int := if k = 1 then l.v - 1 else if k = 3 ∨ k = 4 then l.o - 1 else if k = 8 ∨ k = 9 then l.t - 1 else 0
def mostB (k : Int) (l : LimD) : Int := if k = 3 ∨ k = 4 ∨ k = 5 then l.s - 1 else if k = 8 then 999999999 else 0
def hasB (k : Int) : Bool := decide (k ≠ 6 ∧ k ≠ 7 ∧ k ≠ 9)

theorem ret_two {a b c d : Int} (h1 : a = c) (h2 : b = d) : Ending.returned (.tuple #[.int .i64 a, .int .i64 b]) = .returned (.tuple #[.int .i64 c, .int .i64 d]) := by rw [h1, h2]

set_option maxHeartbeats 1600000 in
theorem l1Most_any (k o s t v : Int) (w : World) (hl : limP ⟨o, s, t, v⟩) : Calls Try.prog 45 #[.int .i64 k, .agg #[.int .i64 o, .int .i64 s, .int .i64 t, .int .i64 v]] w fun e w' => e = .returned (.tuple #[.int .i64 (mostA k ⟨o, s, t, v⟩), .int .i64 (mostB k ⟨o, s, t, v⟩)]) ∧ Below w.heap.size w w' := by
  obtain ⟨⟨o1, o2⟩, ⟨s1, s2⟩, ⟨t1, t2⟩, ⟨v1, v2⟩⟩ := hl
  simp only at o1 o2 s1 s2 t1 t2 v1 v2
  by_cases h1 : k = 1
  · subst h1
    go_enter Try.func45, Try.ntmps45
    go_wp2
    go_ret2
    exact ⟨ret_two (by simp [mostA]) (by simp [mostB]), below1 _ _⟩
  by_cases h3 : k = 3
  · subst h3
    go_enter Try.func45, Try.ntmps45
    go_wp2
    go_quiet (fail)
    go_wp2
    go_ret2
    exact ⟨ret_two (by simp [mostA]) (by simp [mostB]), belowDraws (below1 _ _) _⟩
  by_cases h4 : k = 4
  · subst h4
    go_enter Try.func45, Try.ntmps45
    go_wp2
    go_quiet (fail)
    go_wp2
    go_ret2
    exact ⟨ret_two (by simp [mostA]) (by simp [mostB]), belowDraws (below1 _ _) _⟩
  by_cases h5 : k = 5
  · subst h5
    go_enter Try.func45, Try.ntmps45
    go_wp2
    go_quiet (fail)
    go_wp2
    go_ret2
    exact ⟨ret_two (by simp [mostA]) (by simp [mostB]), belowDraws (below1 _ _) _⟩
  by_cases h8 : k = 8
  · subst h8
    go_enter Try.func45, Try.ntmps45
    go_wp2
    go_ret2
    exact ⟨ret_two (by simp [mostA]) (by simp [mostB]), below1 _ _⟩
  by_cases h9 : k = 9
  · subst h9
    go_enter Try.func45, Try.ntmps45
    go_wp2
    go_ret2
    exact ⟨ret_two (by simp [mostA]) (by simp [mostB]), below1 _ _⟩
  have e1 : (k == 1) = false := by simpa using h1
  have e3 : (k == 3) = false := by simpa using h3
  have e4 : (k == 4) = false := by simpa using h4
  have e5 : (k == 5) = false := by simpa using h5
  have e8 : (k == 8) = false := by simpa using h8
  have e9 : (k == 9) = false := by simpa using h9
  have E : Hid (mostA k ⟨o, s, t, v⟩ = 0 ∧ mostB k ⟨o, s, t, v⟩ = 0) := hid (by simp [mostA, mostB, h1, h3, h4, h5, h8, h9])
  clear h1 h3 h4 h5 h8 h9
  go_enter Try.func45, Try.ntmps45
  go_wp2
  go_ret2
  exact ⟨ret_two E.out.1.symm E.out.2.symm, below1 _ _⟩

set_option maxHeartbeats 400000 in
theorem l1HasCode_any (k : Int) (w : World) : Calls Try.prog 46 #[.int .i64 k] w fun e w' => e = .returned (.bool (hasB k)) ∧ w' = w := by
  by_cases h6 : k = 6
  · subst h6
    go_enter Try.func46, Try.ntmps46
    go_wp2
    go_ret
    exact ⟨ret_bool (by simp [hasB]), rfl⟩
  by_cases h7 : k = 7
  · subst h7
    go_enter Try.func46, Try.ntmps46
    go_wp2
    go_ret
    exact ⟨ret_bool (by simp [hasB]), rfl⟩
  by_cases h9 : k = 9
  · subst h9
    go_enter Try.func46, Try.ntmps46
    go_wp2
    go_ret
    exact ⟨ret_bool (by simp [hasB]), rfl⟩
  have e6 : (k != 6) = true := by simpa using h6
  have e7 : (k != 7) = true := by simpa using h7
  have e9 : (k != 9) = true := by simpa using h9
  have E : Hid (hasB k = true) := hid (by simp [hasB, h6, h7, h9])
  clear h6 h7 h9
  go_enter Try.func46, Try.ntmps46
  go_wp2
  go_ret
  exact ⟨ret_bool E.out.symm, rfl⟩

set_option maxHeartbeats 400000 in
theorem toLimits_any (o s t v : Int) (w : World) : Calls Try.prog 20 #[.agg #[.int .i64 o, .int .i64 s, .int .i64 t, .int .i64 v]] w fun e w' => e = .returned (.agg #[.int .i64 o, .int .i64 s, .int .i64 t, .int .i64 v]) ∧ Below w.heap.size w w' := by
  go_enter Try.func20, Try.ntmps20
  go_wp2
  exact bodyPost_ret (v := .agg #[.int .i64 o, .int .i64 s, .int .i64 t, .int .i64 v]) (by simp [results, Try.results20, go_sem]) rfl ⟨rfl, below3 _ _ _ _⟩

theorem quad_cells {w : World} {H : Nat} {a b c d : Value} {t : TypeId} (h : w.heap[H]? = some (.cells #[a, b, c, d] t (0, 0))) : w.cell? ⟨H, 0, none⟩ = some a ∧ w.cell? ⟨H, 1, none⟩ = some b ∧ w.cell? ⟨H, 2, none⟩ = some c ∧ w.cell? ⟨H, 3, none⟩ = some d := by
  simp [World.cell?, h]
theorem block_below {w w' : World} {H : Nat} {ob : Obj} (h : w.heap[H]? = some ob) (hb : Below w.heap.size w w') : w'.heap[H]? = some ob := (hb.block _ (lt_of_block h)).trans h
end Go.Proofs.Ytdpejnacganadaa
