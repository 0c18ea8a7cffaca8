import Derived.Test.YtiimkhepplkocaaGreatX4
namespace Go.Proofs.YtiimkhepplkocaaGreat
open Go.RowKit Go.Sort

set_option linter.unusedVariables false

theorem wrap64_double (a : Int) : wrap64 (wrap64 a + wrap64 a) = wrap64 (a * 2) := by unfold wrap64; omega

theorem pow_toNat (k : Nat) : ((k : Int)).toNat = k := by omega

set_option maxHeartbeats 800000 in
theorem shl_any (x : Int) (n : Nat) (w : World) (hn : n ≤ 63) (hx : I64 x) : Calls Tryz.prog 181 #[.int .i64 17, .int .i64 x, .int .i64 n] w fun e w' => e = .returned (.int .i64 (wrap64 (x * 2 ^ n))) ∧ w' = w := by
  have h0 : wrap64 x = x := by unfold I64 at hx; unfold wrap64; omega
  have H0 := hid h0
  have i1 : ¬ (n : Int) < 0 := by omega
  have i2 : ¬ (63 : Int) < (n : Int) := by omega
  clear hx h0
  go_enter Tryz.func181, Tryz.ntmps181
  go_wp2
  go_loop [1, 7] (fun v i => ∃ k : Nat, k ≤ n ∧ i = .int .i64 k ∧ v = .int .i64 (wrap64 (x * 2 ^ k))) (fun _ i => n - (intOf i).toNat)
  case atStart => exact ⟨0, Nat.zero_le _, rfl, by simp [H0.out]⟩
  case round =>
    obtain ⟨k, hk, rfl, rfl⟩ := hrel
    by_cases hlt : k < n
    · have hS : wrap64 (wrap64 (x * 2 ^ k) + wrap64 (x * 2 ^ k)) = wrap64 (x * 2 ^ (k + 1)) := by rw [wrap64_double, Int.mul_assoc, ← Int.pow_succ]
      obtain ⟨v, hv⟩ : ∃ v, v = wrap64 (x * 2 ^ k) := ⟨_, rfl⟩
      rw [← hv] at hS ⊢
      have HS := hid hS
      clear hS hv
      go_wp2
      go_round
      case rel => exact ⟨k + 1, by omega, by go_num, by rw [← HS.out]⟩
      case measure => simp [intOf]; omega
    · have e : k = n := by omega
      subst e
      go_wp2
      go_ret
      exact ⟨rfl, rfl⟩

theorem half_neg {v : Int} (h : v < 0) : -1 - (-1 - v) / 2 = v / 2 := by omega

theorem ediv_succ (x : Int) (k : Nat) : x / 2 ^ (k + 1) = x / 2 ^ k / 2 := by
  rw [Int.pow_succ, Int.ediv_ediv_of_nonneg]
  exact Int.le_of_lt (Int.pow_pos (by omega))

theorem ediv_bd {x : Int} (h : I64 x) (k : Nat) : I64 (x / 2 ^ k) := by
  induction k with
  | zero => simpa using h
  | succ k ih => rw [ediv_succ]; unfold I64 at ih ⊢; omega

set_option maxHeartbeats 800000 in
theorem shr_any (x : Int) (n : Nat) (w : World) (hn : n ≤ 63) (hx : I64 x) : Calls Tryz.prog 181 #[.int .i64 18, .int .i64 x, .int .i64 n] w fun e w' => e = .returned (.int .i64 (x / 2 ^ n)) ∧ w' = w := by
  have HX := hid hx
  have i1 : ¬ (n : Int) < 0 := by omega
  have i2 : ¬ (63 : Int) < (n : Int) := by omega
  clear hx
  go_enter Tryz.func181, Tryz.ntmps181
  go_wp2
  go_loop [1, 7] (fun v i => ∃ k : Nat, k ≤ n ∧ i = .int .i64 k ∧ v = .int .i64 (x / 2 ^ k)) (fun _ i => n - (intOf i).toNat)
  case atStart => exact ⟨0, Nat.zero_le _, rfl, by simp⟩
  case round =>
    obtain ⟨k, hk, rfl, rfl⟩ := hrel
    by_cases hlt : k < n
    · have hS := ediv_succ x k
      have hb := ediv_bd HX.out k
      obtain ⟨v, hv⟩ : ∃ v, v = x / 2 ^ k := ⟨_, rfl⟩
      rw [← hv] at hS hb ⊢
      have HS := hid hS
      obtain ⟨hb1, hb2⟩ := hb
      clear hS hv
      by_cases hneg : v < 0
      · go_wp2
        go_round
        case rel => exact ⟨k + 1, by omega, by go_num, by rw [HS.out]; go_num⟩
        case measure => simp [intOf]; omega
      · have hnn : 0 ≤ v := by omega
        go_wp2
        go_round
        case rel => exact ⟨k + 1, by omega, by go_num, by rw [HS.out]⟩
        case measure => simp [intOf]; omega
    · have e : k = n := by omega
      subst e
      go_wp2
      go_ret
      exact ⟨rfl, rfl⟩

set_option maxHeartbeats 800000 in
theorem shl_out (x n : Int) (w : World) (hn : n < 0 ∨ 63 < n) : Calls Tryz.prog 181 #[.int .i64 17, .int .i64 x, .int .i64 n] w fun e w' => e = .returned (.int .i64 0) ∧ w' = w := by
  by_cases h0 : n < 0
  · clear hn
    go_enter Tryz.func181, Tryz.ntmps181
    go_wp2
    go_ret
    exact ⟨rfl, rfl⟩
  · have h1 : 63 < n := by omega
    clear hn
    go_enter Tryz.func181, Tryz.ntmps181
    go_wp2
    go_ret
    exact ⟨rfl, rfl⟩

set_option maxHeartbeats 800000 in
theorem shr_out (x n : Int) (w : World) (hn : n < 0 ∨ 63 < n) (hx : I64 x) : Calls Tryz.prog 181 #[.int .i64 18, .int .i64 x, .int .i64 n] w fun e w' => e = .returned (.int .i64 (x / 9223372036854775808)) ∧ w' = w := by
  by_cases h0 : n < 0 <;> by_cases hx0 : x < 0
  · have E : Hid (x / 9223372036854775808 = -1) := hid (by unfold I64 at hx; omega)
    rw [E.out]
    clear hn hx
    go_enter Tryz.func181, Tryz.ntmps181
    go_wp2
    go_ret
    exact ⟨rfl, rfl⟩
  · have E : Hid (x / 9223372036854775808 = 0) := hid (by unfold I64 at hx; omega)
    rw [E.out]
    have d : decide (x < 0) = false := by simpa using hx0
    clear hn hx
    go_enter Tryz.func181, Tryz.ntmps181
    go_wp2
    go_ret
    exact ⟨rfl, rfl⟩
  · have E : Hid (x / 9223372036854775808 = -1) := hid (by unfold I64 at hx; omega)
    have h1 : 63 < n := by omega
    rw [E.out]
    clear hn hx
    go_enter Tryz.func181, Tryz.ntmps181
    go_wp2
    go_ret
    exact ⟨rfl, rfl⟩
  · have E : Hid (x / 9223372036854775808 = 0) := hid (by unfold I64 at hx; omega)
    have h1 : 63 < n := by omega
    have d : decide (x < 0) = false := by simpa using hx0
    rw [E.out]
    clear hn hx
    go_enter Tryz.func181, Tryz.ntmps181
    go_wp2
    go_ret
    exact ⟨rfl, rfl⟩

set_option maxHeartbeats 400000 in
theorem bit_any (b : Bool) (w : World) : Calls Tryz.prog 150 #[.bool b] w fun e w' => e = .returned (.int .i64 (truthI b)) ∧ w' = w := by
  cases b
  · go_enter Tryz.func150, Tryz.ntmps150
    go_wp2
    go_ret
    exact ⟨rfl, rfl⟩
  · go_enter Tryz.func150, Tryz.ntmps150
    go_wp2
    go_ret
    exact ⟨rfl, rfl⟩

set_option maxHeartbeats 800000 in
theorem app4 (x y : Int) (w : World) (hx : I64 x) (hy : I64 y) : Calls Tryz.prog 151 #[.int .i64 4, .int .i64 x, .int .i64 y] w fun e w' => e = .returned (.int .i64 (binV 4 x y)) ∧ w' = w := by
  have T := hid bit_any
  clear hx hy
  go_enter Tryz.func151, Tryz.ntmps151
  go_wp2_with fail
  go_ret
  exact ⟨ret_int (by simp [binV]), rfl⟩

set_option maxHeartbeats 800000 in
theorem app5 (x y : Int) (w : World) (hx : I64 x) (hy : I64 y) : Calls Tryz.prog 151 #[.int .i64 5, .int .i64 x, .int .i64 y] w fun e w' => e = .returned (.int .i64 (binV 5 x y)) ∧ w' = w := by
  have T := hid bit_any
  clear hx hy
  go_enter Tryz.func151, Tryz.ntmps151
  go_wp2_with fail
  go_ret
  exact ⟨ret_int (by simp [binV]), rfl⟩

set_option maxHeartbeats 800000 in
theorem app6 (x y : Int) (w : World) (hx : I64 x) (hy : I64 y) : Calls Tryz.prog 151 #[.int .i64 6, .int .i64 x, .int .i64 y] w fun e w' => e = .returned (.int .i64 (binV 6 x y)) ∧ w' = w := by
  have T := hid bit_any
  clear hx hy
  go_enter Tryz.func151, Tryz.ntmps151
  go_wp2_with fail
  go_ret
  exact ⟨ret_int (by simp [binV]), rfl⟩

set_option maxHeartbeats 800000 in
theorem app7 (x y : Int) (w : World) (hx : I64 x) (hy : I64 y) : Calls Tryz.prog 151 #[.int .i64 7, .int .i64 x, .int .i64 y] w fun e w' => e = .returned (.int .i64 (binV 7 x y)) ∧ w' = w := by
  have T := hid bit_any
  by_cases h0 : y = 0
  · subst h0
    clear hx hy
    go_enter Tryz.func151, Tryz.ntmps151
    go_wp2_with fail
    go_ret
    exact ⟨ret_int (by simp [binV]), rfl⟩
  · have hy2 : (y == 0) = false := by simpa using h0
    clear hx hy
    go_enter Tryz.func151, Tryz.ntmps151
    go_wp2_with fail
    go_ret
    exact ⟨ret_int (by simp [binV, h0]), rfl⟩

set_option maxHeartbeats 800000 in
theorem app8 (x y : Int) (w : World) (hx : I64 x) (hy : I64 y) : Calls Tryz.prog 151 #[.int .i64 8, .int .i64 x, .int .i64 y] w fun e w' => e = .returned (.int .i64 (binV 8 x y)) ∧ w' = w := by
  have T := hid bit_any
  by_cases h0 : y = 0
  · subst h0
    clear hx hy
    go_enter Tryz.func151, Tryz.ntmps151
    go_wp2_with fail
    go_ret
    exact ⟨ret_int (by simp [binV]), rfl⟩
  · have hy2 : (y == 0) = false := by simpa using h0
    clear hx hy
    go_enter Tryz.func151, Tryz.ntmps151
    go_wp2_with fail
    go_ret
    exact ⟨ret_int (by simp [binV, h0]), rfl⟩

set_option maxHeartbeats 800000 in
theorem app9 (x y : Int) (w : World) (hx : I64 x) (hy : I64 y) : Calls Tryz.prog 151 #[.int .i64 9, .int .i64 x, .int .i64 y] w fun e w' => e = .returned (.int .i64 (binV 9 x y)) ∧ w' = w := by
  have T := hid bit_any
  clear hx hy
  go_enter Tryz.func151, Tryz.ntmps151
  go_wp2_with (go_at_call 150; refine (T.out _ _).mono ?_; rintro e w2 ⟨rfl, hw⟩; obtain rfl := hw.symm)
  go_ret
  exact ⟨ret_int (by simp [binV]), rfl⟩

set_option maxHeartbeats 800000 in
theorem app10 (x y : Int) (w : World) (hx : I64 x) (hy : I64 y) : Calls Tryz.prog 151 #[.int .i64 10, .int .i64 x, .int .i64 y] w fun e w' => e = .returned (.int .i64 (binV 10 x y)) ∧ w' = w := by
  have T := hid bit_any
  clear hx hy
  go_enter Tryz.func151, Tryz.ntmps151
  go_wp2_with (go_at_call 150; refine (T.out _ _).mono ?_; rintro e w2 ⟨rfl, hw⟩; obtain rfl := hw.symm)
  go_ret
  exact ⟨ret_int (by simp [binV]), rfl⟩

set_option maxHeartbeats 800000 in
theorem app11 (x y : Int) (w : World) (hx : I64 x) (hy : I64 y) : Calls Tryz.prog 151 #[.int .i64 11, .int .i64 x, .int .i64 y] w fun e w' => e = .returned (.int .i64 (binV 11 x y)) ∧ w' = w := by
  have T := hid bit_any
  by_cases h0 : x = 0
  · subst h0
    clear hx hy
    go_enter Tryz.func151, Tryz.ntmps151
    go_wp2_with (go_at_call 150; refine (T.out _ _).mono ?_; rintro e w2 ⟨rfl, hw⟩; obtain rfl := hw.symm)
    go_ret
    exact ⟨ret_int (by simp [binV]), rfl⟩
  · have hx2 : (x != 0) = true := by simpa using h0
    have E : Hid (binV 11 x y = truthI (y != 0)) := hid (by
      by_cases h1 : y = 0
      · simp [binV, h0, h1]
      · have h2 : (y != 0) = true := by simpa using h1
        simp [binV, h0, h1, h2])
    clear h0
    clear hx hy
    go_enter Tryz.func151, Tryz.ntmps151
    go_wp2_with (go_at_call 150; refine (T.out _ _).mono ?_; rintro e w2 ⟨rfl, hw⟩; obtain rfl := hw.symm)
    go_ret
    exact ⟨ret_int (E.out.symm), rfl⟩

set_option maxHeartbeats 800000 in
theorem app12 (x y : Int) (w : World) (hx : I64 x) (hy : I64 y) : Calls Tryz.prog 151 #[.int .i64 12, .int .i64 x, .int .i64 y] w fun e w' => e = .returned (.int .i64 (binV 12 x y)) ∧ w' = w := by
  have T := hid bit_any
  by_cases h0 : x = 0
  · subst h0
    have E : Hid (binV 12 0 y = truthI (y != 0)) := hid (by
      by_cases h1 : y = 0
      · simp [binV, h1]
      · have h2 : (y != 0) = true := by simpa using h1
        simp [binV, h1, h2])
    clear hx hy
    go_enter Tryz.func151, Tryz.ntmps151
    go_wp2_with (go_at_call 150; refine (T.out _ _).mono ?_; rintro e w2 ⟨rfl, hw⟩; obtain rfl := hw.symm)
    go_ret
    exact ⟨ret_int (E.out.symm), rfl⟩
  · have hx2 : (x != 0) = true := by simpa using h0
    have E : Hid (binV 12 x y = truthI true) := hid (by simp [binV, h0])
    clear h0
    clear hx hy
    go_enter Tryz.func151, Tryz.ntmps151
    go_wp2_with (go_at_call 150; refine (T.out _ _).mono ?_; rintro e w2 ⟨rfl, hw⟩; obtain rfl := hw.symm)
    go_ret
    exact ⟨ret_int (E.out.symm), rfl⟩

set_option maxHeartbeats 800000 in
theorem app14 (x y : Int) (w : World) (hx : I64 x) (hy : I64 y) : Calls Tryz.prog 151 #[.int .i64 14, .int .i64 x, .int .i64 y] w fun e w' => e = .returned (.int .i64 (binV 14 x y)) ∧ w' = w := by
  have T := hid bit_any
  have S := hid (fun w => bitwise14 x y w hx hy)
  have E : Hid (binV 14 x y = joinV (joinN 14 x y) 64) := hid (by simp only [binV]; simp; exact bits_join 14 .and x y (by simp))
  clear hx hy
  go_enter Tryz.func151, Tryz.ntmps151
  go_wp2_with (go_at_call 182; refine (S.out _).mono ?_; rintro e w2 ⟨rfl, hw⟩; obtain rfl := hw.symm)
  go_ret
  exact ⟨ret_int (E.out.symm), rfl⟩

set_option maxHeartbeats 800000 in
theorem app15 (x y : Int) (w : World) (hx : I64 x) (hy : I64 y) : Calls Tryz.prog 151 #[.int .i64 15, .int .i64 x, .int .i64 y] w fun e w' => e = .returned (.int .i64 (binV 15 x y)) ∧ w' = w := by
  have T := hid bit_any
  have S := hid (fun w => bitwise15 x y w hx hy)
  have E : Hid (binV 15 x y = joinV (joinN 15 x y) 64) := hid (by simp only [binV]; simp; exact bits_join 15 .or x y (by simp))
  clear hx hy
  go_enter Tryz.func151, Tryz.ntmps151
  go_wp2_with (go_at_call 182; refine (S.out _).mono ?_; rintro e w2 ⟨rfl, hw⟩; obtain rfl := hw.symm)
  go_ret
  exact ⟨ret_int (E.out.symm), rfl⟩

set_option maxHeartbeats 800000 in
theorem app16 (x y : Int) (w : World) (hx : I64 x) (hy : I64 y) : Calls Tryz.prog 151 #[.int .i64 16, .int .i64 x, .int .i64 y] w fun e w' => e = .returned (.int .i64 (binV 16 x y)) ∧ w' = w := by
  have T := hid bit_any
  have S := hid (fun w => bitwise16 x y w hx hy)
  have E : Hid (binV 16 x y = joinV (joinN 16 x y) 64) := hid (by simp only [binV]; simp; exact bits_join 16 .xor x y (by simp))
  clear hx hy
  go_enter Tryz.func151, Tryz.ntmps151
  go_wp2_with (go_at_call 182; refine (S.out _).mono ?_; rintro e w2 ⟨rfl, hw⟩; obtain rfl := hw.symm)
  go_ret
  exact ⟨ret_int (E.out.symm), rfl⟩

set_option maxHeartbeats 800000 in
theorem app17 (x y : Int) (w : World) (hx : I64 x) (hy : I64 y) : Calls Tryz.prog 151 #[.int .i64 17, .int .i64 x, .int .i64 y] w fun e w' => e = .returned (.int .i64 (binV 17 x y)) ∧ w' = w := by
  have T := hid bit_any
  by_cases hc : cntS y = true
  · have h0 : 0 ≤ y ∧ y ≤ 63 := by simpa [cntS] using hc
    obtain ⟨k, rfl⟩ : ∃ k : Nat, y = k := ⟨y.toNat, by omega⟩
    have S := hid (fun w => shl_any x k w (by omega) hx)
    have E : Hid (binV 17 x k = _) := hid (by simp only [binV]; simp [hc]; rfl)
    clear hx hy
    go_enter Tryz.func151, Tryz.ntmps151
    go_wp2_with (go_at_call 181; refine (S.out _).mono ?_; rintro e w2 ⟨rfl, hw⟩; obtain rfl := hw.symm)
    go_ret
    exact ⟨ret_int (by rw [E.out]), rfl⟩
  · have hc' : cntS y = false := by simpa using hc
    have S := hid (fun w => shl_out x y w (by simp [cntS] at hc; omega))
    clear hx hy
    go_enter Tryz.func151, Tryz.ntmps151
    go_wp2_with (go_at_call 181; refine (S.out _).mono ?_; rintro e w2 ⟨rfl, hw⟩; obtain rfl := hw.symm)
    go_ret
    exact ⟨ret_int (by simp [binV, hc']), rfl⟩

set_option maxHeartbeats 800000 in
theorem app18 (x y : Int) (w : World) (hx : I64 x) (hy : I64 y) : Calls Tryz.prog 151 #[.int .i64 18, .int .i64 x, .int .i64 y] w fun e w' => e = .returned (.int .i64 (binV 18 x y)) ∧ w' = w := by
  have T := hid bit_any
  by_cases hc : cntS y = true
  · have h0 : 0 ≤ y ∧ y ≤ 63 := by simpa [cntS] using hc
    obtain ⟨k, rfl⟩ : ∃ k : Nat, y = k := ⟨y.toNat, by omega⟩
    have S := hid (fun w => shr_any x k w (by omega) hx)
    have E : Hid (binV 18 x k = _) := hid (by simp only [binV]; simp [hc]; rfl)
    clear hx hy
    go_enter Tryz.func151, Tryz.ntmps151
    go_wp2_with (go_at_call 181; refine (S.out _).mono ?_; rintro e w2 ⟨rfl, hw⟩; obtain rfl := hw.symm)
    go_ret
    exact ⟨ret_int (by rw [E.out]), rfl⟩
  · have hc' : cntS y = false := by simpa using hc
    have S := hid (fun w => shr_out x y w (by simp [cntS] at hc; omega) hx)
    clear hx hy
    go_enter Tryz.func151, Tryz.ntmps151
    go_wp2_with (go_at_call 181; refine (S.out _).mono ?_; rintro e w2 ⟨rfl, hw⟩; obtain rfl := hw.symm)
    go_ret
    exact ⟨ret_int (by simp [binV, hc']), rfl⟩

theorem apply_any (op x y : Int) (w : World) (h : binOk op) (hx : I64 x) (hy : I64 y) : Calls Tryz.prog 151 #[.int .i64 op, .int .i64 x, .int .i64 y] w fun e w' => e = .returned (.int .i64 (binV op x y)) ∧ w' = w := by
  have hk : op = 4 ∨ op = 5 ∨ op = 6 ∨ op = 7 ∨ op = 8 ∨ op = 9 ∨ op = 10 ∨ op = 11 ∨ op = 12 ∨ op = 14 ∨ op = 15 ∨ op = 16 ∨ op = 17 ∨ op = 18 := by unfold binOk at h; omega
  rcases hk with rfl | rfl | rfl | rfl | rfl | rfl | rfl | rfl | rfl | rfl | rfl | rfl | rfl | rfl
  · exact app4 x y w hx hy
  · exact app5 x y w hx hy
  · exact app6 x y w hx hy
  · exact app7 x y w hx hy
  · exact app8 x y w hx hy
  · exact app9 x y w hx hy
  · exact app10 x y w hx hy
  · exact app11 x y w hx hy
  · exact app12 x y w hx hy
  · exact app14 x y w hx hy
  · exact app15 x y w hx hy
  · exact app16 x y w hx hy
  · exact app17 x y w hx hy
  · exact app18 x y w hx hy

end Go.Proofs.YtiimkhepplkocaaGreat
