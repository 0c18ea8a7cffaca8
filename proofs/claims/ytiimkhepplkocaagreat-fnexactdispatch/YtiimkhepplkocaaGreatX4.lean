import Derived.Test.YtiimkhepplkocaaGreatXa
namespace Go.Proofs.YtiimkhepplkocaaGreat
open Go.RowKit Go.Sort

def I64 (x : Int) : Prop := -9223372036854775808 ≤ x ∧ x ≤ 9223372036854775807

theorem wrap64_I64 (x : Int) : I64 (wrap64 x) := by unfold I64 wrap64; omega

/-- A number's 64 bits as a number without a sign. -/
def un (x : Int) : Nat := (x % 18446744073709551616).toNat

theorem un_lt (x : Int) : un x < 2 ^ 64 := by unfold un; omega

theorem un_pos {x : Int} (h : I64 x) (h0 : 0 ≤ x) : un x = x.toNat := by unfold un; unfold I64 at h; omega

theorem un_neg {x : Int} (h : I64 x) (h0 : x < 0) : un x = 2 ^ 64 - ((-1 - x).toNat + 1) := by unfold un; unfold I64 at h; omega

theorem bit_neg {x : Int} (h : I64 x) (h0 : x < 0) {n : Nat} (hn : n < 64) : (un x).testBit n = !(un (-1 - x)).testBit n := by
  have h1 : I64 (-1 - x) := by unfold I64 at h ⊢; omega
  rw [un_neg h h0, un_pos h1 (by omega), Nat.testBit_two_pow_sub_succ (by unfold I64 at h1; omega)]
  simp [hn]

theorem bit_pos {x : Int} (h : I64 x) (h0 : 0 ≤ x) {n : Nat} : (un x).testBit n = decide (x / 2 ^ n % 2 = 1) := by
  rw [un_pos h h0, Nat.testBit_eq_decide_div_mod_eq]
  have e : x / 2 ^ n % 2 = ((x.toNat / 2 ^ n % 2 : Nat) : Int) := by
    have hx : x = (x.toNat : Int) := by omega
    conv => lhs; rw [hx]
    simp
  rw [e]
  generalize x.toNat / 2 ^ n % 2 = z
  exact decide_eq_decide.2 (by omega)

theorem pow_facts (n : Nat) (hn : n ≤ 62) : (0 : Int) < 2 ^ n ∧ (2 : Int) ^ n ≤ 4611686018427387904 := by
  refine ⟨Int.pow_pos (by omega), ?_⟩
  have := Nat.pow_le_pow_right (n := 2) (by omega) hn
  have e : ((2 ^ n : Nat) : Int) = (2 : Int) ^ n := by simp
  rw [← e]
  have h2 : (2 : Nat) ^ 62 = 4611686018427387904 := by decide
  omega

set_option maxHeartbeats 800000 in
theorem bitOf_pos (x : Int) (n : Nat) (w : World) (hx : I64 x) (h0 : 0 ≤ x) (hn : n ≤ 63) : Calls Tryz.prog 190 #[.int .i64 x, .int .i64 n] w fun e w' => e = .returned (.bool ((un x).testBit n)) ∧ w' = w := by
  have hb := bit_pos hx h0 (n := n)
  obtain ⟨hx1, hx2⟩ := hx
  by_cases h63 : n = 63
  · subst h63
    have E : Hid ((un x).testBit 63 = false) := hid (by rw [hb]; simp; omega)
    rw [E.out]
    clear hb
    have i63 : ((63 : Nat) : Int) = 63 := rfl
    go_enter Tryz.func190, Tryz.ntmps190
    go_wp2
    go_ret
    exact ⟨rfl, rfl⟩
  · have hp := pow_facts n (by omega)
    have P62 := hid (fun w => l1Pow_any n w (by omega))
    have e63 : ((n : Int) == 63) = false := by simp; omega
    rw [hb]
    obtain ⟨P, hP⟩ : ∃ P, P = (2 : Int) ^ n := ⟨_, rfl⟩
    rw [← hP] at hp P62 ⊢
    obtain ⟨hp1, hp2⟩ := hp
    have hP0 : ¬ P = 0 := by omega
    have HP := hid hP
    clear hP hb h63
    go_enter Tryz.func190, Tryz.ntmps190
    go_wp2_with (go_at_call 126; refine (P62.out _).mono ?_; rintro e w1 ⟨rfl, hw⟩; obtain rfl := hw.symm)
    go_ret
    have hnn : 0 ≤ x / P := Int.ediv_nonneg h0 (by omega)
    refine ⟨ret_bool ?_, rfl⟩
    rw [Int.tmod_eq_emod_of_nonneg hnn, Bool.eq_iff_iff]
    simp

set_option maxHeartbeats 800000 in
theorem bitOf_any (x : Int) (n : Nat) (w : World) (hx : I64 x) (hn : n ≤ 63) : Calls Tryz.prog 190 #[.int .i64 x, .int .i64 n] w fun e w' => e = .returned (.bool ((un x).testBit n)) ∧ w' = w := by
  by_cases h0 : 0 ≤ x
  · exact bitOf_pos x n w hx h0 hn
  · have h0' : x < 0 := by omega
    have h1 : I64 (-1 - x) := by unfold I64 at hx ⊢; omega
    have C := hid (fun w => bitOf_pos (-1 - x) n w h1 (by omega) hn)
    have E := hid (bit_neg hx h0' (n := n) (by omega))
    rw [E.out]
    obtain ⟨hx1, hx2⟩ := hx
    obtain ⟨bb, hbb⟩ : ∃ b, b = (un (-1 - x)).testBit n := ⟨_, rfl⟩
    rw [← hbb] at C ⊢
    clear h1 E hbb h0
    go_enter Tryz.func190, Tryz.ntmps190
    go_wp2_with (go_at_call 190; refine (C.out _).mono ?_; rintro e w1 ⟨rfl, hw⟩; obtain rfl := hw.symm)
    go_ret
    exact ⟨rfl, rfl⟩

/-- The bits of two numbers joined. -/
def joinN (op : Int) (x y : Int) : Nat := if op = 14 then un x &&& un y else if op = 15 then un x ||| un y else un x ^^^ un y

def joinB (op : Int) (a b : Bool) : Bool := if op = 14 then a && b else if op = 15 then a || b else a != b

theorem joinN_bit (op x y : Int) (n : Nat) : (joinN op x y).testBit n = joinB op ((un x).testBit n) ((un y).testBit n) := by
  unfold joinN joinB
  split
  · exact Nat.testBit_and _ _ _
  split
  · exact Nat.testBit_or _ _ _
  · rw [Nat.testBit_xor]

theorem joinN_lt (op x y : Int) : joinN op x y < 2 ^ 64 := by
  unfold joinN
  split
  · exact Nat.and_lt_two_pow _ (un_lt y)
  split
  · exact Nat.or_lt_two_pow (un_lt x) (un_lt y)
  · exact Nat.xor_lt_two_pow (un_lt x) (un_lt y)

/-- .. up to bit k. -/
def joinV (N k : Nat) : Int := if k ≤ 63 then ((N % 2 ^ k : Nat) : Int) else ((N % 2 ^ 63 : Nat) : Int) - (if N.testBit 63 then 9223372036854775808 else 0)

theorem mod_succ (N k : Nat) : N % 2 ^ (k + 1) = N % 2 ^ k + (if N.testBit k then 2 ^ k else 0) := by
  rw [Nat.mod_pow_succ, Nat.testBit_eq_decide_div_mod_eq]
  have h : N / 2 ^ k % 2 = 0 ∨ N / 2 ^ k % 2 = 1 := by omega
  rcases h with h | h <;> simp [h]

theorem ofInt_un (x : Int) : (BitVec.ofInt 64 x).toNat = un x := by
  rw [BitVec.toNat_ofInt]; unfold un; rfl

theorem bits_join (op : Int) (b : BinOp) (x y : Int) (h : (op = 14 ∧ b = .and) ∨ (op = 15 ∧ b = .or) ∨ (op = 16 ∧ b = .xor)) : bits b .i64 x y = joinV (joinN op x y) 64 := by
  have hN : bits b .i64 x y = IntKind.i64.wrap ((joinN op x y : Nat) : Int) := by
    rcases h with ⟨rfl, rfl⟩ | ⟨rfl, rfl⟩ | ⟨rfl, rfl⟩
    · show IntKind.i64.wrap ((BitVec.ofInt 64 x &&& BitVec.ofInt 64 y).toNat : Int) = _
      rw [BitVec.toNat_and, ofInt_un, ofInt_un]; rfl
    · show IntKind.i64.wrap ((BitVec.ofInt 64 x ||| BitVec.ofInt 64 y).toNat : Int) = _
      rw [BitVec.toNat_or, ofInt_un, ofInt_un]; rfl
    · show IntKind.i64.wrap ((BitVec.ofInt 64 x ^^^ BitVec.ofInt 64 y).toNat : Int) = _
      rw [BitVec.toNat_xor, ofInt_un, ofInt_un]; rfl
  rw [hN, IntKind.wrap_i64]
  have hl := joinN_lt op x y
  generalize joinN op x y = N at *
  have ht : N.testBit 63 = decide (N / 9223372036854775808 % 2 = 1) := Nat.testBit_eq_decide_div_mod_eq
  unfold joinV
  rw [if_neg (by omega), ht]
  have e : (2 : Nat) ^ 63 = 9223372036854775808 := by decide
  rw [e]
  by_cases h1 : N / 9223372036854775808 % 2 = 1
  · simp [h1]; omega
  · simp [h1]; omega

set_option maxHeartbeats 4000000 in
theorem bitwise14 (x y : Int) (w : World) (hx : I64 x) (hy : I64 y) : Calls Tryz.prog 182 #[.int .i64 14, .int .i64 x, .int .i64 y] w fun e w' => e = .returned (.int .i64 (joinV (joinN 14 x y) 64)) ∧ w' = w := by
  have JB := hid (joinN_bit 14 x y)
  obtain ⟨N, hN⟩ : ∃ N, N = joinN 14 x y := ⟨_, rfl⟩
  rw [← hN] at JB ⊢
  have CX0 : Hid (∀ (k : Nat), k ≤ 63 → ∀ (k0 : Int), k0 = k → ∀ w, Calls Tryz.prog 190 #[.int .i64 x, .int .i64 k0] w fun e w' => e = .returned (.bool ((un x).testBit k)) ∧ w' = w) := fun k hk k0 h w => by subst h; exact bitOf_any x k w hx hk
  have CY0 : Hid (∀ (k : Nat), k ≤ 63 → ∀ (k0 : Int), k0 = k → ∀ w, Calls Tryz.prog 190 #[.int .i64 y, .int .i64 k0] w fun e w' => e = .returned (.bool ((un y).testBit k)) ∧ w' = w) := fun k hk k0 h w => by subst h; exact bitOf_any y k w hy hk
  have P6 : Hid (∀ w, Calls Tryz.prog 126 #[.int .i64 62] w fun e w' => e = .returned (.int .i64 4611686018427387904) ∧ w' = w) := fun w => l1Pow_any 62 w (by omega)
  clear hx hy hN
  go_enter Tryz.func182, Tryz.ntmps182
  go_wp2
  go_loop [7, 8] (fun v i => ∃ k : Nat, k ≤ 64 ∧ i = .int .i64 k ∧ v = .int .i64 (joinV N k)) (fun _ i => 64 - (intOf i).toNat)
  case atStart => exact ⟨0, Nat.zero_le _, rfl, by simp [joinV, Nat.mod_one]⟩
  case round =>
    obtain ⟨k, hk, rfl, rfl⟩ := hrel
    by_cases hlt : k < 63
    · have hp := pow_facts k (by omega)
      have PK : Hid (∀ (k0 : Int) w, k0 = k → Calls Tryz.prog 126 #[.int .i64 k0] w fun e w' => e = .returned (.int .i64 ((2 : Int) ^ k)) ∧ w' = w) := fun k0 w h => by subst h; exact l1Pow_any k w (by omega)
      have CX := hid (fun k0 w h => CX0.out k (by omega) k0 h w)
      have CY := hid (fun k0 w h => CY0.out k (by omega) k0 h w)
      have hJ := JB.out k
      have hS : joinV N (k + 1) = joinV N k + (if N.testBit k then (2 : Int) ^ k else 0) := by
        unfold joinV
        rw [if_pos (by omega), if_pos (by omega), mod_succ]
        by_cases hb : N.testBit k = true
        · simp [hb]
        · simp [hb]
      have hv : 0 ≤ joinV N k ∧ joinV N k < 2 ^ k := by
        unfold joinV
        rw [if_pos (by omega)]
        have h2 := Nat.mod_lt N (y := 2 ^ k) (Nat.pow_pos (by omega))
        refine ⟨by omega, ?_⟩
        have e : ((2 ^ k : Nat) : Int) = (2 : Int) ^ k := by simp
        rw [← e]; omega
      obtain ⟨P, hP⟩ : ∃ P, P = (2 : Int) ^ k := ⟨_, rfl⟩
      obtain ⟨v, hvv⟩ : ∃ v, v = joinV N k := ⟨_, rfl⟩
      obtain ⟨bx, hbx⟩ : ∃ b, b = (un x).testBit k := ⟨_, rfl⟩
      obtain ⟨by_, hby⟩ : ∃ b, b = (un y).testBit k := ⟨_, rfl⟩
      rw [← hP] at hp PK hS hv
      rw [← hvv] at hS hv ⊢
      rw [← hbx] at CX hJ
      rw [← hby] at CY hJ
      rw [hJ] at hS
      have HS := hid hS
      obtain ⟨hp1, hp2⟩ := hp
      obtain ⟨hv1, hv2⟩ := hv
      clear hP hvv hbx hby hJ hS
      cases bx <;> cases by_
      all_goals
        go_wp2_with (first | (go_at_call_of 190 (Value.int .i64 x); refine (CX.out _ _ rfl).mono ?_; rintro e w1 ⟨rfl, hw⟩; obtain rfl := hw.symm) | (go_at_call_of 190 (Value.int .i64 y); refine (CY.out _ _ rfl).mono ?_; rintro e w1 ⟨rfl, hw⟩; obtain rfl := hw.symm) | (go_at_call_of 126 (Value.int .i64 (62 : Int)); refine (P6.out _).mono ?_; rintro e w1 ⟨rfl, hw⟩; obtain rfl := hw.symm) | (go_at_call 126; refine (PK.out _ _ rfl).mono ?_; rintro e w1 ⟨rfl, hw⟩; obtain rfl := hw.symm))
        go_round
        case rel => exact ⟨k + 1, by omega, by go_num, by rw [HS.out]; simp [joinB]⟩
        case measure => simp [intOf]; omega
    · by_cases h63 : k = 63
      · subst h63
        have CX := hid (fun k0 w h => CX0.out 63 (by omega) k0 h w)
        have CY := hid (fun k0 w h => CY0.out 63 (by omega) k0 h w)
        have PK : Hid (∀ (k0 : Int) (w : World), k0 = (63 : Nat) → Calls Tryz.prog 126 #[.int .i64 0] w fun e w' => e = .returned (.int .i64 1) ∧ w' = w) := fun k0 w h => l1Pow_any 0 w (by omega)
        have hJ := JB.out 63
        have hS : joinV N 64 = joinV N 63 - (if N.testBit 63 then 9223372036854775808 else 0) := by
          simp only [joinV]
          rw [if_neg (show ¬ 64 ≤ 63 by omega), if_pos (show 63 ≤ 63 by omega)]
        have hv : 0 ≤ joinV N 63 ∧ joinV N 63 < 9223372036854775808 := by
          unfold joinV
          rw [if_pos (by omega)]
          have h2 := Nat.mod_lt N (y := 2 ^ 63) (Nat.pow_pos (by omega))
          have e : (2 : Nat) ^ 63 = 9223372036854775808 := by decide
          omega
        obtain ⟨v, hvv⟩ : ∃ v, v = joinV N 63 := ⟨_, rfl⟩
        obtain ⟨bx, hbx⟩ : ∃ b, b = (un x).testBit 63 := ⟨_, rfl⟩
        obtain ⟨by_, hby⟩ : ∃ b, b = (un y).testBit 63 := ⟨_, rfl⟩
        rw [← hvv] at hS hv ⊢
        rw [← hbx] at CX hJ
        rw [← hby] at CY hJ
        rw [hJ] at hS
        have HS := hid hS
        obtain ⟨hv1, hv2⟩ := hv
        clear hvv hbx hby hJ hS
        cases bx <;> cases by_
        all_goals
          go_wp2_with (first | (go_at_call_of 190 (Value.int .i64 x); refine (CX.out _ _ rfl).mono ?_; rintro e w1 ⟨rfl, hw⟩; obtain rfl := hw.symm) | (go_at_call_of 190 (Value.int .i64 y); refine (CY.out _ _ rfl).mono ?_; rintro e w1 ⟨rfl, hw⟩; obtain rfl := hw.symm) | (go_at_call_of 126 (Value.int .i64 (62 : Int)); refine (P6.out _).mono ?_; rintro e w1 ⟨rfl, hw⟩; obtain rfl := hw.symm) | (go_at_call 126; refine (PK.out _ _ rfl).mono ?_; rintro e w1 ⟨rfl, hw⟩; obtain rfl := hw.symm))
          go_round
          case rel => exact ⟨64, by omega, by go_num, by rw [HS.out]; simp [joinB] <;> omega⟩
          case measure => simp [intOf]
      · have e : k = 64 := by omega
        subst e
        go_wp2
        go_ret
        exact ⟨rfl, rfl⟩

set_option maxHeartbeats 4000000 in
theorem bitwise15 (x y : Int) (w : World) (hx : I64 x) (hy : I64 y) : Calls Tryz.prog 182 #[.int .i64 15, .int .i64 x, .int .i64 y] w fun e w' => e = .returned (.int .i64 (joinV (joinN 15 x y) 64)) ∧ w' = w := by
  have JB := hid (joinN_bit 15 x y)
  obtain ⟨N, hN⟩ : ∃ N, N = joinN 15 x y := ⟨_, rfl⟩
  rw [← hN] at JB ⊢
  have CX0 : Hid (∀ (k : Nat), k ≤ 63 → ∀ (k0 : Int), k0 = k → ∀ w, Calls Tryz.prog 190 #[.int .i64 x, .int .i64 k0] w fun e w' => e = .returned (.bool ((un x).testBit k)) ∧ w' = w) := fun k hk k0 h w => by subst h; exact bitOf_any x k w hx hk
  have CY0 : Hid (∀ (k : Nat), k ≤ 63 → ∀ (k0 : Int), k0 = k → ∀ w, Calls Tryz.prog 190 #[.int .i64 y, .int .i64 k0] w fun e w' => e = .returned (.bool ((un y).testBit k)) ∧ w' = w) := fun k hk k0 h w => by subst h; exact bitOf_any y k w hy hk
  have P6 : Hid (∀ w, Calls Tryz.prog 126 #[.int .i64 62] w fun e w' => e = .returned (.int .i64 4611686018427387904) ∧ w' = w) := fun w => l1Pow_any 62 w (by omega)
  clear hx hy hN
  go_enter Tryz.func182, Tryz.ntmps182
  go_wp2
  go_loop [7, 8] (fun v i => ∃ k : Nat, k ≤ 64 ∧ i = .int .i64 k ∧ v = .int .i64 (joinV N k)) (fun _ i => 64 - (intOf i).toNat)
  case atStart => exact ⟨0, Nat.zero_le _, rfl, by simp [joinV, Nat.mod_one]⟩
  case round =>
    obtain ⟨k, hk, rfl, rfl⟩ := hrel
    by_cases hlt : k < 63
    · have hp := pow_facts k (by omega)
      have PK : Hid (∀ (k0 : Int) w, k0 = k → Calls Tryz.prog 126 #[.int .i64 k0] w fun e w' => e = .returned (.int .i64 ((2 : Int) ^ k)) ∧ w' = w) := fun k0 w h => by subst h; exact l1Pow_any k w (by omega)
      have CX := hid (fun k0 w h => CX0.out k (by omega) k0 h w)
      have CY := hid (fun k0 w h => CY0.out k (by omega) k0 h w)
      have hJ := JB.out k
      have hS : joinV N (k + 1) = joinV N k + (if N.testBit k then (2 : Int) ^ k else 0) := by
        unfold joinV
        rw [if_pos (by omega), if_pos (by omega), mod_succ]
        by_cases hb : N.testBit k = true
        · simp [hb]
        · simp [hb]
      have hv : 0 ≤ joinV N k ∧ joinV N k < 2 ^ k := by
        unfold joinV
        rw [if_pos (by omega)]
        have h2 := Nat.mod_lt N (y := 2 ^ k) (Nat.pow_pos (by omega))
        refine ⟨by omega, ?_⟩
        have e : ((2 ^ k : Nat) : Int) = (2 : Int) ^ k := by simp
        rw [← e]; omega
      obtain ⟨P, hP⟩ : ∃ P, P = (2 : Int) ^ k := ⟨_, rfl⟩
      obtain ⟨v, hvv⟩ : ∃ v, v = joinV N k := ⟨_, rfl⟩
      obtain ⟨bx, hbx⟩ : ∃ b, b = (un x).testBit k := ⟨_, rfl⟩
      obtain ⟨by_, hby⟩ : ∃ b, b = (un y).testBit k := ⟨_, rfl⟩
      rw [← hP] at hp PK hS hv
      rw [← hvv] at hS hv ⊢
      rw [← hbx] at CX hJ
      rw [← hby] at CY hJ
      rw [hJ] at hS
      have HS := hid hS
      obtain ⟨hp1, hp2⟩ := hp
      obtain ⟨hv1, hv2⟩ := hv
      clear hP hvv hbx hby hJ hS
      cases bx <;> cases by_
      all_goals
        go_wp2_with (first | (go_at_call_of 190 (Value.int .i64 x); refine (CX.out _ _ rfl).mono ?_; rintro e w1 ⟨rfl, hw⟩; obtain rfl := hw.symm) | (go_at_call_of 190 (Value.int .i64 y); refine (CY.out _ _ rfl).mono ?_; rintro e w1 ⟨rfl, hw⟩; obtain rfl := hw.symm) | (go_at_call_of 126 (Value.int .i64 (62 : Int)); refine (P6.out _).mono ?_; rintro e w1 ⟨rfl, hw⟩; obtain rfl := hw.symm) | (go_at_call 126; refine (PK.out _ _ rfl).mono ?_; rintro e w1 ⟨rfl, hw⟩; obtain rfl := hw.symm))
        go_round
        case rel => exact ⟨k + 1, by omega, by go_num, by rw [HS.out]; simp [joinB]⟩
        case measure => simp [intOf]; omega
    · by_cases h63 : k = 63
      · subst h63
        have CX := hid (fun k0 w h => CX0.out 63 (by omega) k0 h w)
        have CY := hid (fun k0 w h => CY0.out 63 (by omega) k0 h w)
        have PK : Hid (∀ (k0 : Int) (w : World), k0 = (63 : Nat) → Calls Tryz.prog 126 #[.int .i64 0] w fun e w' => e = .returned (.int .i64 1) ∧ w' = w) := fun k0 w h => l1Pow_any 0 w (by omega)
        have hJ := JB.out 63
        have hS : joinV N 64 = joinV N 63 - (if N.testBit 63 then 9223372036854775808 else 0) := by
          simp only [joinV]
          rw [if_neg (show ¬ 64 ≤ 63 by omega), if_pos (show 63 ≤ 63 by omega)]
        have hv : 0 ≤ joinV N 63 ∧ joinV N 63 < 9223372036854775808 := by
          unfold joinV
          rw [if_pos (by omega)]
          have h2 := Nat.mod_lt N (y := 2 ^ 63) (Nat.pow_pos (by omega))
          have e : (2 : Nat) ^ 63 = 9223372036854775808 := by decide
          omega
        obtain ⟨v, hvv⟩ : ∃ v, v = joinV N 63 := ⟨_, rfl⟩
        obtain ⟨bx, hbx⟩ : ∃ b, b = (un x).testBit 63 := ⟨_, rfl⟩
        obtain ⟨by_, hby⟩ : ∃ b, b = (un y).testBit 63 := ⟨_, rfl⟩
        rw [← hvv] at hS hv ⊢
        rw [← hbx] at CX hJ
        rw [← hby] at CY hJ
        rw [hJ] at hS
        have HS := hid hS
        obtain ⟨hv1, hv2⟩ := hv
        clear hvv hbx hby hJ hS
        cases bx <;> cases by_
        all_goals
          go_wp2_with (first | (go_at_call_of 190 (Value.int .i64 x); refine (CX.out _ _ rfl).mono ?_; rintro e w1 ⟨rfl, hw⟩; obtain rfl := hw.symm) | (go_at_call_of 190 (Value.int .i64 y); refine (CY.out _ _ rfl).mono ?_; rintro e w1 ⟨rfl, hw⟩; obtain rfl := hw.symm) | (go_at_call_of 126 (Value.int .i64 (62 : Int)); refine (P6.out _).mono ?_; rintro e w1 ⟨rfl, hw⟩; obtain rfl := hw.symm) | (go_at_call 126; refine (PK.out _ _ rfl).mono ?_; rintro e w1 ⟨rfl, hw⟩; obtain rfl := hw.symm))
          go_round
          case rel => exact ⟨64, by omega, by go_num, by rw [HS.out]; simp [joinB] <;> omega⟩
          case measure => simp [intOf]
      · have e : k = 64 := by omega
        subst e
        go_wp2
        go_ret
        exact ⟨rfl, rfl⟩

set_option maxHeartbeats 4000000 in
theorem bitwise16 (x y : Int) (w : World) (hx : I64 x) (hy : I64 y) : Calls Tryz.prog 182 #[.int .i64 16, .int .i64 x, .int .i64 y] w fun e w' => e = .returned (.int .i64 (joinV (joinN 16 x y) 64)) ∧ w' = w := by
  have JB := hid (joinN_bit 16 x y)
  obtain ⟨N, hN⟩ : ∃ N, N = joinN 16 x y := ⟨_, rfl⟩
  rw [← hN] at JB ⊢
  have CX0 : Hid (∀ (k : Nat), k ≤ 63 → ∀ (k0 : Int), k0 = k → ∀ w, Calls Tryz.prog 190 #[.int .i64 x, .int .i64 k0] w fun e w' => e = .returned (.bool ((un x).testBit k)) ∧ w' = w) := fun k hk k0 h w => by subst h; exact bitOf_any x k w hx hk
  have CY0 : Hid (∀ (k : Nat), k ≤ 63 → ∀ (k0 : Int), k0 = k → ∀ w, Calls Tryz.prog 190 #[.int .i64 y, .int .i64 k0] w fun e w' => e = .returned (.bool ((un y).testBit k)) ∧ w' = w) := fun k hk k0 h w => by subst h; exact bitOf_any y k w hy hk
  have P6 : Hid (∀ w, Calls Tryz.prog 126 #[.int .i64 62] w fun e w' => e = .returned (.int .i64 4611686018427387904) ∧ w' = w) := fun w => l1Pow_any 62 w (by omega)
  clear hx hy hN
  go_enter Tryz.func182, Tryz.ntmps182
  go_wp2
  go_loop [7, 8] (fun v i => ∃ k : Nat, k ≤ 64 ∧ i = .int .i64 k ∧ v = .int .i64 (joinV N k)) (fun _ i => 64 - (intOf i).toNat)
  case atStart => exact ⟨0, Nat.zero_le _, rfl, by simp [joinV, Nat.mod_one]⟩
  case round =>
    obtain ⟨k, hk, rfl, rfl⟩ := hrel
    by_cases hlt : k < 63
    · have hp := pow_facts k (by omega)
      have PK : Hid (∀ (k0 : Int) w, k0 = k → Calls Tryz.prog 126 #[.int .i64 k0] w fun e w' => e = .returned (.int .i64 ((2 : Int) ^ k)) ∧ w' = w) := fun k0 w h => by subst h; exact l1Pow_any k w (by omega)
      have CX := hid (fun k0 w h => CX0.out k (by omega) k0 h w)
      have CY := hid (fun k0 w h => CY0.out k (by omega) k0 h w)
      have hJ := JB.out k
      have hS : joinV N (k + 1) = joinV N k + (if N.testBit k then (2 : Int) ^ k else 0) := by
        unfold joinV
        rw [if_pos (by omega), if_pos (by omega), mod_succ]
        by_cases hb : N.testBit k = true
        · simp [hb]
        · simp [hb]
      have hv : 0 ≤ joinV N k ∧ joinV N k < 2 ^ k := by
        unfold joinV
        rw [if_pos (by omega)]
        have h2 := Nat.mod_lt N (y := 2 ^ k) (Nat.pow_pos (by omega))
        refine ⟨by omega, ?_⟩
        have e : ((2 ^ k : Nat) : Int) = (2 : Int) ^ k := by simp
        rw [← e]; omega
      obtain ⟨P, hP⟩ : ∃ P, P = (2 : Int) ^ k := ⟨_, rfl⟩
      obtain ⟨v, hvv⟩ : ∃ v, v = joinV N k := ⟨_, rfl⟩
      obtain ⟨bx, hbx⟩ : ∃ b, b = (un x).testBit k := ⟨_, rfl⟩
      obtain ⟨by_, hby⟩ : ∃ b, b = (un y).testBit k := ⟨_, rfl⟩
      rw [← hP] at hp PK hS hv
      rw [← hvv] at hS hv ⊢
      rw [← hbx] at CX hJ
      rw [← hby] at CY hJ
      rw [hJ] at hS
      have HS := hid hS
      obtain ⟨hp1, hp2⟩ := hp
      obtain ⟨hv1, hv2⟩ := hv
      clear hP hvv hbx hby hJ hS
      cases bx <;> cases by_
      all_goals
        go_wp2_with (first | (go_at_call_of 190 (Value.int .i64 x); refine (CX.out _ _ rfl).mono ?_; rintro e w1 ⟨rfl, hw⟩; obtain rfl := hw.symm) | (go_at_call_of 190 (Value.int .i64 y); refine (CY.out _ _ rfl).mono ?_; rintro e w1 ⟨rfl, hw⟩; obtain rfl := hw.symm) | (go_at_call_of 126 (Value.int .i64 (62 : Int)); refine (P6.out _).mono ?_; rintro e w1 ⟨rfl, hw⟩; obtain rfl := hw.symm) | (go_at_call 126; refine (PK.out _ _ rfl).mono ?_; rintro e w1 ⟨rfl, hw⟩; obtain rfl := hw.symm))
        go_round
        case rel => exact ⟨k + 1, by omega, by go_num, by rw [HS.out]; simp [joinB]⟩
        case measure => simp [intOf]; omega
    · by_cases h63 : k = 63
      · subst h63
        have CX := hid (fun k0 w h => CX0.out 63 (by omega) k0 h w)
        have CY := hid (fun k0 w h => CY0.out 63 (by omega) k0 h w)
        have PK : Hid (∀ (k0 : Int) (w : World), k0 = (63 : Nat) → Calls Tryz.prog 126 #[.int .i64 0] w fun e w' => e = .returned (.int .i64 1) ∧ w' = w) := fun k0 w h => l1Pow_any 0 w (by omega)
        have hJ := JB.out 63
        have hS : joinV N 64 = joinV N 63 - (if N.testBit 63 then 9223372036854775808 else 0) := by
          simp only [joinV]
          rw [if_neg (show ¬ 64 ≤ 63 by omega), if_pos (show 63 ≤ 63 by omega)]
        have hv : 0 ≤ joinV N 63 ∧ joinV N 63 < 9223372036854775808 := by
          unfold joinV
          rw [if_pos (by omega)]
          have h2 := Nat.mod_lt N (y := 2 ^ 63) (Nat.pow_pos (by omega))
          have e : (2 : Nat) ^ 63 = 9223372036854775808 := by decide
          omega
        obtain ⟨v, hvv⟩ : ∃ v, v = joinV N 63 := ⟨_, rfl⟩
        obtain ⟨bx, hbx⟩ : ∃ b, b = (un x).testBit 63 := ⟨_, rfl⟩
        obtain ⟨by_, hby⟩ : ∃ b, b = (un y).testBit 63 := ⟨_, rfl⟩
        rw [← hvv] at hS hv ⊢
        rw [← hbx] at CX hJ
        rw [← hby] at CY hJ
        rw [hJ] at hS
        have HS := hid hS
        obtain ⟨hv1, hv2⟩ := hv
        clear hvv hbx hby hJ hS
        cases bx <;> cases by_
        all_goals
          go_wp2_with (first | (go_at_call_of 190 (Value.int .i64 x); refine (CX.out _ _ rfl).mono ?_; rintro e w1 ⟨rfl, hw⟩; obtain rfl := hw.symm) | (go_at_call_of 190 (Value.int .i64 y); refine (CY.out _ _ rfl).mono ?_; rintro e w1 ⟨rfl, hw⟩; obtain rfl := hw.symm) | (go_at_call_of 126 (Value.int .i64 (62 : Int)); refine (P6.out _).mono ?_; rintro e w1 ⟨rfl, hw⟩; obtain rfl := hw.symm) | (go_at_call 126; refine (PK.out _ _ rfl).mono ?_; rintro e w1 ⟨rfl, hw⟩; obtain rfl := hw.symm))
          go_round
          case rel => exact ⟨64, by omega, by go_num, by rw [HS.out]; simp [joinB] <;> omega⟩
          case measure => simp [intOf]
      · have e : k = 64 := by omega
        subst e
        go_wp2
        go_ret
        exact ⟨rfl, rfl⟩

end Go.Proofs.YtiimkhepplkocaaGreat
