import Derived.Test.YtdpejnacganadaaProg
import Derived.WalkKit
import Derived.WalkSpells
import Derived.WalkLawsBesides
import Derived.Deep.OwnRows
import Derived.Deep.QuietTactic
import Derived.BigQuiet
import Derived.Lib.QuietBelow
import Derived.Laws.EntriesVeiled
namespace Go.Proofs.Ytdpejnacganadaa
open Go.RowKit

theorem ret_int {k : IntKind} {a b : Int} (h : a = b) : Ending.returned (.int k a) = .returned (.int k b) := by rw [h]
theorem ret_bool {a b : Bool} (h : a = b) : Ending.returned (.bool a) = .returned (.bool b) := by rw [h]

/-- A number taken to its kind. -/
def conv (k v : Int) : Int :=
  if k = 1 then (v + 128) % 256 - 128 else if k = 2 then (v + 32768) % 65536 - 32768 else if k = 3 then (v + 2147483648) % 4294967296 - 2147483648
  else if k = 4 then v else if k = 5 then v % 256 else if k = 6 then v % 65536 else if k = 7 then v % 4294967296 else 0
/-- The function that takes a number to the kind. -/
def cfn (k : Int) : Nat := 65 + k.toNat

theorem wrap_i8 (v : Int) : IntKind.i8.wrap v = (v + 128) % 256 - 128 := by
  simp [IntKind.wrap, IntKind.bits, IntKind.signed]; omega
theorem wrap_i16 (v : Int) : IntKind.i16.wrap v = (v + 32768) % 65536 - 32768 := by
  simp [IntKind.wrap, IntKind.bits, IntKind.signed]; omega

theorem wrap_u16 (v : Int) : IntKind.u16.wrap v = v % 65536 := by
  simp [IntKind.wrap, IntKind.bits, IntKind.signed]

set_option maxHeartbeats 400000 in
theorem to_any (k v : Int) (w : World) (h1 : 1 ≤ k) (h7 : k ≤ 7) : Calls Try.prog (cfn k) #[.int .i64 v] w fun e w' => e = .returned (.int .i64 (conv k v)) ∧ w' = w := by
  have hk : k = 1 ∨ k = 2 ∨ k = 3 ∨ k = 4 ∨ k = 5 ∨ k = 6 ∨ k = 7 := by omega
  rcases hk with rfl | rfl | rfl | rfl | rfl | rfl | rfl
  · show Calls Try.prog 66 _ _ _
    go_enter Try.func66, Try.ntmps66
    go_wp2
    go_ret
    exact ⟨ret_int (by rw [wrap_i8]; simp only [wrap64, conv]; simp; omega), rfl⟩
  · show Calls Try.prog 67 _ _ _
    go_enter Try.func67, Try.ntmps67
    go_wp2
    go_ret
    exact ⟨ret_int (by rw [wrap_i16]; simp only [wrap64, conv]; simp; omega), rfl⟩
  · show Calls Try.prog 68 _ _ _
    go_enter Try.func68, Try.ntmps68
    go_wp2
    go_ret
    exact ⟨ret_int (by simp only [wrap32, wrap64, conv]; simp; omega), rfl⟩
  · show Calls Try.prog 69 _ _ _
    go_enter Try.func69, Try.ntmps69
    go_wp2
    go_ret
    exact ⟨ret_int (by simp [conv]), rfl⟩
  · show Calls Try.prog 70 _ _ _
    go_enter Try.func70, Try.ntmps70
    go_wp2
    go_ret
    exact ⟨ret_int (by simp [conv]), rfl⟩
  · show Calls Try.prog 71 _ _ _
    go_enter Try.func71, Try.ntmps71
    go_wp2
    go_ret
    exact ⟨ret_int (by rw [wrap_u16]; simp only [wrap64, conv]; simp; omega), rfl⟩
  · show Calls Try.prog 72 _ _ _
    go_enter Try.func72, Try.ntmps72
    go_wp2
    go_ret
    exact ⟨ret_int (by simp [conv]), rfl⟩

/-- Is it a kind? -/
def kOk (k : Int) : Bool := decide (1 ≤ k ∧ k ≤ 7)

set_option maxHeartbeats 400000 in
theorem kindOK_any (k : Int) (w : World) : Calls Try.prog 53 #[.int .i64 k] w fun e w' => e = .returned (.bool (kOk k)) ∧ w' = w := by
  by_cases h1 : 1 ≤ k <;> by_cases h7 : k ≤ 7
  all_goals
    go_enter Try.func53, Try.ntmps53
    go_wp2
    go_ret
    exact ⟨ret_bool (by simp [kOk]; omega), rfl⟩

set_option maxHeartbeats 400000 in
theorem converterOf_any (k : Int) (w : World) (h1 : 1 ≤ k) (h7 : k ≤ 7) : Calls Try.prog 54 #[.int .i64 k] w fun e w' => e = .returned (.func (.func (cfn k)) #[] #[]) ∧ Below w.heap.size w w' := by
  have hk : k = 1 ∨ k = 2 ∨ k = 3 ∨ k = 4 ∨ k = 5 ∨ k = 6 ∨ k = 7 := by omega
  rcases hk with rfl | rfl | rfl | rfl | rfl | rfl | rfl
  all_goals
    go_enter Try.func54, Try.ntmps54
    go_wp2
    go_ret
    exact ⟨rfl, (Below.refl _ _).alloc (Nat.le_refl _) _⟩

set_option maxHeartbeats 400000 in
theorem l1Pow_any (n : Nat) (w : World) (hn : n ≤ 62) : Calls Try.prog 65 #[.int .i64 n] w fun e w' => e = .returned (.int .i64 ((2 : Int) ^ n)) ∧ w' = w := by
  go_enter Try.func65, Try.ntmps65
  go_wp2
  go_loop [3, 4] (fun p i => ∃ k : Nat, k ≤ n ∧ i = .int .i64 k ∧ p = .int .i64 ((2 : Int) ^ k)) (fun _ i => n - (intOf i).toNat)
  case atStart => exact ⟨0, Nat.zero_le _, rfl, rfl⟩
  case round =>
    obtain ⟨k, hk, rfl, rfl⟩ := hrel
    by_cases hlt : k < n
    · have hp : (2 : Int) ^ k ≤ 2 ^ 61 := by exact_mod_cast Nat.pow_le_pow_right (n := 2) (by omega) (show k ≤ 61 by omega)
      have hp0 : (0 : Int) < 2 ^ k := Int.pow_pos (by omega)
      have hs : Hid ((2 : Int) ^ (k + 1) = 2 ^ k * 2) := Int.pow_succ 2 k
      generalize hP : (2 : Int) ^ k = P at hp hp0 hs ⊢
      have HP : Hid ((2 : Int) ^ k = P) := hP
      clear hP
      simp at hp
      go_wp2
      go_round
      case rel => exact ⟨k + 1, by omega, by go_num, by rw [hs.out]⟩
      case measure => simp [intOf]; omega
    · have e : k = n := by omega
      subst e
      go_wp2
      go_ret
      exact ⟨rfl, rfl⟩

theorem tmod_256 (v : Int) : v.tmod 256 = if 0 ≤ v then v % 256 else -((-v) % 256) := by
  split
  · rw [Int.tmod_eq_emod_of_nonneg (by omega)]
  · rw [show v = -(-v) by omega, Int.neg_tmod, Int.tmod_eq_emod_of_nonneg (by omega)]; omega
theorem tmod_65536 (v : Int) : v.tmod 65536 = if 0 ≤ v then v % 65536 else -((-v) % 65536) := by
  split
  · rw [Int.tmod_eq_emod_of_nonneg (by omega)]
  · rw [show v = -(-v) by omega, Int.neg_tmod, Int.tmod_eq_emod_of_nonneg (by omega)]; omega
theorem tmod_32 (v : Int) : v.tmod 4294967296 = if 0 ≤ v then v % 4294967296 else -((-v) % 4294967296) := by
  split
  · rw [Int.tmod_eq_emod_of_nonneg (by omega)]
  · rw [show v = -(-v) by omega, Int.neg_tmod, Int.tmod_eq_emod_of_nonneg (by omega)]; omega

set_option maxHeartbeats 800000 in
theorem l1Conv_any (k v : Int) (w : World) (h1 : 1 ≤ k) (h7 : k ≤ 7) : Calls Try.prog 51 #[.int .i64 k, .int .i64 v] w fun e w' => e = .returned (.int .i64 (conv k v)) ∧ Below w.heap.size w w' := by
  have hk : k = 1 ∨ k = 2 ∨ k = 3 ∨ k = 4 ∨ k = 5 ∨ k = 6 ∨ k = 7 := by omega
  rcases hk with rfl | rfl | rfl | rfl | rfl | rfl | rfl
  · go_enter Try.func51, Try.ntmps51
    go_wp2_with (go_at_call 65; refine (l1Pow_any 8 _ (by omega)).mono ?_; rintro e w' ⟨rfl, rfl⟩)
    all_goals
      go_ret
      exact ⟨ret_int (by have e := tmod_256 v; generalize v.tmod 256 = r at *; (try simp only [wrap64] at *); simp [conv]; split at e <;> omega), (Below.refl _ _).alloc (Nat.le_refl _) _⟩
  · go_enter Try.func51, Try.ntmps51
    go_wp2_with (go_at_call 65; refine (l1Pow_any 16 _ (by omega)).mono ?_; rintro e w' ⟨rfl, rfl⟩)
    all_goals
      go_ret
      exact ⟨ret_int (by have e := tmod_65536 v; generalize v.tmod 65536 = r at *; (try simp only [wrap64] at *); simp [conv]; split at e <;> omega), (Below.refl _ _).alloc (Nat.le_refl _) _⟩
  · go_enter Try.func51, Try.ntmps51
    go_wp2_with (go_at_call 65; refine (l1Pow_any 32 _ (by omega)).mono ?_; rintro e w' ⟨rfl, rfl⟩)
    all_goals
      go_ret
      exact ⟨ret_int (by have e := tmod_32 v; generalize v.tmod 4294967296 = r at *; (try simp only [wrap64] at *); simp [conv]; split at e <;> omega), (Below.refl _ _).alloc (Nat.le_refl _) _⟩
  · go_enter Try.func51, Try.ntmps51
    go_wp2_with fail
    go_ret
    exact ⟨ret_int (by simp [conv]), Below.refl _ _⟩
  · go_enter Try.func51, Try.ntmps51
    go_wp2_with (go_at_call 65; refine (l1Pow_any 8 _ (by omega)).mono ?_; rintro e w' ⟨rfl, rfl⟩)
    all_goals
      go_ret
      exact ⟨ret_int (by have e := tmod_256 v; generalize v.tmod 256 = r at *; (try simp only [wrap64] at *); simp [conv]; split at e <;> omega), (Below.refl _ _).alloc (Nat.le_refl _) _⟩
  · go_enter Try.func51, Try.ntmps51
    go_wp2_with (go_at_call 65; refine (l1Pow_any 16 _ (by omega)).mono ?_; rintro e w' ⟨rfl, rfl⟩)
    all_goals
      go_ret
      exact ⟨ret_int (by have e := tmod_65536 v; generalize v.tmod 65536 = r at *; (try simp only [wrap64] at *); simp [conv]; split at e <;> omega), (Below.refl _ _).alloc (Nat.le_refl _) _⟩
  · go_enter Try.func51, Try.ntmps51
    go_wp2_with (go_at_call 65; refine (l1Pow_any 32 _ (by omega)).mono ?_; rintro e w' ⟨rfl, rfl⟩)
    all_goals
      go_ret
      exact ⟨ret_int (by have e := tmod_32 v; generalize v.tmod 4294967296 = r at *; (try simp only [wrap64] at *); simp [conv]; split at e <;> omega), (Below.refl _ _).alloc (Nat.le_refl _) _⟩

def betB (x lo hi : Int) : Bool := decide (lo ≤ x ∧ x ≤ hi)

set_option maxHeartbeats 400000 in
theorem l1Between_any (x lo hi : Int) (w : World) : Calls Try.prog 37 #[.int .i64 x, .int .i64 lo, .int .i64 hi] w fun e w' => e = .returned (.bool (betB x lo hi)) ∧ w' = w := by
  by_cases h1 : lo ≤ x <;> by_cases h7 : x ≤ hi
  all_goals
    go_enter Try.func37, Try.ntmps37
    go_wp2
    go_ret
    exact ⟨ret_bool (by simp [betB]; omega), rfl⟩

end Go.Proofs.Ytdpejnacganadaa
