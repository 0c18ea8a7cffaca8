import Derived.Test.YtcdcjpejlhcdnaaDoorPs1
namespace Go.Proofs.YtcdcjpejlhcdnaaDoor
open Go.RowKit Go.Sort
set_option linter.unusedVariables false

/-- A number that is read digit by digit, as an int reckons. -/
def stepW (neg : Bool) (n : Int) (c : UInt8) : Int := if neg then wrap64 (wrap64 (n * 10) - ((c.toNat : Int) - 48)) else wrap64 (wrap64 (n * 10) + ((c.toNat : Int) - 48))
theorem w64_id {x : Int} (h0 : -9223372036854775808 ≤ x) (h1 : x ≤ 9223372036854775807) : wrap64 x = x := IntWalk.wrap64_in x ⟨h0, h1⟩
theorem digit_nat : ∀ d : Fin 10, (UInt8.ofNat (48 + d.val)).toNat = 48 + d.val := by decide
theorem digit_val (d : Nat) (h : d < 10) : (((UInt8.ofNat (48 + d)).toNat : Nat) : Int) - 48 = d := by
  rw [digit_nat ⟨d, h⟩]; simp only []; omega
theorem stepP_is {n d : Nat} (h : n * 10 + d ≤ 9223372036854775807) (hd : d < 10) : stepW false (n : Int) (UInt8.ofNat (48 + d)) = ((n * 10 + d : Nat) : Int) := by
  unfold stepW
  rw [if_neg (by decide), digit_val d hd, w64_id (x := (n : Int) * 10) (by omega) (by omega), w64_id (by omega) (by omega)]
  push_cast
  rfl
theorem stepN_is {n d : Nat} (h : n * 10 + d ≤ 9223372036854775808) (hd : d < 10) : stepW true (-(n : Int)) (UInt8.ofNat (48 + d)) = -((n * 10 + d : Nat) : Int) := by
  unfold stepW
  rw [if_pos rfl, digit_val d hd, w64_id (x := -(n : Int) * 10) (by omega) (by omega), w64_id (by omega) (by omega)]
  push_cast
  omega
theorem foldW_pos (u : Nat) (h : u ≤ 9223372036854775807) : (Lib.decDigits u).foldl (stepW false) 0 = u := by
  induction u using Nat.strongRecOn with
  | _ u ih =>
    by_cases h2 : u < 10
    · rw [Lib.decDigits, dif_pos h2]
      have := stepP_is (n := 0) (d := u) (by omega) h2
      rw [Nat.zero_mul, Nat.zero_add] at this
      rw [List.foldl_cons, List.foldl_nil]
      exact this
    · have e := ih (u / 10) (by omega) (by omega)
      rw [Lib.decDigits, dif_neg h2, List.foldl_append, e]
      have := stepP_is (n := u / 10) (d := u % 10) (by omega) (by omega)
      rw [show u / 10 * 10 + u % 10 = u by omega] at this
      rw [List.foldl_cons, List.foldl_nil]
      exact this
theorem foldW_neg (u : Nat) (h : u ≤ 9223372036854775808) : (Lib.decDigits u).foldl (stepW true) 0 = -(u : Int) := by
  induction u using Nat.strongRecOn with
  | _ u ih =>
    by_cases h2 : u < 10
    · rw [Lib.decDigits, dif_pos h2]
      have := stepN_is (n := 0) (d := u) (by omega) h2
      rw [Nat.zero_mul, Nat.zero_add] at this
      rw [List.foldl_cons, List.foldl_nil]
      exact this
    · have e := ih (u / 10) (by omega) (by omega)
      rw [Lib.decDigits, dif_neg h2, List.foldl_append, e]
      have := stepN_is (n := u / 10) (d := u % 10) (by omega) (by omega)
      rw [show u / 10 * 10 + u % 10 = u by omega] at this
      rw [List.foldl_cons, List.foldl_nil]
      exact this
theorem dec_digits (u : Nat) : ∀ c, c ∈ Lib.decDigits u → 48 ≤ c.toNat ∧ c.toNat ≤ 57 := by
  induction u using Nat.strongRecOn with
  | _ u ih =>
    intro c hc
    by_cases h2 : u < 10
    · rw [Lib.decDigits, dif_pos h2] at hc
      rw [List.mem_singleton] at hc
      subst hc
      rw [digit_nat ⟨u, h2⟩]; simp; omega
    · rw [Lib.decDigits, dif_neg h2] at hc
      rcases List.mem_append.1 hc with h | h
      · exact ih (u / 10) (by omega) c h
      · rw [List.mem_singleton] at h
        subst h
        rw [digit_nat ⟨u % 10, by omega⟩]; simp; omega
theorem dec_ne (u : Nat) : Lib.decDigits u ≠ [] := by
  intro h
  have := Lib.decDigits_length u
  rw [h] at this
  have h2 := Lib.nDigits_pos u
  simp at this
  omega
end Go.Proofs.YtcdcjpejlhcdnaaDoor
