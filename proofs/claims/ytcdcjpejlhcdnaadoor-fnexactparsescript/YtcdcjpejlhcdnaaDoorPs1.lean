import Derived.Test.YtcdcjpejlhcdnaaDoorK1
import Derived.Lib.ItoaNum
import Derived.Lib.QuietBelow
import Derived.BigQuiet
import Derived.Laws.Concat
import Derived.Lib.ItoaLen
namespace Go.Proofs.YtcdcjpejlhcdnaaDoor
open Go.RowKit Go.Sort
set_option linter.unusedVariables false
attribute [local go_sem ↓] Go.wp_at_zero Go.wp_at_succ

/-- A text as a value. -/
abbrev tx (l : List UInt8) : Value := .string ⟨l.toArray⟩
theorem ba_append (a b : List UInt8) : (⟨a.toArray⟩ : ByteArray) ++ ⟨b.toArray⟩ = ⟨(a ++ b).toArray⟩ := by
  apply ByteArray.ext
  simp [ByteArray.data_append]
theorem cat {a b : List UInt8} (h : a.length + b.length ≤ 9223372036854775807) : ∀ W, (Op.stringOp .add ⟨a.toArray⟩ ⟨b.toArray⟩).run Tryd.prog W = .ok (.string ⟨(a ++ b).toArray⟩) W := fun W => by
  rw [run_string_add_sum _ _ _ (by simpa [ByteArray.size] using h), ba_append]
theorem catx (a b : List UInt8) (h : a.length + b.length ≤ 9223372036854775807) : ∃ z, Hid (z = a ++ b) ∧ ∀ W, (Op.stringOp .add ⟨a.toArray⟩ ⟨b.toArray⟩).run Tryd.prog W = .ok (.string ⟨z.toArray⟩) W := ⟨_, hid rfl, cat h⟩
theorem digit_fin : ∀ i : Fin 10, ((⟨#[48, 49, 50, 51, 52, 53, 54, 55, 56, 57]⟩ : ByteArray).extract i.val (i.val + 1)).data.toList = [UInt8.ofNat (48 + i.val)] := by decide +kernel
theorem ba_of {b : ByteArray} {l : List UInt8} (h : b.data.toList = l) : b = ⟨l.toArray⟩ := by
  apply ByteArray.ext
  simp [← h]
theorem digit_is {n : Nat} (h : n < 10) : (⟨#[48, 49, 50, 51, 52, 53, 54, 55, 56, 57]⟩ : ByteArray).extract n (n + 1) = ⟨[UInt8.ofNat (48 + n)].toArray⟩ := ba_of (digit_fin ⟨n, h⟩)

set_option maxHeartbeats 1600000 in
theorem l5Dec_pos (n : Nat) (w : World) (hn : n < 9223372036854775808) :
    Calls Tryd.prog 34 #[.int .i64 n] w fun e w' => e = .returned (tx (Lib.decDigits n)) ∧ Below w.heap.size w w' := by
  induction n using Nat.strongRecOn generalizing w with
  | _ n ih =>
    have h0 : ¬ (n : Int) = -9223372036854775808 := by omega
    have h1 : ¬ (n : Int) < 0 := by omega
    by_cases h2 : n < 10
    · have h2' : (n : Int) < 10 := by omega
      clear ih
      have E := hid (digit_is h2)
      go_enter Tryd.func34, Tryd.ntmps34
      go_wp2
      rw [E.out]
      go_ret
      exact ⟨by rw [Lib.decDigits, dif_pos h2]; rfl, Below.refl _ _⟩
    · have h2' : ¬ (n : Int) < 10 := by omega
      have hq : (n : Int).tdiv 10 = ((n / 10 : Nat) : Int) := by rw [Int.tdiv_eq_ediv_of_nonneg (by omega)]; push_cast; rfl
      have hr : (n : Int).tmod 10 = ((n % 10 : Nat) : Int) := by rw [Int.tmod_eq_emod_of_nonneg (by omega)]; push_cast; rfl
      have hr9 : n % 10 < 10 := Nat.mod_lt _ (by omega)
      have C : ∀ d os, Calls Tryd.prog 34 #[.int .i64 ((n / 10 : Nat) : Int)] (grow (redrawn w d) os) fun e w'' => e = .returned (tx (Lib.decDigits (n / 10))) ∧ ∃ p : Regrown, w'' = grow (redrawn w p.d) p.os := fun d os => Calls.regrown_of (ih (n / 10) (by omega) _ (by omega))
      have E := digit_is hr9
      have hd : (Lib.decDigits (n / 10)).length ≤ 20 := by rw [Lib.decDigits_length]; exact Lib.nDigits_le20 _ (by omega)
      have K : ∀ W, (Op.stringOp .add ⟨(Lib.decDigits (n / 10)).toArray⟩ ⟨[UInt8.ofNat (48 + n % 10)].toArray⟩).run Tryd.prog W = .ok (.string ⟨(Lib.decDigits (n / 10) ++ [UInt8.ofNat (48 + n % 10)]).toArray⟩) W := cat (by simp; omega)
      have e0 : Lib.decDigits n = Lib.decDigits (n / 10) ++ [UInt8.ofNat (48 + n % 10)] := by rw [Lib.decDigits, dif_neg h2]
      have E0 := hid e0
      have hq1 : n / 10 < 922337203685477581 := by omega
      obtain ⟨q, hqq⟩ : ∃ q, q = n / 10 := ⟨_, rfl⟩
      obtain ⟨r, hrr⟩ : ∃ r, r = n % 10 := ⟨_, rfl⟩
      rw [← hqq] at hq hq1 C E0 K
      rw [← hrr] at hr hr9 E E0 K
      obtain ⟨dd, hdd⟩ : ∃ dd, dd = [UInt8.ofNat (48 + r)] := ⟨_, rfl⟩
      rw [← hdd] at E E0 K
      clear ih e0 hqq hrr hd hdd
      go_enter Tryd.func34, Tryd.ntmps34
      go_wp2_with fail
      refine wp_region_quiet_below (by kernel_rfl) (by kernel_rfl) ?_
      repeat (any_goals (first | go_big_quiet_step (with_reducible exact C _ _) | quiet_step (with_reducible exact C _ _)))
      refine wpQuiet_nil ?_
      intro _ hw'
      obtain ⟨⟨dq, osq⟩, hw''⟩ := hw'
      subst hw''
      go_wp2_with fail
      rw [← E0.out]
      go_ret
      exact ⟨rfl, below_regrown w dq osq⟩
theorem least_dec : Lib.itoa (-9223372036854775808) = [45, 57, 50, 50, 51, 51, 55, 50, 48, 51, 54, 56, 53, 52, 55, 55, 53, 56, 48, 56] := by
  rw [Lib.itoa, if_pos (by decide)]
  have h : (-9223372036854775808 : Int).natAbs = 9223372036854775808 := by decide
  rw [h]
  simp [Lib.decDigits]

set_option maxHeartbeats 1600000 in
/-- A number in decimal (the model's). -/
theorem l5Dec_any (n : Int) (w : World) (h0 : -9223372036854775808 ≤ n) (h1 : n ≤ 9223372036854775807) :
    Calls Tryd.prog 34 #[.int .i64 n] w fun e w' => e = .returned (tx (Lib.itoa n)) ∧ Below w.heap.size w w' := by
  by_cases hm : n = -9223372036854775808
  · subst hm
    go_enter Tryd.func34, Tryd.ntmps34
    go_wp2
    go_ret
    exact ⟨by rw [least_dec]; rfl, Below.refl _ _⟩
  · by_cases hn : n < 0
    · obtain ⟨m, hm2⟩ : ∃ m : Nat, -n = m := ⟨(-n).toNat, by omega⟩
      have hm3 : (m : Int) ≤ 9223372036854775807 := by omega
      have C := hid (fun W => l5Dec_pos m W (by omega))
      have hd : (Lib.decDigits m).length ≤ 20 := by rw [Lib.decDigits_length]; exact Lib.nDigits_le20 _ (by omega)
      have K : ∀ W, (Op.stringOp .add ⟨[45].toArray⟩ ⟨(Lib.decDigits m).toArray⟩).run Tryd.prog W = .ok (.string ⟨([45] ++ Lib.decDigits m).toArray⟩) W := cat (by simp; omega)
      have e0 : Hid (Lib.itoa n = [45] ++ Lib.decDigits m) := hid (by rw [Lib.itoa, if_pos hn, show n.natAbs = m by omega]; rfl)
      clear hd
      go_enter Tryd.func34, Tryd.ntmps34
      go_wp2_with (go_at_call 34; refine (C.out _).mono ?_; rintro e w' ⟨rfl, hb⟩)
      go_ret
      exact ⟨by rw [e0.out]; rfl, hb⟩
    · obtain ⟨m, rfl⟩ : ∃ m : Nat, n = m := ⟨n.toNat, by omega⟩
      have e0 : Lib.itoa (m : Int) = Lib.decDigits m := by rw [Lib.itoa, if_neg hn]; rfl
      rw [e0]
      exact l5Dec_pos m w (by omega)
theorem itoa_len {n : Int} (h0 : -9223372036854775808 ≤ n) (h1 : n ≤ 9223372036854775807) : (Lib.itoa n).length ≤ 21 := Lib.itoa_length_le n h0 h1

end Go.Proofs.YtcdcjpejlhcdnaaDoor
