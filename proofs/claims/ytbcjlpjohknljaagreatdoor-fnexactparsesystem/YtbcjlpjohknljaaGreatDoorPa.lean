import Derived.Test.YtbcjlpjohknljaaGreatDoorKa
import Derived.Lib.ItoaNum
import Derived.Lib.QuietBelow
import Derived.BigQuiet
import Derived.Laws.Concat
import Derived.Lib.ItoaLen
import Derived.Test.YtbcjlpjohknljaaGreatDoorOa
import Derived.Deep.RegionWith
import Derived.Deep.RegionHeld3
import Derived.Deep.CutBlock
import Derived.Deep.DeepCutAuto
import Derived.Lib.AtoiAllCases
import Derived.Deep.AppendLies
import Derived.Deep.LoopGhost
import Derived.Deep.RegionLaw
namespace Go.Proofs.YtbcjlpjohknljaaGreatDoor
open Go.RowKit Go.Sort
set_option linter.unusedVariables false
attribute [local go_sem ↓] Go.wp_at_zero Go.wp_at_succ

/-- A text as a value. -/
abbrev tx (l : List UInt8) : Value := .string ⟨l.toArray⟩
theorem ba_append (a b : List UInt8) : (⟨a.toArray⟩ : ByteArray) ++ ⟨b.toArray⟩ = ⟨(a ++ b).toArray⟩ := by
  apply ByteArray.ext
  simp [ByteArray.data_append]
theorem cat {a b : List UInt8} (h : a.length + b.length ≤ 9223372036854775807) : ∀ W, (Op.stringOp .add ⟨a.toArray⟩ ⟨b.toArray⟩).run Tryz.prog W = .ok (.string ⟨(a ++ b).toArray⟩) W := fun W => by
  rw [run_string_add_sum _ _ _ (by simpa [ByteArray.size] using h), ba_append]
theorem digit_fin : ∀ i : Fin 10, ((⟨#[48, 49, 50, 51, 52, 53, 54, 55, 56, 57]⟩ : ByteArray).extract i.val (i.val + 1)).data.toList = [UInt8.ofNat (48 + i.val)] := by decide +kernel
theorem ba_of {b : ByteArray} {l : List UInt8} (h : b.data.toList = l) : b = ⟨l.toArray⟩ := by
  apply ByteArray.ext
  simp [← h]
theorem digit_is {n : Nat} (h : n < 10) : (⟨#[48, 49, 50, 51, 52, 53, 54, 55, 56, 57]⟩ : ByteArray).extract n (n + 1) = ⟨[UInt8.ofNat (48 + n)].toArray⟩ := ba_of (digit_fin ⟨n, h⟩)

set_option maxHeartbeats 1600000 in
theorem l5Dec_pos (n : Nat) (w : World) (hn : n < 9223372036854775808) :
    Calls Tryz.prog 38 #[.int .i64 n] w fun e w' => e = .returned (tx (Lib.decDigits n)) ∧ Below w.heap.size w w' := by
  induction n using Nat.strongRecOn generalizing w with
  | _ n ih =>
    have h0 : ¬ (n : Int) = -9223372036854775808 := by omega
    have h1 : ¬ (n : Int) < 0 := by omega
    by_cases h2 : n < 10
    · have h2' : (n : Int) < 10 := by omega
      clear ih
      have E := hid (digit_is h2)
      go_enter Tryz.func38, Tryz.ntmps38
      go_wp2
      rw [E.out]
      go_ret
      exact ⟨by rw [Lib.decDigits, dif_pos h2]; rfl, Below.refl _ _⟩
    · have h2' : ¬ (n : Int) < 10 := by omega
      have hq : (n : Int).tdiv 10 = ((n / 10 : Nat) : Int) := by rw [Int.tdiv_eq_ediv_of_nonneg (by omega)]; push_cast; rfl
      have hr : (n : Int).tmod 10 = ((n % 10 : Nat) : Int) := by rw [Int.tmod_eq_emod_of_nonneg (by omega)]; push_cast; rfl
      have hr9 : n % 10 < 10 := Nat.mod_lt _ (by omega)
      have C : ∀ d os, Calls Tryz.prog 38 #[.int .i64 ((n / 10 : Nat) : Int)] (grow (redrawn w d) os) fun e w'' => e = .returned (tx (Lib.decDigits (n / 10))) ∧ ∃ p : Regrown, w'' = grow (redrawn w p.d) p.os := fun d os => Calls.regrown_of (ih (n / 10) (by omega) _ (by omega))
      have E := digit_is hr9
      have hd : (Lib.decDigits (n / 10)).length ≤ 20 := by rw [Lib.decDigits_length]; exact Lib.nDigits_le20 _ (by omega)
      have K : ∀ W, (Op.stringOp .add ⟨(Lib.decDigits (n / 10)).toArray⟩ ⟨[UInt8.ofNat (48 + n % 10)].toArray⟩).run Tryz.prog W = .ok (.string ⟨(Lib.decDigits (n / 10) ++ [UInt8.ofNat (48 + n % 10)]).toArray⟩) W := cat (by simp; omega)
      have e0 : Lib.decDigits n = Lib.decDigits (n / 10) ++ [UInt8.ofNat (48 + n % 10)] := by rw [Lib.decDigits, dif_neg h2]
      have E0 := hid e0
      have hq1 : n / 10 < 922337203685477581 := by omega
      obtain ⟨q, hqq⟩ : ∃ q, q = n / 10 := ⟨_, rfl⟩
      obtain ⟨r, hrr⟩ : ∃ r, r = n % 10 := ⟨_, rfl⟩
      rw [← hqq] at hq hq1 C E0 K
      rw [← hrr] at hr hr9 E E0 K
      obtain ⟨dd, hdd⟩ : ∃ dd, dd = [UInt8.ofNat (48 + r)] := ⟨_, rfl⟩
      rw [← hdd] at E E0 K
      clear ih e0 hqq hrr hd hdd
      go_enter Tryz.func38, Tryz.ntmps38
      go_wp2_with fail
      refine wp_region_quiet_below (by kernel_rfl) (by kernel_rfl) ?_
      repeat (any_goals (first | go_big_quiet_step (with_reducible exact C _ _) | quiet_step (with_reducible exact C _ _)))
      refine wpQuiet_nil ?_
      intro _ hw'
      obtain ⟨⟨dq, osq⟩, hw''⟩ := hw'
      subst hw''
      go_wp2_with fail
      rw [← E0.out]
      go_ret
      exact ⟨rfl, below_regrown w dq osq⟩
theorem least_dec : Lib.itoa (-9223372036854775808) = [45, 57, 50, 50, 51, 51, 55, 50, 48, 51, 54, 56, 53, 52, 55, 55, 53, 56, 48, 56] := by
  rw [Lib.itoa, if_pos (by decide)]
  have h : (-9223372036854775808 : Int).natAbs = 9223372036854775808 := by decide
  rw [h]
  simp [Lib.decDigits]

set_option maxHeartbeats 1600000 in
/-- A number in decimal (the model's). -/
theorem l5Dec_any (n : Int) (w : World) (h0 : -9223372036854775808 ≤ n) (h1 : n ≤ 9223372036854775807) :
    Calls Tryz.prog 38 #[.int .i64 n] w fun e w' => e = .returned (tx (Lib.itoa n)) ∧ Below w.heap.size w w' := by
  by_cases hm : n = -9223372036854775808
  · subst hm
    go_enter Tryz.func38, Tryz.ntmps38
    go_wp2
    go_ret
    exact ⟨by rw [least_dec]; rfl, Below.refl _ _⟩
  · by_cases hn : n < 0
    · obtain ⟨m, hm2⟩ : ∃ m : Nat, -n = m := ⟨(-n).toNat, by omega⟩
      have hm3 : (m : Int) ≤ 9223372036854775807 := by omega
      have C := hid (fun W => l5Dec_pos m W (by omega))
      have hd : (Lib.decDigits m).length ≤ 20 := by rw [Lib.decDigits_length]; exact Lib.nDigits_le20 _ (by omega)
      have K : ∀ W, (Op.stringOp .add ⟨[45].toArray⟩ ⟨(Lib.decDigits m).toArray⟩).run Tryz.prog W = .ok (.string ⟨([45] ++ Lib.decDigits m).toArray⟩) W := cat (by simp; omega)
      have e0 : Hid (Lib.itoa n = [45] ++ Lib.decDigits m) := hid (by rw [Lib.itoa, if_pos hn, show n.natAbs = m by omega]; rfl)
      clear hd
      go_enter Tryz.func38, Tryz.ntmps38
      go_wp2_with (go_at_call 38; refine (C.out _).mono ?_; rintro e w' ⟨rfl, hb⟩)
      go_ret
      exact ⟨by rw [e0.out]; rfl, hb⟩
    · obtain ⟨m, rfl⟩ : ∃ m : Nat, n = m := ⟨n.toNat, by omega⟩
      have e0 : Lib.itoa (m : Int) = Lib.decDigits m := by rw [Lib.itoa, if_neg hn]; rfl
      rw [e0]
      exact l5Dec_pos m w (by omega)
end Go.Proofs.YtbcjlpjohknljaaGreatDoor
namespace Go.Proofs.YtbcjlpjohknljaaGreatDoor
open Go.RowKit Go.Sort
set_option linter.unusedVariables false

/-- A number that is read digit by digit, as an int reckons. -/
def stepW (neg : Bool) (n : Int) (c : UInt8) : Int := if neg then wrap64 (wrap64 (n * 10) - ((c.toNat : Int) - 48)) else wrap64 (wrap64 (n * 10) + ((c.toNat : Int) - 48))
theorem w64_id {x : Int} (h0 : -9223372036854775808 ≤ x) (h1 : x ≤ 9223372036854775807) : wrap64 x = x := IntWalk.wrap64_in x ⟨h0, h1⟩
theorem digit_nat : ∀ d : Fin 10, (UInt8.ofNat (48 + d.val)).toNat = 48 + d.val := by decide
theorem digit_val (d : Nat) (h : d < 10) : (((UInt8.ofNat (48 + d)).toNat : Nat) : Int) - 48 = d := by
  rw [digit_nat ⟨d, h⟩]; simp only []; omega
theorem stepP_is {n d : Nat} (h : n * 10 + d ≤ 9223372036854775807) (hd : d < 10) : stepW false (n : Int) (UInt8.ofNat (48 + d)) = ((n * 10 + d : Nat) : Int) := by
  unfold stepW
  rw [if_neg (by decide), digit_val d hd, w64_id (x := (n : Int) * 10) (by omega) (by omega), w64_id (by omega) (by omega)]
  push_cast
  rfl
theorem stepN_is {n d : Nat} (h : n * 10 + d ≤ 9223372036854775808) (hd : d < 10) : stepW true (-(n : Int)) (UInt8.ofNat (48 + d)) = -((n * 10 + d : Nat) : Int) := by
  unfold stepW
  rw [if_pos rfl, digit_val d hd, w64_id (x := -(n : Int) * 10) (by omega) (by omega), w64_id (by omega) (by omega)]
  push_cast
  omega
theorem foldW_pos (u : Nat) (h : u ≤ 9223372036854775807) : (Lib.decDigits u).foldl (stepW false) 0 = u := by
  induction u using Nat.strongRecOn with
  | _ u ih =>
    by_cases h2 : u < 10
    · rw [Lib.decDigits, dif_pos h2]
      have := stepP_is (n := 0) (d := u) (by omega) h2
      rw [Nat.zero_mul, Nat.zero_add] at this
      rw [List.foldl_cons, List.foldl_nil]
      exact this
    · have e := ih (u / 10) (by omega) (by omega)
      rw [Lib.decDigits, dif_neg h2, List.foldl_append, e]
      have := stepP_is (n := u / 10) (d := u % 10) (by omega) (by omega)
      rw [show u / 10 * 10 + u % 10 = u by omega] at this
      rw [List.foldl_cons, List.foldl_nil]
      exact this
theorem foldW_neg (u : Nat) (h : u ≤ 9223372036854775808) : (Lib.decDigits u).foldl (stepW true) 0 = -(u : Int) := by
  induction u using Nat.strongRecOn with
  | _ u ih =>
    by_cases h2 : u < 10
    · rw [Lib.decDigits, dif_pos h2]
      have := stepN_is (n := 0) (d := u) (by omega) h2
      rw [Nat.zero_mul, Nat.zero_add] at this
      rw [List.foldl_cons, List.foldl_nil]
      exact this
    · have e := ih (u / 10) (by omega) (by omega)
      rw [Lib.decDigits, dif_neg h2, List.foldl_append, e]
      have := stepN_is (n := u / 10) (d := u % 10) (by omega) (by omega)
      rw [show u / 10 * 10 + u % 10 = u by omega] at this
      rw [List.foldl_cons, List.foldl_nil]
      exact this
theorem dec_digits (u : Nat) : ∀ c, c ∈ Lib.decDigits u → 48 ≤ c.toNat ∧ c.toNat ≤ 57 := by
  induction u using Nat.strongRecOn with
  | _ u ih =>
    intro c hc
    by_cases h2 : u < 10
    · rw [Lib.decDigits, dif_pos h2] at hc
      rw [List.mem_singleton] at hc
      subst hc
      rw [digit_nat ⟨u, h2⟩]; simp; omega
    · rw [Lib.decDigits, dif_neg h2] at hc
      rcases List.mem_append.1 hc with h | h
      · exact ih (u / 10) (by omega) c h
      · rw [List.mem_singleton] at h
        subst h
        rw [digit_nat ⟨u % 10, by omega⟩]; simp; omega
theorem dec_ne (u : Nat) : Lib.decDigits u ≠ [] := by
  intro h
  have := Lib.decDigits_length u
  rw [h] at this
  have h2 := Lib.nDigits_pos u
  simp at this
  omega
end Go.Proofs.YtbcjlpjohknljaaGreatDoor
namespace Go.Proofs.YtbcjlpjohknljaaGreatDoor
open Go.RowKit Go.Sort
set_option linter.unusedVariables false

def kindName (k : Int) : List UInt8 := if k = 1 then [105, 56] else if k = 2 then [105, 49, 54] else if k = 3 then [105, 51, 50] else if k = 4 then [105, 54, 52] else if k = 5 then [117, 56] else if k = 6 then [117, 49, 54] else [117, 51, 50]
def opName (o : Int) : List UInt8 := if o = 4 then [43] else if o = 5 then [45] else if o = 6 then [42] else if o = 7 then [47] else if o = 8 then [37] else if o = 9 then [61] else if o = 10 then [60] else if o = 11 then [97, 110, 100] else if o = 12 then [111, 114] else if o = 13 then [110, 111, 116] else if o = 14 then [38] else if o = 15 then [124] else if o = 16 then [94] else if o = 17 then [60, 60] else [62, 62]
def stmName (k : Int) : List UInt8 := if k = 1 then [115, 101, 116] else if k = 2 then [101, 109, 105, 116] else if k = 3 then [112, 111, 115, 116] else if k = 4 then [102, 114, 111, 110, 116] else if k = 5 then [112, 117, 98, 108, 105, 115, 104] else if k = 6 then [100, 101, 102, 101, 114] else if k = 7 then [114, 101, 99, 97, 108, 108] else if k = 8 then [97, 114, 109] else [100, 105, 115, 97, 114, 109]
def giveA (k : Int) : Bool := decide (k = 1 ∨ k = 3 ∨ k = 4 ∨ k = 8 ∨ k = 9)
def giveB (k : Int) : Bool := decide (k = 3 ∨ k = 4 ∨ k = 5 ∨ k = 8)
/-- An item's word. -/
def wordT (o v : Int) : List UInt8 := if o = 1 then Lib.itoa v else if o = 2 then [118] ++ Lib.itoa v else if o = 3 then [97, 114, 103] else if o = 19 then kindName v else opName o
abbrev I64 (z : Int) : Prop := -9223372036854775808 ≤ z ∧ z ≤ 9223372036854775807
end Go.Proofs.YtbcjlpjohknljaaGreatDoor
namespace Go.Proofs.YtbcjlpjohknljaaGreatDoor
open Go.RowKit Go.Sort
set_option linter.unusedVariables false
attribute [local go_sem ↓] Go.wp_at_zero Go.wp_at_succ

/-- A row of words that a call has made. -/
theorem kindNames_any (w : World) : Calls Tryz.prog 22 #[] w fun e w' => e = .returned (.slice (some ⟨w.heap.size, 0, none⟩) 7 7) ∧ w' = w.alloc (.cells #[tx (kindName 1), tx (kindName 2), tx (kindName 3), tx (kindName 4), tx (kindName 5), tx (kindName 6), tx (kindName 7)] 9) := by
  go_enter Tryz.func22, Tryz.ntmps22
  go_wp2
  go_ret
  exact ⟨rfl, rfl⟩
theorem opNames_any (w : World) : Calls Tryz.prog 67 #[] w fun e w' => e = .returned (.slice (some ⟨w.heap.size, 0, none⟩) 15 15) ∧ w' = w.alloc (.cells #[tx (opName 4), tx (opName 5), tx (opName 6), tx (opName 7), tx (opName 8), tx (opName 9), tx (opName 10), tx (opName 11), tx (opName 12), tx (opName 13), tx (opName 14), tx (opName 15), tx (opName 16), tx (opName 17), tx (opName 18)] 9) := by
  go_enter Tryz.func67, Tryz.ntmps67
  go_wp2
  go_ret
  exact ⟨rfl, rfl⟩
theorem stmNames_any (w : World) : Calls Tryz.prog 40 #[] w fun e w' => e = .returned (.slice (some ⟨w.heap.size, 0, none⟩) 9 9) ∧ w' = w.alloc (.cells #[tx (stmName 1), tx (stmName 2), tx (stmName 3), tx (stmName 4), tx (stmName 5), tx (stmName 6), tx (stmName 7), tx (stmName 8), tx (stmName 9)] 9) := by
  go_enter Tryz.func40, Tryz.ntmps40
  go_wp2
  go_ret
  exact ⟨rfl, rfl⟩
/-- Which fields a statement's line gives. -/
def formT (k : Int) : List UInt8 := (if giveA k then [97] else []) ++ (if giveB k then [98] else [])
def formC (k : Int) : Bool := decide (k = 1 ∨ k = 2 ∨ k = 3 ∨ k = 4 ∨ k = 5 ∨ k = 8)
set_option maxHeartbeats 1600000 in
theorem form_any (k : Int) (w : World) (h1 : 1 ≤ k) (h9 : k ≤ 9) : Calls Tryz.prog 41 #[.int .i64 k] w fun e w' => e = .returned (.tuple #[tx (formT k), .bool (formC k)]) ∧ w' = w := by
  obtain ⟨n, rfl⟩ : ∃ n : Nat, k = n := ⟨k.toNat, by omega⟩
  have hn : n = 1 ∨ n = 2 ∨ n = 3 ∨ n = 4 ∨ n = 5 ∨ n = 6 ∨ n = 7 ∨ n = 8 ∨ n = 9 := by omega
  rcases hn with rfl | rfl | rfl | rfl | rfl | rfl | rfl | rfl | rfl
  all_goals
    go_enter Tryz.func41, Tryz.ntmps41
    go_wp2
    go_ret2
    exact ⟨rfl, rfl⟩
end Go.Proofs.YtbcjlpjohknljaaGreatDoor
namespace Go.Proofs.YtbcjlpjohknljaaGreatDoor
open Go.RowKit Go.Sort
set_option linter.unusedVariables false

/-- A text cut at a byte. -/
def cut (c : UInt8) : List UInt8 → List (List UInt8)
  | [] => [[]]
  | x :: l => if x = c then [] :: cut c l else match cut c l with | [] => [[x]] | f :: r => (x :: f) :: r
theorem cut_ne (c : UInt8) : ∀ l, cut c l ≠ []
  | [] => by simp [cut]
  | x :: l => by
    unfold cut
    split
    · simp
    · split <;> simp
theorem cut_last {c : UInt8} : ∀ {a : List UInt8}, c ∉ a → cut c a = [a]
  | [], _ => rfl
  | x :: l, h => by
    have h1 : ¬ x = c := fun e => h (by simp [e])
    have h2 := cut_last (c := c) (a := l) (fun e => h (by simp [e]))
    unfold cut
    rw [if_neg h1, h2]
theorem cut_step {c : UInt8} (b : List UInt8) : ∀ {a : List UInt8}, c ∉ a → cut c (a ++ c :: b) = a :: cut c b
  | [], _ => by simp [cut]
  | x :: l, h => by
    have h1 : ¬ x = c := fun e => h (by simp [e])
    have h2 := cut_step (c := c) b (a := l) (fun e => h (by simp [e]))
    rw [List.cons_append, cut, if_neg h1, h2]
/-- A text as its first line and what follows. -/
theorem first_line (c : UInt8) : ∀ l : List UInt8, ∃ a, c ∉ a ∧ (l = a ∨ ∃ b, l = a ++ c :: b)
  | [] => ⟨[], by simp, .inl rfl⟩
  | x :: l => by
    by_cases h : x = c
    · exact ⟨[], by simp, .inr ⟨l, by simp [h]⟩⟩
    · obtain ⟨a, ha, h2⟩ := first_line c l
      refine ⟨x :: a, by simp [ha]; exact fun e => h e.symm, ?_⟩
      rcases h2 with rfl | ⟨b, rfl⟩
      · exact .inl rfl
      · exact .inr ⟨b, by simp⟩
/-- The lines of a text from a place on: none beyond its end. -/
def linesFrom (t : List UInt8) (k : Nat) : List (List UInt8) := if k ≤ t.length then cut 10 (t.drop k) else []
/-- The line that begins at a place: it ends with the text, or at a byte 10. -/
structure LineAt (t : List UInt8) (k : Nat) (a : List UInt8) : Prop where
  non : (10 : UInt8) ∉ a
  le : k + a.length ≤ t.length
  at_ : ∀ j, j < a.length → t.getD (k + j) 0 = a.getD j 0
  fin : k + a.length = t.length ∨ (k + a.length < t.length ∧ t.getD (k + a.length) 0 = 10)
  all : linesFrom t k = a :: linesFrom t (k + a.length + 1)
  pre : ∃ r, t.drop k = a ++ r
theorem drop_getD (t : List UInt8) (k j : Nat) : (t.drop k).getD j 0 = t.getD (k + j) 0 := by simp [List.getD_eq_getElem?_getD]
theorem line_at (t : List UInt8) (k : Nat) (h : k ≤ t.length) : ∃ a, LineAt t k a := by
  obtain ⟨a, ha, h2⟩ := first_line 10 (t.drop k)
  refine ⟨a, ha, ?_, ?_, ?_, ?_, by rcases h2 with e | ⟨b, e⟩; exact ⟨[], by rw [e]; simp⟩; exact ⟨_, e⟩⟩
  · have : (t.drop k).length = t.length - k := by simp
    rcases h2 with e | ⟨b, e⟩ <;> rw [e] at this <;> (try simp at this) <;> omega
  · intro j hj
    rw [← drop_getD]
    rcases h2 with e | ⟨b, e⟩
    · rw [e]
    · rw [e]; simp [List.getD_eq_getElem?_getD, List.getElem?_append, hj]
  · have hl : (t.drop k).length = t.length - k := by simp
    rcases h2 with e | ⟨b, e⟩
    · rw [e] at hl; left; omega
    · right
      rw [e] at hl
      simp at hl
      refine ⟨by omega, ?_⟩
      rw [← drop_getD, e]
      simp [List.getD_eq_getElem?_getD]
  · have hl : (t.drop k).length = t.length - k := by simp
    unfold linesFrom
    rw [if_pos h]
    rcases h2 with e | ⟨b, e⟩
    · rw [if_neg (by rw [e] at hl; omega), e, cut_last ha]
    · have hk : k + a.length + 1 ≤ t.length := by rw [e] at hl; simp at hl; omega
      rw [if_pos hk, e, cut_step b ha]
      have : t.drop (k + a.length + 1) = b := by
        have h3 : t.drop (k + a.length + 1) = (t.drop k).drop (a.length + 1) := by rw [List.drop_drop]; congr 1
        rw [h3, e]
        simp
      rw [this]
theorem LineAt.cut {t a : List UInt8} {k : Nat} (h : LineAt t k a) {b q : Nat} (hb : b ≤ q) (hq : q ≤ a.length) : (t.drop (k + b)).take (k + q - (k + b)) = (a.drop b).take (q - b) := by
  obtain ⟨r, hr⟩ := h.pre
  have h1 : t.drop (k + b) = a.drop b ++ r := by
    have : t.drop (k + b) = (t.drop k).drop b := by rw [List.drop_drop]
    rw [this, hr, List.drop_append_of_le_length (by omega)]
  rw [h1, show k + q - (k + b) = q - b by omega, List.take_append_of_le_length (by simp; omega)]
/-- Parts on the way: what has been cut, where the one that is being read begins. -/
structure PartsAt (c : UInt8) (a : List UInt8) (fs : List (List UInt8)) (b i : Nat) : Prop where
  lo : b ≤ i
  hi : i ≤ a.length
  non : c ∉ (a.drop b).take (i - b)
  all : fs ++ cut c (a.drop b) = cut c a
theorem PartsAt.start (c : UInt8) (a : List UInt8) : PartsAt c a [] 0 0 := ⟨Nat.le_refl _, Nat.zero_le _, by simp, by simp⟩
theorem PartsAt.next {c : UInt8} {a : List UInt8} {fs : List (List UInt8)} {b i : Nat} (h : PartsAt c a fs b i) (hi : i < a.length) (hc : a.getD i 0 ≠ c) : PartsAt c a fs b (i + 1) := by
  have h1 := h.lo
  refine ⟨by omega, hi, ?_, h.all⟩
  rw [show i + 1 - b = i - b + 1 by omega, List.take_add_one]
  simp only [List.mem_append, not_or]
  refine ⟨h.non, ?_⟩
  rw [List.getElem?_drop, show b + (i - b) = i by omega, List.getElem?_eq_getElem hi]
  simp [List.getD_eq_getElem?_getD, hi] at hc ⊢
  exact fun e => hc e.symm
theorem take_drop_split (a : List UInt8) (b i : Nat) (hlo : b ≤ i) (hi : i < a.length) : a.drop b = (a.drop b).take (i - b) ++ a.getD i 0 :: a.drop (i + 1) := by
  have h1 : (a.drop b).drop (i - b) = a.getD i 0 :: a.drop (i + 1) := by
    rw [List.drop_drop, show b + (i - b) = i by omega, List.drop_eq_getElem_cons hi]
    simp [List.getD_eq_getElem?_getD, hi]
  rw [← h1, List.take_append_drop]
theorem PartsAt.part {c : UInt8} {a : List UInt8} {fs : List (List UInt8)} {b i : Nat} (h : PartsAt c a fs b i) (hi : i < a.length) (hc : a.getD i 0 = c) : PartsAt c a (fs ++ [(a.drop b).take (i - b)]) (i + 1) (i + 1) := by
  have h1 := h.lo
  refine ⟨Nat.le_refl _, hi, by simp, ?_⟩
  rw [← h.all]
  have e := take_drop_split a b i h1 hi
  rw [hc] at e
  have e2 : cut c (a.drop b) = (a.drop b).take (i - b) :: cut c (a.drop (i + 1)) := by
    have := cut_step (a.drop (i + 1)) h.non
    rw [← e] at this
    exact this
  rw [e2]
  simp
theorem PartsAt.last {c : UInt8} {a : List UInt8} {fs : List (List UInt8)} {b i : Nat} (h : PartsAt c a fs b i) (hi : i = a.length) : fs ++ [(a.drop b).take (i - b)] = cut c a := by
  have h1 := h.lo
  have e : (a.drop b).take (i - b) = a.drop b := by rw [List.take_of_length_le]; simp; omega
  rw [← h.all, ← cut_last h.non, e]
theorem cut_len (c : UInt8) : ∀ l : List UInt8, (cut c l).length ≤ l.length + 1
  | [] => by simp [cut]
  | x :: l => by
    have ih := cut_len c l
    unfold cut
    split
    · simp; omega
    · split
      · simp
      · rename_i f r e
        rw [e] at ih
        simp at ih ⊢
        omega
theorem cut_each (c : UInt8) : ∀ (l : List UInt8) (f : List UInt8), f ∈ cut c l → f.length ≤ l.length
  | [], f, h => by simp [cut] at h; simp [h]
  | x :: l, f, h => by
    have ih := cut_each c l
    unfold cut at h
    split at h
    · rcases List.mem_cons.1 h with rfl | h
      · simp
      · have := ih f h; simp; omega
    · split at h
      · simp at h; simp [h]
      · rename_i g r e
        rcases List.mem_cons.1 h with rfl | h
        · have := ih g (by rw [e]; simp); simp; omega
        · have := ih f (by rw [e]; simp [h]); simp; omega
theorem PartsAt.len {c : UInt8} {a : List UInt8} {fs : List (List UInt8)} {b i : Nat} (h : PartsAt c a fs b i) : fs.length ≤ a.length := by
  have h1 := congrArg List.length h.all
  have h2 := cut_len c a
  have h3 : (cut c (a.drop b)).length ≠ 0 := fun e => cut_ne c (a.drop b) (List.length_eq_zero_iff.1 e)
  rw [List.length_append] at h1
  omega
/-- The first field, and the line it begins. -/
theorem cut_one {a : List UInt8} : (cut 32 a).length = 1 ∧ (cut 32 a).getD 0 [] = [] ↔ a = [] := by
  obtain ⟨x, hx, h⟩ := first_line 32 a
  rcases h with rfl | ⟨b, rfl⟩
  · rw [cut_last hx]; simp
  · rw [cut_step b hx]
    have := cut_ne 32 b
    constructor
    · rintro ⟨h1, _⟩
      simp at h1
      exact absurd h1 this
    · intro h; simp at h
theorem cut_head {a : List UInt8} : (cut 32 a).getD 0 [] = [] ∨ ((cut 32 a).getD 0 []).head? = a.head? := by
  obtain ⟨x, hx, h⟩ := first_line 32 a
  rcases h with rfl | ⟨b, rfl⟩
  · rw [cut_last hx]; right; rfl
  · rw [cut_step b hx]
    cases x with
    | nil => left; rfl
    | cons y r => right; rfl
/-- A line that is skipped. -/
def skipB (a : List UInt8) : Bool := a.head?.getD 35 == 35
theorem skip_is (a : List UInt8) : skipB a = (decide ((cut 32 a).length = 1 ∧ (cut 32 a).getD 0 [] = []) || ((cut 32 a).getD 0 []).head? == some 35) := by
  have h1 : decide ((cut 32 a).length = 1 ∧ (cut 32 a).getD 0 [] = []) = decide (a = []) := decide_eq_decide.2 cut_one
  rw [h1]
  cases a with
  | nil => simp [skipB]
  | cons x r =>
    have h2 : ((cut 32 (x :: r)).getD 0 []).head? = some 35 ↔ x = 35 := by
      rcases cut_head (a := x :: r) with h | h
      · rw [h]
        constructor
        · intro h3; cases h3
        · intro h3
          subst h3
          obtain ⟨y, hy, h4⟩ := first_line 32 (35 :: r)
          rcases h4 with h4 | ⟨b, h4⟩
          · rw [h4, cut_last hy] at h; simp at h; subst h; cases h4
          · rw [h4, cut_step b hy] at h; simp at h; subst h; simp at h4
      · rw [h]; simp
    have h3 : (((cut 32 (x :: r)).getD 0 []).head? == some 35) = (x == 35) := by
      by_cases hx : x = 35
      · rw [h2.2 hx]; simp [hx]
      · have : ¬ ((cut 32 (x :: r)).getD 0 []).head? = some 35 := fun e => hx (h2.1 e)
        have e1 : (((cut 32 (x :: r)).getD 0 []).head? == some 35) = false := by simpa using this
        rw [e1]; simp [hx]
    rw [h3]
    simp [skipB]

theorem parse_dec (u : Nat) : ∀ r, u < 18446744073709551616 → Lib.parseUint10 0 (Lib.decDigits u ++ r) = Lib.parseUint10 u r := by
  induction u using Nat.strongRecOn with
  | _ u ih =>
    intro r hu
    by_cases h2 : u < 10
    · rw [Lib.decDigits, dif_pos h2]
      have e := digit_nat ⟨u, h2⟩
      simp only [] at e
      rw [List.cons_append, List.nil_append, Lib.parseUint10, e, if_pos (by omega), if_neg (by omega), if_neg (by omega)]
      congr 1
      omega
    · have e := digit_nat ⟨u % 10, by omega⟩
      simp only [] at e
      rw [Lib.decDigits, dif_neg h2, List.append_assoc, ih (u / 10) (by omega) _ (by omega), List.cons_append, List.nil_append, Lib.parseUint10, e, if_pos (by omega), if_neg (by omega), if_neg (by omega)]
      congr 1
      omega
theorem mag_dec (u : Nat) (h : u < 18446744073709551616) : Lib.parseMag (Lib.decDigits u) = .ok u := by
  unfold Lib.parseMag
  rw [if_neg (dec_ne u)]
  have := parse_dec u [] h
  rw [List.append_nil] at this
  rw [this]; rfl
/-- What is written is read back. -/
theorem atoi_itoa (n : Int) (h0 : -9223372036854775808 ≤ n) (h1 : n ≤ 9223372036854775807) : Lib.atoiAll (Lib.itoa n) = .ok n := by
  unfold Lib.itoa
  by_cases hn : n < 0
  · rw [if_pos hn, Lib.atoiAll_minus, mag_dec _ (by omega)]
    simp only [Lib.signed]
    rw [if_neg (by omega)]
    congr 1
    omega
  · rw [if_neg hn]
    have hd := dec_digits n.toNat
    have hm := mag_dec n.toNat (by omega)
    cases hx : Lib.decDigits n.toNat with
    | nil => exact absurd hx (dec_ne _)
    | cons c r =>
      rw [hx] at hd hm
      have hc := hd c (by simp)
      rw [Lib.atoiAll_plain c r (by omega) (by omega), hm]
      simp only [Lib.signless]
      rw [if_neg (by omega)]
      congr 1
      omega
/-- The number that a field is. -/
def num? (s : List UInt8) : Option Int := match Lib.atoiAll s with
  | .ok v => if Lib.itoa v = s then some v else none
  | _ => none
theorem num_itoa (n : Int) (h0 : -9223372036854775808 ≤ n) (h1 : n ≤ 9223372036854775807) : num? (Lib.itoa n) = some n := by
  unfold num?
  rw [atoi_itoa n h0 h1]
  simp
theorem num_some {s : List UInt8} {n : Int} (h : num? s = some n) : Lib.itoa n = s ∧ -9223372036854775808 ≤ n ∧ n ≤ 9223372036854775807 := by
  unfold num? at h
  split at h
  · rename_i v hv
    split at h
    · rename_i he
      simp at h
      subst h
      exact ⟨he, Lib.atoiAll_bounds hv⟩
    · cases h
  · cases h
end Go.Proofs.YtbcjlpjohknljaaGreatDoor
namespace Go.Proofs.YtbcjlpjohknljaaGreatDoor
open Go.RowKit Go.Sort
set_option linter.unusedVariables false
attribute [local go_sem ↓] Go.wp_at_zero Go.wp_at_succ

abbrev bl (s : ByteArray) : List UInt8 := s.data.toList
theorem bl_len (s : ByteArray) : (bl s).length = s.size := Array.length_toList
theorem bl_get (s : ByteArray) (k : Nat) (h : k < s.size) : (bl s).getD k 0 = s[k] := by
  have h' : k < s.data.size := h
  rw [List.getD_eq_getElem?_getD, Array.getElem?_toList, Array.getElem?_eq_getElem h']
  rfl
theorem ext_is (s : ByteArray) (b i : Nat) (h : i ≤ s.size) : s.extract b i = ⟨(((bl s).drop b).take (i - b)).toArray⟩ := by
  apply ba_of
  rw [ByteArray.data_extract]
  simp [List.extract_eq_take_drop]
theorem Tryz.infoStr : (Tryz.prog.info? 9).map (fun i => (i.zero, i.size, i.bytes)) = some (some (.string ⟨#[]⟩), 1, 16) := by kernel_rfl
/-- A list of texts of the call's own. -/
abbrev TxRow (w : World) (B : Nat) (v : Value) (fs : List (List UInt8)) : Prop := w.ownsRow B 9 1 v fs.length (fs.map tx)
theorem row_form {w : World} {B : Nat} {e : TypeId} {size : Nat} {v : Value} {n : Nat} {xs : List Value} (h : w.ownsRow B e size v n xs) : ∃ ao n' cap, v = .slice ao n' cap := by
  rcases h.2 with ⟨hv, _⟩ | ⟨g, cap, cur, hv, _⟩
  · exact ⟨_, _, _, hv⟩
  · exact ⟨_, _, _, hv⟩

theorem news_one (w : World) (x : Value) (t : TypeId) (hx : x.oneCell' = true) : ∀ (j : Nat) u, [x][j]? = some u → (w.alloc (.cells #[x] t)).cell? ((⟨w.heap.size, 0, none⟩ : Addr).add j) = some u := by
  intro j u hj
  match j, hj with
  | 0, hj => simp at hj; subst hj; simp [Addr.add]
theorem one_tx (l : List UInt8) : ∀ u ∈ [tx l], u.oneCell' = true := by intro u hu; simp at hu; subst hu; rfl
/-- Behind an append to a row of the call's own. -/
theorem below_grown {B : Nat} {w0 w w2 : World} {e : TypeId} {size n : Nat} {v : Value} {xs : List Value} {o : Obj} (hb : Below B w0 w) (hB : B ≤ w0.heap.size) (h : w.ownsRow B e size v n xs) (hg : (w.alloc o).grownBy w2 v.ownBlock) : Below B w0 w2 := by
  refine hb.trans (((Below.refl B w).alloc (Nat.le_trans hB hb.size) o).grown hg (by have := hb.size; simp; omega) (fun k hk => (h.lt k hk).1))

set_option maxRecDepth 100000 in
set_option maxHeartbeats 1600000 in
theorem l5Split_any (s : ByteArray) (c : UInt8) (w : World) (hs : s.size ≤ 1048576) :
    Calls Tryz.prog 9 #[.string s, .int .u8 c.toNat] w fun e w' => ∃ v, e = .returned v ∧ TxRow w' w.heap.size v (cut c (bl s)) ∧ Below w.heap.size w w' := by
  obtain ⟨i0, hi, hz0, hz1, hz2⟩ := info_parts Tryz.infoStr
  go_enter Tryz.func9, Tryz.ntmps9
  go_wp2
  go_loopw [5, 6, 7] (fun p f i wr => ∃ (b k : Nat) (fs : List (List UInt8)), k ≤ s.size ∧ b ≤ k ∧ f = .int .i64 b ∧ i = .int .i64 k ∧ Hid (PartsAt c (bl s) fs b k) ∧ Hid (TxRow wr w.heap.size p fs) ∧ Hid (Below w.heap.size w wr)) (fun _ _ i _ => s.size - (intOf i).toNat)
  case atStart => exact ⟨0, 0, [], Nat.zero_le _, Nat.le_refl _, rfl, rfl, hid (PartsAt.start _ _), hid (World.ownsRow_lit w #[] 0 (Nat.le_refl _) (by decide) rfl), hid (below1 _ _)⟩
  case round =>
    obtain ⟨b, k, fs, hk, hbk, rfl, rfl, hP, hT, hB⟩ := hrel
    have hl := hid (bl_len s)
    have hfl := hid hP.out.len
    obtain ⟨ao, n', cap, rfl⟩ := row_form hT.out
    by_cases hlt : k < s.size
    · have hlt' : (k : Int) < (s.size : Int) := by omega
      have hg := hid (bl_get s k hlt)
      by_cases hc : s[k] = c
      · have hc' : ((s[k].toNat : Int) == (c.toNat : Int)) = true := by simp [hc]
        have E := ext_is s b k hk
        have HC := hid hc
        have Q := hid (hP.out.part (by rw [hl.out]; exact hlt) (by rw [hg.out]; exact hc))
        obtain ⟨x, hx⟩ : ∃ x, x = ((bl s).drop b).take (k - b) := ⟨_, rfl⟩
        rw [← hx] at E Q
        have HB := hid (show fs.length + 1 ≤ 1048577 by have := hfl.out; have := hl.out; omega)
        clear hc hx hP hfl hl hg
        go_wp2_with (at_builtin; refine wpList_append_own _ rfl (.tmp 20) (.tmp 25) 31 rfl w.heap.size 9 i0 (.string ⟨#[]⟩) 1 16 Tryz.underlying31 hi hz0 hz1 hz2 rfl (by decide) _ fs.length (fs.map tx) rfl (ownsRow_below hT.out (below1 _ _)) ⟨wr.heap.size, 0, none⟩ 1 1 [tx x] rfl rfl (news_one wr _ _ rfl) (one_tx x) (by have := HB.out; unfold maxLen; omega) (by have := HB.out; omega) (by have := hB.out.size; simp; omega) ?_)
        intro v' w2 hown' hgrow hnil
        obtain ⟨ao2, n2, cap2, rfl⟩ := row_form hown'
        have T2 : Hid (TxRow w2 w.heap.size (.slice ao2 n2 cap2) (fs ++ [x])) := hid (by unfold TxRow; simpa using hown')
        have B2 := hid (below_grown hB.out (Nat.le_refl _) hT.out hgrow)
        clear hown' hgrow hnil
        go_wp2
        go_roundw
        case rel => exact ⟨k + 1, k + 1, fs ++ [x], hlt, Nat.le_refl _, by go_num, by go_num, Q, T2, B2⟩
        case measure => simp [intOf]; omega
      · have hc' : ((s[k].toNat : Int) == (c.toNat : Int)) = false := by simp; intro h; exact hc (UInt8.toNat_inj.1 (by exact_mod_cast h))
        have HC := hid hc
        clear hc
        go_wp2
        go_roundw
        case rel => exact ⟨b, k + 1, fs, hlt, by omega, rfl, by go_num, hid (hP.out.next (by rw [hl.out]; exact hlt) (by rw [hg.out]; exact HC.out)), hT, hB⟩
        case measure => simp [intOf]; omega
    · have ek : k = s.size := by omega
      have E := ext_is s b s.size (Nat.le_refl _)
      subst ek
      have Q := hid (hP.out.last hl.out.symm)
      obtain ⟨x, hx⟩ : ∃ x, x = ((bl s).drop b).take (s.size - b) := ⟨_, rfl⟩
      rw [← hx] at E Q
      have HB := hid (show fs.length + 1 ≤ 1048577 by have := hfl.out; have := hl.out; omega)
      clear hx hP hfl hl
      go_wp2_with (at_builtin; refine wpList_append_own _ rfl (.tmp 29) (.tmp 33) 31 rfl w.heap.size 9 i0 (.string ⟨#[]⟩) 1 16 Tryz.underlying31 hi hz0 hz1 hz2 rfl (by decide) _ fs.length (fs.map tx) rfl (ownsRow_below hT.out (below1 _ _)) ⟨wr.heap.size, 0, none⟩ 1 1 [tx x] rfl rfl (news_one wr _ _ rfl) (one_tx x) (by have := HB.out; unfold maxLen; omega) (by have := HB.out; omega) (by have := hB.out.size; simp; omega) ?_)
      intro v' w2 hown' hgrow hnil
      obtain ⟨ao2, n2, cap2, rfl⟩ := row_form hown'
      have T2 : Hid (TxRow w2 w.heap.size (.slice ao2 n2 cap2) (fs ++ [x])) := hid (by unfold TxRow; simpa using hown')
      have B2 := hid (below_grown hB.out (Nat.le_refl _) hT.out hgrow)
      rw [Q.out] at T2
      clear hown' hgrow hnil
      go_wp2
      go_ret
      exact ⟨_, rfl, T2.out, B2.out⟩
end Go.Proofs.YtbcjlpjohknljaaGreatDoor
namespace Go.Proofs.YtbcjlpjohknljaaGreatDoor
open Go.RowKit Go.Sort
set_option linter.unusedVariables false
attribute [local go_sem ↓] Go.wp_at_zero Go.wp_at_succ

theorem nDigits_lt : ∀ (k u : Nat), u < 10 ^ (k + 1) → Lib.nDigits u ≤ k + 1
  | 0, u, h => by rw [Lib.nDigits_small (by simpa using h)]; omega
  | k + 1, u, h => by
    by_cases h2 : u < 10
    · rw [Lib.nDigits_small h2]; omega
    · rw [Lib.nDigits_big h2]
      have := nDigits_lt k (u / 10) (by rw [Nat.pow_succ] at h; omega)
      omega
theorem itoa_len20 {n : Int} (h0 : -9223372036854775808 ≤ n) (h1 : n ≤ 9223372036854775807) : 1 ≤ (Lib.itoa n).length ∧ (Lib.itoa n).length ≤ 20 := by
  unfold Lib.itoa
  split
  · have := nDigits_lt 18 n.natAbs (by omega)
    have h2 := Lib.decDigits_length n.natAbs
    simp; omega
  · have := nDigits_lt 18 n.toNat (by omega)
    have h2 := Lib.decDigits_length n.toNat
    have h3 := Lib.nDigits_pos n.toNat
    omega
/-- What has been reckoned of a number behind k signs. -/
def numW (l : List UInt8) (k : Nat) : Int := if l.getD 0 0 = 45 then ((l.take k).drop 1).foldl (stepW true) 0 else (l.take k).foldl (stepW false) 0
theorem stepW_I64 (b : Bool) (n : Int) (c : UInt8) : -9223372036854775808 ≤ stepW b n c ∧ stepW b n c ≤ 9223372036854775807 := by
  unfold stepW
  split <;> (unfold wrap64; constructor <;> omega)
theorem foldW_I64 (b : Bool) : ∀ (l : List UInt8) (n : Int), (-9223372036854775808 ≤ n ∧ n ≤ 9223372036854775807) → -9223372036854775808 ≤ l.foldl (stepW b) n ∧ l.foldl (stepW b) n ≤ 9223372036854775807
  | [], n, h => h
  | c :: r, n, h => foldW_I64 b r _ (stepW_I64 b n c)
theorem numW_I64 (l : List UInt8) (k : Nat) : -9223372036854775808 ≤ numW l k ∧ numW l k ≤ 9223372036854775807 := by
  unfold numW
  split
  · exact foldW_I64 _ _ _ (by omega)
  · exact foldW_I64 _ _ _ (by omega)
theorem take_snoc2 (l : List UInt8) (k : Nat) (h : k < l.length) : l.take (k + 1) = l.take k ++ [l.getD k 0] := by
  rw [List.take_add_one]
  simp [List.getD_eq_getElem?_getD, h]
theorem numW_sign (l : List UInt8) (h : 0 < l.length) (h0 : l.getD 0 0 = 45) : numW l (0 + 1) = numW l 0 := by
  unfold numW
  rw [if_pos h0, if_pos h0, take_snoc2 l 0 h]
  simp
theorem numW_neg (l : List UInt8) (k : Nat) (h : k < l.length) (h0 : l.getD 0 0 = 45) (hk : ¬ l.getD k 0 = 45) : numW l (k + 1) = wrap64 (wrap64 (numW l k * 10) - (((l.getD k 0).toNat : Int) - 48)) := by
  have h1 : k ≠ 0 := by rintro rfl; exact hk h0
  unfold numW
  rw [if_pos h0, if_pos h0, take_snoc2 l k h, List.drop_append_of_le_length (by simp; omega), List.foldl_append]
  rfl
theorem numW_pos (l : List UInt8) (k : Nat) (h : k < l.length) (h0 : ¬ l.getD 0 0 = 45) : numW l (k + 1) = wrap64 (wrap64 (numW l k * 10) + (((l.getD k 0).toNat : Int) - 48)) := by
  unfold numW
  rw [if_neg h0, if_neg h0, take_snoc2 l k h, List.foldl_append]
  rfl
theorem numW_itoa (v : Int) (h0 : -9223372036854775808 ≤ v) (h1 : v ≤ 9223372036854775807) : numW (Lib.itoa v) (Lib.itoa v).length = v := by
  unfold numW Lib.itoa
  by_cases hn : v < 0
  · rw [if_pos hn, if_pos (by rfl), List.take_length]
    simp only [List.drop_succ_cons, List.drop_zero]
    rw [foldW_neg _ (by omega)]
    omega
  · rw [if_neg hn]
    have hd : ¬ (Lib.decDigits v.toNat).getD 0 0 = 45 := by
      have h2 := dec_digits v.toNat
      cases hx : Lib.decDigits v.toNat with
      | nil => exact absurd hx (dec_ne _)
      | cons c r =>
        rw [hx] at h2
        have := h2 c (by simp)
        simp
        rintro rfl
        revert this
        decide
    rw [if_neg hd, List.take_length, foldW_pos _ (by omega)]
    omega
theorem num_is (l : List UInt8) : num? l = if Lib.itoa (numW l l.length) = l then some (numW l l.length) else none := by
  split
  · rename_i h
    have hb := numW_I64 l l.length
    have := num_itoa _ hb.1 hb.2
    rw [h] at this
    exact this
  · rename_i h
    cases hx : num? l with
    | none => rfl
    | some v =>
      obtain ⟨h1, h2, h3⟩ := num_some hx
      have := numW_itoa v h2 h3
      rw [h1] at this
      rw [this] at h
      exact absurd h1 h
theorem num_digits {l : List UInt8} {v : Int} (h : num? l = some v) (k : Nat) (hk : k < l.length) : (k = 0 ∧ l.getD k 0 = 45) ∨ (48 ≤ (l.getD k 0).toNat ∧ (l.getD k 0).toNat ≤ 57) := by
  obtain ⟨h1, _, _⟩ := num_some h
  subst h1
  revert hk
  unfold Lib.itoa
  split
  · intro hk
    cases k with
    | zero => left; exact ⟨rfl, rfl⟩
    | succ j =>
      right
      have := dec_digits v.natAbs ((Lib.decDigits v.natAbs).getD j 0) (by
        have hj : j < (Lib.decDigits v.natAbs).length := by simpa using hk
        rw [List.getD_eq_getElem?_getD, List.getElem?_eq_getElem hj]; simp)
      simpa using this
  · intro hk
    right
    have := dec_digits v.toNat ((Lib.decDigits v.toNat).getD k 0) (by
      rw [List.getD_eq_getElem?_getD, List.getElem?_eq_getElem hk]; simp)
    exact this
theorem num_len {l : List UInt8} {v : Int} (h : num? l = some v) : 1 ≤ l.length ∧ l.length ≤ 20 := by
  obtain ⟨h1, h2, h3⟩ := num_some h
  subst h1
  exact itoa_len20 h2 h3
theorem str_ne {t s : ByteArray} (h : ¬ t = s) : (t.toList == s.toList) = false := by
  rw [beq_eq_false_iff_ne, ne_eq, ByteArray.toList_eq, ByteArray.toList_eq]
  exact fun e => h (ByteArray.ext (Array.toList_inj.1 e))
/-- How a number is answered. -/
def numR (l : List UInt8) (e : Ending) : Prop := ∃ n : Int, e = .returned (.tuple #[.int .i64 n, .bool (num? l).isSome]) ∧ ∀ v, num? l = some v → n = v
theorem numR_no {l : List UInt8} (h : num? l = none) (n : Int) : numR l (.returned (.tuple #[.int .i64 n, .bool false])) := ⟨n, by rw [h]; rfl, fun v hv => by rw [h] at hv; cases hv⟩
theorem numR_yes {l : List UInt8} {n : Int} (h : num? l = some n) : numR l (.returned (.tuple #[.int .i64 n, .bool true])) := ⟨n, by rw [h]; rfl, fun v hv => by rw [h] at hv; injection hv⟩

set_option maxRecDepth 100000 in
set_option maxHeartbeats 1600000 in
theorem l5Number_any (s : ByteArray) (w : World) (hs : s.size ≤ 1048576) :
    Calls Tryz.prog 23 #[.string s] w fun e w' => numR (bl s) e ∧ Below w.heap.size w w' := by
  by_cases h1 : s.size < 1
  · have h1' : (s.size : Int) < 1 := by omega
    have N : Hid (num? (bl s) = none) := hid (by cases hx : num? (bl s) with | none => rfl | some v => have := num_len hx; rw [bl_len] at this; omega)
    clear h1
    go_enter Tryz.func23, Tryz.ntmps23
    go_wp2
    go_ret2
    exact ⟨numR_no N.out _, Below.refl _ _⟩
  · by_cases h20 : 20 < s.size
    · have h20' : (20 : Int) < (s.size : Int) := by omega
      have h1' : ¬ (s.size : Int) < 1 := by omega
      have N : Hid (num? (bl s) = none) := hid (by cases hx : num? (bl s) with | none => rfl | some v => have := num_len hx; rw [bl_len] at this; omega)
      clear h1 h20
      go_enter Tryz.func23, Tryz.ntmps23
      go_wp2
      go_ret2
      exact ⟨numR_no N.out _, Below.refl _ _⟩
    · have h1' : ¬ (s.size : Int) < 1 := by omega
      have h20' : ¬ (20 : Int) < (s.size : Int) := by omega
      have hp : 0 < s.size := by omega
      have L := hid (bl_len s)
      have G := hid (fun k (h : k < s.size) => bl_get s k h)
      go_enter Tryz.func23, Tryz.ntmps23
      go_wp2
      go_loop [4, 5] (fun n i => ∃ (k : Nat), k ≤ s.size ∧ i = .int .i64 k ∧ n = .int .i64 (numW (bl s) k)) (fun _ i => s.size - (intOf i).toNat)
      case atStart => exact ⟨0, Nat.zero_le _, rfl, by unfold numW; simp⟩
      case round =>
        obtain ⟨k, hk, rfl, rfl⟩ := hrel
        by_cases hlt : k < s.size
        · have hlt' : (k : Int) < (s.size : Int) := by omega
          have hL : k < (bl s).length := by rw [L.out]; exact hlt
          have HL := hid hL
          have gk := hid (G.out k hlt)
          have g0 := hid (G.out 0 hp)
          have NO : Hid ((¬ k = 0 ∨ ¬ s[k] = 45) → (s[k].toNat < 48 ∨ 57 < s[k].toNat) → num? (bl s) = none) := hid (by
            intro a b
            cases hx : num? (bl s) with
            | none => rfl
            | some v =>
              have := num_digits hx k hL
              rw [gk.out] at this
              rcases this with ⟨e1, e2⟩ | ⟨e1, e2⟩
              · rcases a with a | a
                · exact absurd e1 a
                · exact absurd e2 a
              · omega)
          clear hL
          by_cases hm : s[k] = 45
          · have hm' : (s[k].toNat : Int) = 45 := by rw [hm]; rfl
            by_cases h0 : k = 0
            · have h0' : (k : Int) < 1 := by omega
              have E : Hid (numW (bl s) (k + 1) = numW (bl s) k) := hid (by subst h0; exact numW_sign (bl s) HL.out (by rw [g0.out]; exact hm))
              clear hm h0
              go_wp2
              go_round
              case rel => exact ⟨k + 1, by omega, by go_num, by rw [E.out]⟩
              case measure => simp [intOf]; omega
            · have h0' : ((k : Int) == 0) = false := by simp; omega
              have hm3 : (s[k].toNat : Int) < 48 := by rw [hm]; decide
              have N := hid (NO.out (.inl h0) (.inl (by omega)))
              clear hm h0
              go_wp2
              go_ret2
              exact ⟨numR_no N.out _, Below.refl _ _⟩
          · have hm' : ((s[k].toNat : Int) == 45) = false := by simp; intro h; exact hm (UInt8.toNat_inj.1 (by have : (45 : UInt8).toNat = 45 := rfl; omega))
            by_cases hd : s[k].toNat < 48
            · have hd' : (s[k].toNat : Int) < 48 := by omega
              have N := hid (NO.out (.inr hm) (.inl hd))
              clear hm hd
              go_wp2
              go_ret2
              exact ⟨numR_no N.out _, Below.refl _ _⟩
            · by_cases hd2 : 57 < s[k].toNat
              · have hd' : ¬ (s[k].toNat : Int) < 48 := by omega
                have hd3 : (57 : Int) < (s[k].toNat : Int) := by omega
                have N := hid (NO.out (.inr hm) (.inr hd2))
                clear hm hd hd2
                go_wp2
                go_ret2
                exact ⟨numR_no N.out _, Below.refl _ _⟩
              · have hd' : ¬ (s[k].toNat : Int) < 48 := by omega
                have hd3 : ¬ (57 : Int) < (s[k].toNat : Int) := by omega
                have hd4 : (48 : Int) ≤ (s[k].toNat : Int) := by omega
                have hd5 : (s[k].toNat : Int) ≤ 57 := by omega
                by_cases hz : s[0] = 45
                · have hz' : ((s[0].toNat : Int) == 45) = true := by rw [hz]; rfl
                  have E := hid (numW_neg (bl s) k HL.out (by rw [g0.out]; exact hz) (by rw [gk.out]; exact hm))
                  rw [gk.out] at E
                  obtain ⟨N0, hN0⟩ : ∃ z, z = numW (bl s) k := ⟨_, rfl⟩
                  rw [← hN0] at E ⊢
                  clear hm hd hd2 hz hN0
                  go_wp2
                  go_round
                  case rel => exact ⟨k + 1, by omega, by go_num, by rw [E.out]⟩
                  case measure => simp [intOf]; omega
                · have hz' : ((s[0].toNat : Int) == 45) = false := by simp; intro h; exact hz (UInt8.toNat_inj.1 (by have : (45 : UInt8).toNat = 45 := rfl; omega))
                  have E := hid (numW_pos (bl s) k HL.out (by rw [g0.out]; exact hz))
                  rw [gk.out] at E
                  obtain ⟨N0, hN0⟩ : ∃ z, z = numW (bl s) k := ⟨_, rfl⟩
                  rw [← hN0] at E ⊢
                  clear hm hd hd2 hz hN0
                  go_wp2
                  go_round
                  case rel => exact ⟨k + 1, by omega, by go_num, by rw [E.out]⟩
                  case measure => simp [intOf]; omega
        · have ek : k = s.size := by omega
          subst ek
          have NB := numW_I64 (bl s) s.size
          have NI := hid (num_is (bl s))
          rw [L.out] at NI
          obtain ⟨N0, hN0⟩ : ∃ z, z = numW (bl s) s.size := ⟨_, rfl⟩
          rw [← hN0] at NI NB ⊢
          have C := hid (l5Dec_any N0 w NB.1 NB.2)
          obtain ⟨t, ht⟩ : ∃ t : ByteArray, t = ⟨(Lib.itoa N0).toArray⟩ := ⟨_, rfl⟩
          have TE : Hid ((Lib.itoa N0 = bl s) ↔ t = s) := hid (by
            rw [ht]
            constructor
            · intro h; rw [h]
            · intro h; rw [← h])
          have C' : Hid (Calls Tryz.prog 38 #[.int .i64 N0] w fun e w' => e = .returned (.string t) ∧ Below w.heap.size w w') := hid (by rw [ht]; exact C.out)
          clear C hN0 ht
          by_cases hts : t = s
          · have Y : Hid (num? (bl s) = some N0) := hid (by rw [NI.out, if_pos (TE.out.2 hts)])
            subst hts
            go_wp2_with (go_at_call 38; refine C'.out.mono ?_; rintro e w1 ⟨rfl, hb1⟩; have B1 := hid hb1; clear hb1)
            go_ret2
            exact ⟨by simpa using numR_yes Y.out, B1.out⟩
          · have Y : Hid (num? (bl s) = none) := hid (by rw [NI.out, if_neg (fun e => hts (TE.out.1 e))])
            have hts' := str_ne hts
            clear hts
            go_wp2_with (go_at_call 38; refine C'.out.mono ?_; rintro e w1 ⟨rfl, hb1⟩; have B1 := hid hb1; clear hb1)
            go_ret2
            exact ⟨by simpa [hts'] using numR_no Y.out _, B1.out⟩
end Go.Proofs.YtbcjlpjohknljaaGreatDoor
namespace Go.Proofs.YtbcjlpjohknljaaGreatDoor
open Go.RowKit Go.Sort
set_option linter.unusedVariables false
attribute [local go_sem ↓] Go.wp_at_zero Go.wp_at_succ

theorem addr_plus (b off i : Nat) : (⟨b, off, none⟩ : Addr).add i = ⟨b, off + i, none⟩ := by
  by_cases h : i = 0
  · subst h; simp [Addr.add]
  · simp [Addr.add, h]
/-- A slice of texts as the walk is told of it. -/
def StrsOf (w : World) (ao : Option Addr) (n : Nat) (fs : List (List UInt8)) : Prop :=
  fs.length = n ∧ (0 < n → ∃ b off, ao = some ⟨b, off, none⟩ ∧ b < w.heap.size ∧ ∀ i, i < n → w.cell? ⟨b, off + i, none⟩ = some (tx (fs.getD i [])))
theorem StrsOf.below {w w' : World} {ao : Option Addr} {n : Nat} {fs : List (List UInt8)} (h : StrsOf w ao n fs) (hb : Below w.heap.size w w') : StrsOf w' ao n fs :=
  ⟨h.1, fun hn => by
    obtain ⟨b, off, e, hlt, hc⟩ := h.2 hn
    exact ⟨b, off, e, Nat.lt_of_lt_of_le hlt hb.size, fun i hi => (hb.cell (p := ⟨b, off + i, none⟩) hlt).trans (hc i hi)⟩⟩
theorem TxRow.strs {w : World} {B n cap : Nat} {ao : Option Addr} {fs : List (List UInt8)} (h : TxRow w B (.slice ao n cap) fs) : StrsOf w ao n fs ∧ n ≤ cap := by
  rcases h.2 with ⟨h0, h1⟩ | ⟨g, cap', cur, h1, h2, h3, h4⟩
  · simp only [Value.slice.injEq] at h0
    obtain ⟨rfl, rfl, rfl⟩ := h0
    exact ⟨⟨h1, fun h => absurd h (by omega)⟩, by omega⟩
  · simp only [Value.slice.injEq] at h1
    obtain ⟨rfl, rfl, rfl⟩ := h1
    refine ⟨⟨rfl, fun hn => ⟨g, 0, rfl, lt_of_block h3, fun i hi => ?_⟩⟩, h4.1⟩
    have := World.ownsRow.cells (g := g) h rfl i (tx (fs.getD i [])) (by simp [List.getD_eq_getElem?_getD, hi])
    rw [addr_plus] at this
    exact this
theorem StrsOf.one {w : World} {b off n : Nat} {fs : List (List UInt8)} (h : StrsOf w (some ⟨b, off, none⟩) (n + 1) fs) : w.cell? ⟨b, off, none⟩ = some (tx (fs.getD 0 [])) ∧ b < w.heap.size ∧ ∀ ao, (ao = some ⟨b, off + 1, none⟩ ∨ n = 0) → StrsOf w ao n fs.tail := by
  obtain ⟨b', off', e, hlt, hc⟩ := h.2 (by omega)
  simp only [Option.some.injEq, Addr.mk.injEq] at e
  obtain ⟨rfl, rfl, _⟩ := e
  refine ⟨by simpa using hc 0 (by omega), hlt, fun ao ha => ⟨by simp [h.1], fun hn => ?_⟩⟩
  rcases ha with rfl | ha
  · refine ⟨b, off + 1, rfl, hlt, fun i hi => ?_⟩
    have := hc (i + 1) (by omega)
    rw [show off + 1 + i = off + (i + 1) by omega, this]
    congr 2
    cases fs with
    | nil => have := h.1; simp at this
    | cons f r => simp
  · omega
/-- The place of a text in a list. -/
def placeN : List (List UInt8) → List UInt8 → Nat → Int
  | [], _, _ => -1
  | f :: r, x, k => if f = x then (k : Int) else placeN r x (k + 1)
theorem drop_getD_cons {fs : List (List UInt8)} {k : Nat} (h : k < fs.length) : fs.drop k = fs.getD k [] :: fs.drop (k + 1) := by
  rw [List.drop_eq_getElem_cons h]
  simp [List.getD_eq_getElem?_getD, h]
theorem ba_bl {x : List UInt8} {s : ByteArray} : (⟨x.toArray⟩ : ByteArray) = s ↔ x = bl s := by
  constructor
  · intro h; rw [← h]
  · intro h; rw [h]

set_option maxRecDepth 100000 in
set_option maxHeartbeats 1600000 in
theorem l5Place_any (ao : Option Addr) (n c : Nat) (fs : List (List UInt8)) (s : ByteArray) (w : World) (hn : n ≤ 1048576) (h : StrsOf w ao n fs) :
    Calls Tryz.prog 21 #[.slice ao n c, .string s] w fun e w' => e = .returned (.int .i64 (placeN fs (bl s) 0)) ∧ w' = w := by
  have hl := hid h.1
  go_enter Tryz.func21, Tryz.ntmps21
  go_wp2
  go_loop [9] (fun i => ∃ (k : Nat), k ≤ n ∧ i = .int .i64 k ∧ Hid (placeN fs (bl s) 0 = placeN (fs.drop k) (bl s) k)) (fun i => n - (intOf i).toNat)
  case atStart => exact ⟨0, Nat.zero_le _, rfl, hid (by simp)⟩
  case round =>
    obtain ⟨k, hk, rfl, hP⟩ := hrel
    by_cases hlt : k < n
    · have hlt' : (k : Int) < (n : Int) := by omega
      obtain ⟨b, off, rfl, hbl, hc⟩ := h.2 (by omega)
      have c1 := hc k hlt
      have E : Hid (placeN fs (bl s) 0 = if fs.getD k [] = bl s then (k : Int) else placeN (fs.drop (k + 1)) (bl s) (k + 1)) := hid (by rw [hP.out, drop_getD_cons (by rw [hl.out]; exact hlt)]; rfl)
      obtain ⟨x, hx⟩ : ∃ x, x = fs.getD k [] := ⟨_, rfl⟩
      rw [← hx] at c1 E
      obtain ⟨t, ht⟩ : ∃ t : ByteArray, t = ⟨x.toArray⟩ := ⟨_, rfl⟩
      have c1' : w.cell? ⟨b, off + k, none⟩ = some (.string t) := by rw [ht]; exact c1
      have TB : Hid (x = bl s ↔ t = s) := hid (by rw [ht]; exact ba_bl.symm)
      clear c1 hx ht hc h hP
      by_cases hts : t = s
      · rw [if_pos (TB.out.2 hts)] at E
        subst hts
        go_wp2
        go_ret
        exact ⟨ret_int E.out.symm, rfl⟩
      · rw [if_neg (fun e => hts (TB.out.1 e))] at E
        have hts' := str_ne hts
        clear hts
        go_wp2
        go_round
        case rel => exact ⟨k + 1, by omega, by go_num, E⟩
        case measure => simp [intOf]; omega
    · have ek : k = n := by omega
      subst ek
      rw [List.drop_of_length_le (by rw [hl.out]; omega)] at hP
      clear h
      go_wp2
      go_ret
      exact ⟨ret_int hP.out.symm, rfl⟩

/-- The numbers that fields are. -/
def nums : List (List UInt8) → Option (List Int)
  | [] => some []
  | f :: r => (num? f).bind fun a => (nums r).map fun l => a :: l
theorem nums_len : ∀ {fs : List (List UInt8)} {zs : List Int}, nums fs = some zs → zs.length = fs.length
  | [], zs, h => by simp [nums] at h; subst h; rfl
  | f :: r, zs, h => by
    simp only [nums, Option.bind_eq_some_iff, Option.map_eq_some_iff] at h
    obtain ⟨a, _, l, hl, rfl⟩ := h
    simp [nums_len hl]
theorem nums_snoc (f : List UInt8) (v : Int) (hv : num? f = some v) : ∀ {fs : List (List UInt8)} {zs : List Int}, nums fs = some zs → nums (fs ++ [f]) = some (zs ++ [v])
  | [], zs, h => by simp [nums] at h; subst h; simp [nums, hv]
  | g :: r, zs, h => by
    simp only [nums, Option.bind_eq_some_iff, Option.map_eq_some_iff] at h
    obtain ⟨a, ha, l, hl, rfl⟩ := h
    simp [nums, ha, nums_snoc f v hv hl]
theorem nums_no (f : List UInt8) (hv : num? f = none) (r : List (List UInt8)) : ∀ fs : List (List UInt8), nums (fs ++ f :: r) = none
  | [] => by simp [nums, hv]
  | g :: q => by
    have := nums_no f hv r q
    simp [nums, this]
/-- The first n of them. -/
def numsN (fs : List (List UInt8)) (n : Nat) : Option (List Int) := if n ≤ fs.length then nums (fs.take n) else none
abbrev IntRow (w : World) (B : Nat) (v : Value) (zs : List Int) : Prop := w.ownsRow B 3 1 v zs.length (zs.map (Value.int .i64))
theorem Tryz.infoI : (Tryz.prog.info? 3).map (fun i => (i.zero, i.size, i.bytes)) = some (some (.int .i64 0), 1, 8) := by kernel_rfl
theorem one_int (z : Int) : ∀ u ∈ [Value.int .i64 z], u.oneCell' = true := by intro u hu; simp at hu; subst hu; rfl
theorem take_snocF {fs : List (List UInt8)} {k : Nat} (h : k < fs.length) : fs.take (k + 1) = fs.take k ++ [fs.getD k []] := by
  rw [List.take_add_one]
  simp [List.getD_eq_getElem?_getD, h]

set_option maxRecDepth 100000 in
set_option maxHeartbeats 1600000 in
theorem l5Numbers_any (ao : Option Addr) (m c n : Nat) (fs : List (List UInt8)) (w : World) (hm : m ≤ 1048576) (hn : n ≤ 100) (hf : ∀ f ∈ fs, f.length ≤ 1048576) (h : StrsOf w ao m fs) :
    Calls Tryz.prog 19 #[.slice ao m c, .int .i64 n] w fun e w' => (∃ v, e = .returned (.tuple #[v, .bool (numsN fs n).isSome]) ∧ (∃ a l c, v = .slice a l c) ∧ ∀ zs, numsN fs n = some zs → IntRow w' w.heap.size v zs) ∧ Below w.heap.size w w' := by
  obtain ⟨i0, hi, hz0, hz1, hz2⟩ := info_parts Tryz.infoI
  have hl := hid h.1
  have H0 := hid h
  have HF := hid hf
  clear h hf
  go_enter Tryz.func19, Tryz.ntmps19
  go_wp2
  go_loopw [6, 7] (fun p i wr => ∃ (k : Nat) (zs : List Int), k ≤ n ∧ k ≤ m ∧ i = .int .i64 k ∧ Hid (nums (fs.take k) = some zs) ∧ Hid (IntRow wr w.heap.size p zs) ∧ Hid (Below w.heap.size w wr)) (fun _ i _ => n - (intOf i).toNat)
  case atStart => exact ⟨0, [], Nat.zero_le _, Nat.zero_le _, rfl, hid rfl, hid (World.ownsRow_lit w #[] 0 (Nat.le_refl _) (by decide) rfl), hid (below1 _ _)⟩
  case round =>
    obtain ⟨k, zs, hk, hkm, rfl, hZ, hR, hB⟩ := hrel
    obtain ⟨ao2, n2, cap2, rfl⟩ := row_form hR.out
    by_cases hlt : k < n
    · have hlt' : (k : Int) < (n : Int) := by omega
      by_cases hkm2 : k < m
      · have hkm3 : (k : Int) < (m : Int) := by omega
        obtain ⟨b, off, rfl, hbl, hc⟩ := (H0.out.below hB.out).2 (by omega)
        have c1 := hc k hkm2
        have hkf : k < fs.length := by rw [hl.out]; exact hkm2
        have hxl : (fs.getD k []).length ≤ 1048576 := HF.out _ (by simp [List.getD_eq_getElem?_getD, hkf])
        have TK := hid (take_snocF hkf)
        have DK : Hid (∀ (q : k < n), n ≤ fs.length → num? (fs.getD k []) = none → nums (fs.take n) = none) := hid (by
          intro q hq hv
          have e : fs.take n = fs.take k ++ fs.getD k [] :: (fs.take n).drop (k + 1) := by
            have h1 : (fs.take n).drop k = fs.getD k [] :: (fs.take n).drop (k + 1) := by
              rw [drop_getD_cons (by simp; omega)]
              congr 1
              simp [List.getD_eq_getElem?_getD, q]
            rw [← h1]
            conv => lhs; rw [← List.take_append_drop k (fs.take n)]
            rw [List.take_take, Nat.min_eq_left (by omega)]
          rw [e]
          exact nums_no _ hv _ _)
        obtain ⟨x, hx⟩ : ∃ x, x = fs.getD k [] := ⟨_, rfl⟩
        rw [← hx] at c1 TK DK hxl
        obtain ⟨t, ht⟩ : ∃ t : ByteArray, t = ⟨x.toArray⟩ := ⟨_, rfl⟩
        have c1' : wr.cell? ⟨b, off + k, none⟩ = some (.string t) := by rw [ht]; exact c1
        have hbt : x = bl t := ba_bl.1 ht.symm
        have hts : t.size ≤ 1048576 := by rw [← bl_len, ← hbt]; exact hxl
        have C := hid (l5Number_any t wr hts)
        rw [← hbt] at C
        cases hv : num? x with
        | none =>
          rw [hv] at DK
          have NO : Hid (numsN fs n = none) := hid (by
            unfold numsN
            split
            · rename_i hq; exact DK.out hlt hq rfl
            · rfl)
          have C2 : Hid (Calls Tryz.prog 23 #[.string t] wr fun e w' => (∃ z : Int, e = .returned (.tuple #[.int .i64 z, .bool false])) ∧ Below wr.heap.size wr w') := hid (C.out.mono (by
            rintro e w' ⟨⟨z, h1, _⟩, h2⟩
            exact ⟨⟨z, by rw [h1, hv]; rfl⟩, h2⟩))
          clear c1 hx ht hc hbt hts hxl C hv DK TK hkf
          go_wp2_with (go_at_call 23; refine C2.out.mono ?_; rintro e w1 ⟨⟨z, rfl⟩, hb1⟩; have B1 := hid hb1; clear hb1)
          go_ret2
          exact ⟨⟨_, by rw [NO.out]; rfl, ⟨_, _, _, rfl⟩, fun zs hz => by rw [NO.out] at hz; cases hz⟩, hB.out.trans (B1.out.mono hB.out.size)⟩
        | some v =>
          have Z2 : Hid (nums (fs.take (k + 1)) = some (zs ++ [v])) := hid (by rw [TK.out]; exact nums_snoc _ _ hv hZ.out)
          have ZL := hid (nums_len hZ.out)
          have C2 : Hid (Calls Tryz.prog 23 #[.string t] wr fun e w' => e = .returned (.tuple #[.int .i64 v, .bool true]) ∧ Below wr.heap.size wr w') := hid (C.out.mono (by
            rintro e w' ⟨⟨z, h1, h3⟩, h2⟩
            obtain rfl := h3 v hv
            exact ⟨by rw [h1, hv]; rfl, h2⟩))
          have HB : Hid (zs.length + 1 ≤ 1000) := hid (by have := ZL.out; simp at this; omega)
          clear c1 hx ht hc hbt hts hxl C hv DK TK hkf ZL
          go_wp2_with (first
            | (go_at_call 23; refine C2.out.mono ?_; rintro e w1 ⟨rfl, hb1⟩; have B1 := hid hb1; clear hb1)
            | (at_builtin; refine wpList_append_own _ rfl (.tmp 30) (.tmp 32) 46 rfl w.heap.size 3 i0 (.int .i64 0) 1 8 Tryz.underlying46 hi hz0 hz1 hz2 rfl (by decide) _ zs.length (zs.map (Value.int .i64)) rfl (ownsRow_below (ownsRow_below hR.out B1.out) (below1 _ _)) ⟨w1.heap.size, 0, none⟩ 1 1 [.int .i64 v] rfl rfl (news_one w1 _ _ rfl) (one_int v) (by have := HB.out; unfold maxLen; omega) (by have := HB.out; omega) (by have := hB.out.size; have := B1.out.size; simp; omega) ?_))
          intro v' w2 hown' hgrow hnil
          obtain ⟨ao3, n3, cap3, rfl⟩ := row_form hown'
          have T2 : Hid (IntRow w2 w.heap.size (.slice ao3 n3 cap3) (zs ++ [v])) := hid (by unfold IntRow; simpa using hown')
          have B2 := hid (below_grown (hB.out.trans (B1.out.mono hB.out.size)) (Nat.le_refl _) (ownsRow_below hR.out B1.out) hgrow)
          clear hown' hgrow hnil
          go_wp2
          go_roundw
          case rel => exact ⟨k + 1, zs ++ [v], hlt, by omega, by go_num, Z2, T2, B2⟩
          case measure => simp [intOf]; omega
      · have hkm3 : (m : Int) ≤ (k : Int) := by omega
        have NO : Hid (numsN fs n = none) := hid (by unfold numsN; rw [if_neg (by rw [hl.out]; omega)])
        go_wp2
        go_ret2
        exact ⟨⟨_, by rw [NO.out]; rfl, ⟨_, _, _, rfl⟩, fun zs hz => by rw [NO.out] at hz; cases hz⟩, hB.out⟩
    · have ek : k = n := by omega
      subst ek
      have YES : Hid (numsN fs k = some zs) := hid (by unfold numsN; rw [if_pos (by rw [hl.out]; omega)]; exact hZ.out)
      go_wp2
      go_ret2
      exact ⟨⟨_, by rw [YES.out]; rfl, ⟨_, _, _, rfl⟩, fun zs' hz => by rw [YES.out] at hz; injection hz with hz; subst hz; exact hR.out⟩, hB.out⟩
end Go.Proofs.YtbcjlpjohknljaaGreatDoor
