import Derived.Test.YtkcbomhhdfgihaaGreatK2
import Derived.Test.YtkcbomhhdfgihaaGreatK1b
import Derived.BigQuiet
import Derived.Deep.OwnRows
import Derived.Deep.QuietTactic
import Derived.Laws.EntriesVeiled
import Derived.Lib.QuietBelow
import Derived.WalkKit
import Derived.WalkLawsBesides
import Derived.WalkSpells
namespace Go.Proofs.YtkcbomhhdfgihaaGreat
open Go.RowKit
open Go.RowKit Go.Sort

/-- A number taken to its kind. -/
def conv (k v : Int) : Int :=
  if k = 1 then (v + 128) % 256 - 128 else if k = 2 then (v + 32768) % 65536 - 32768 else if k = 3 then (v + 2147483648) % 4294967296 - 2147483648
  else if k = 4 then v else if k = 5 then v % 256 else if k = 6 then v % 65536 else if k = 7 then v % 4294967296 else 0

/-- The function that takes a number to the kind. -/
def cfn (k : Int) : Nat := 102 + k.toNat

theorem wrap_i8 (v : Int) : IntKind.i8.wrap v = (v + 128) % 256 - 128 := by
  simp [IntKind.wrap, IntKind.bits, IntKind.signed]; omega

theorem wrap_i16 (v : Int) : IntKind.i16.wrap v = (v + 32768) % 65536 - 32768 := by
  simp [IntKind.wrap, IntKind.bits, IntKind.signed]; omega

theorem wrap_u16 (v : Int) : IntKind.u16.wrap v = v % 65536 := by
  simp [IntKind.wrap, IntKind.bits, IntKind.signed]

set_option maxHeartbeats 400000 in
theorem to_any (k v : Int) (w : World) (h1 : 1 ≤ k) (h7 : k ≤ 7) : Calls Tryz.prog (cfn k) #[.int .i64 v] w fun e w' => e = .returned (.int .i64 (conv k v)) ∧ w' = w := by
  have hk : k = 1 ∨ k = 2 ∨ k = 3 ∨ k = 4 ∨ k = 5 ∨ k = 6 ∨ k = 7 := by omega
  rcases hk with rfl | rfl | rfl | rfl | rfl | rfl | rfl
  · show Calls Tryz.prog 103 _ _ _
    go_enter Tryz.func103, Tryz.ntmps103
    go_wp2
    go_ret
    exact ⟨ret_int (by rw [wrap_i8]; simp only [wrap64, conv]; simp; omega), rfl⟩
  · show Calls Tryz.prog 104 _ _ _
    go_enter Tryz.func104, Tryz.ntmps104
    go_wp2
    go_ret
    exact ⟨ret_int (by rw [wrap_i16]; simp only [wrap64, conv]; simp; omega), rfl⟩
  · show Calls Tryz.prog 105 _ _ _
    go_enter Tryz.func105, Tryz.ntmps105
    go_wp2
    go_ret
    exact ⟨ret_int (by simp only [wrap32, wrap64, conv]; simp; omega), rfl⟩
  · show Calls Tryz.prog 106 _ _ _
    go_enter Tryz.func106, Tryz.ntmps106
    go_wp2
    go_ret
    exact ⟨ret_int (by simp [conv]), rfl⟩
  · show Calls Tryz.prog 107 _ _ _
    go_enter Tryz.func107, Tryz.ntmps107
    go_wp2
    go_ret
    exact ⟨ret_int (by simp [conv]), rfl⟩
  · show Calls Tryz.prog 108 _ _ _
    go_enter Tryz.func108, Tryz.ntmps108
    go_wp2
    go_ret
    exact ⟨ret_int (by rw [wrap_u16]; simp only [wrap64, conv]; simp; omega), rfl⟩
  · show Calls Tryz.prog 109 _ _ _
    go_enter Tryz.func109, Tryz.ntmps109
    go_wp2
    go_ret
    exact ⟨ret_int (by simp [conv]), rfl⟩

/-- Is it a kind? -/
def kOk (k : Int) : Bool := decide (1 ≤ k ∧ k ≤ 7)

set_option maxHeartbeats 400000 in
theorem kindOK_any (k : Int) (w : World) : Calls Tryz.prog 77 #[.int .i64 k] w fun e w' => e = .returned (.bool (kOk k)) ∧ w' = w := by
  by_cases h1 : 1 ≤ k <;> by_cases h7 : k ≤ 7
  all_goals
    go_enter Tryz.func77, Tryz.ntmps77
    go_wp2
    go_ret
    exact ⟨ret_bool (by simp [kOk]; omega), rfl⟩

set_option maxHeartbeats 400000 in
theorem converterOf_any (k : Int) (w : World) (h1 : 1 ≤ k) (h7 : k ≤ 7) : Calls Tryz.prog 78 #[.int .i64 k] w fun e w' => e = .returned (.func (.func (cfn k)) #[] #[]) ∧ Below w.heap.size w w' := by
  have hk : k = 1 ∨ k = 2 ∨ k = 3 ∨ k = 4 ∨ k = 5 ∨ k = 6 ∨ k = 7 := by omega
  rcases hk with rfl | rfl | rfl | rfl | rfl | rfl | rfl
  all_goals
    go_enter Tryz.func78, Tryz.ntmps78
    go_wp2
    go_ret
    exact ⟨rfl, (Below.refl _ _).alloc (Nat.le_refl _) _⟩

set_option maxHeartbeats 400000 in
theorem l1Pow_any (n : Nat) (w : World) (hn : n ≤ 62) : Calls Tryz.prog 75 #[.int .i64 n] w fun e w' => e = .returned (.int .i64 ((2 : Int) ^ n)) ∧ w' = w := by
  go_enter Tryz.func75, Tryz.ntmps75
  go_wp2
  go_loop [3, 4] (fun p i => ∃ k : Nat, k ≤ n ∧ i = .int .i64 k ∧ p = .int .i64 ((2 : Int) ^ k)) (fun _ i => n - (intOf i).toNat)
  case atStart => exact ⟨0, Nat.zero_le _, rfl, rfl⟩
  case round =>
    obtain ⟨k, hk, rfl, rfl⟩ := hrel
    by_cases hlt : k < n
    · have hp : (2 : Int) ^ k ≤ 2 ^ 61 := by exact_mod_cast Nat.pow_le_pow_right (n := 2) (by omega) (show k ≤ 61 by omega)
      have hp0 : (0 : Int) < 2 ^ k := Int.pow_pos (by omega)
      have hs : Hid ((2 : Int) ^ (k + 1) = 2 ^ k * 2) := Int.pow_succ 2 k
      generalize hP : (2 : Int) ^ k = P at hp hp0 hs ⊢
      have HP : Hid ((2 : Int) ^ k = P) := hP
      clear hP
      simp at hp
      go_wp2
      go_round
      case rel => exact ⟨k + 1, by omega, by go_num, by rw [hs.out]⟩
      case measure => simp [intOf]; omega
    · have e : k = n := by omega
      subst e
      go_wp2
      go_ret
      exact ⟨rfl, rfl⟩

theorem tmod_256 (v : Int) : v.tmod 256 = if 0 ≤ v then v % 256 else -((-v) % 256) := by
  split
  · rw [Int.tmod_eq_emod_of_nonneg (by omega)]
  · rw [show v = -(-v) by omega, Int.neg_tmod, Int.tmod_eq_emod_of_nonneg (by omega)]; omega

theorem tmod_65536 (v : Int) : v.tmod 65536 = if 0 ≤ v then v % 65536 else -((-v) % 65536) := by
  split
  · rw [Int.tmod_eq_emod_of_nonneg (by omega)]
  · rw [show v = -(-v) by omega, Int.neg_tmod, Int.tmod_eq_emod_of_nonneg (by omega)]; omega

theorem tmod_32 (v : Int) : v.tmod 4294967296 = if 0 ≤ v then v % 4294967296 else -((-v) % 4294967296) := by
  split
  · rw [Int.tmod_eq_emod_of_nonneg (by omega)]
  · rw [show v = -(-v) by omega, Int.neg_tmod, Int.tmod_eq_emod_of_nonneg (by omega)]; omega

set_option maxHeartbeats 800000 in
theorem l1Conv_any (k v : Int) (w : World) (h1 : 1 ≤ k) (h7 : k ≤ 7) : Calls Tryz.prog 54 #[.int .i64 k, .int .i64 v] w fun e w' => e = .returned (.int .i64 (conv k v)) ∧ Below w.heap.size w w' := by
  have hk : k = 1 ∨ k = 2 ∨ k = 3 ∨ k = 4 ∨ k = 5 ∨ k = 6 ∨ k = 7 := by omega
  rcases hk with rfl | rfl | rfl | rfl | rfl | rfl | rfl
  · go_enter Tryz.func54, Tryz.ntmps54
    go_wp2_with (go_at_call 75; refine (l1Pow_any 8 _ (by omega)).mono ?_; rintro e w' ⟨rfl, rfl⟩)
    all_goals
      go_ret
      exact ⟨ret_int (by have e := tmod_256 v; generalize v.tmod 256 = r at *; (try simp only [wrap64] at *); simp [conv]; split at e <;> omega), (Below.refl _ _).alloc (Nat.le_refl _) _⟩
  · go_enter Tryz.func54, Tryz.ntmps54
    go_wp2_with (go_at_call 75; refine (l1Pow_any 16 _ (by omega)).mono ?_; rintro e w' ⟨rfl, rfl⟩)
    all_goals
      go_ret
      exact ⟨ret_int (by have e := tmod_65536 v; generalize v.tmod 65536 = r at *; (try simp only [wrap64] at *); simp [conv]; split at e <;> omega), (Below.refl _ _).alloc (Nat.le_refl _) _⟩
  · go_enter Tryz.func54, Tryz.ntmps54
    go_wp2_with (go_at_call 75; refine (l1Pow_any 32 _ (by omega)).mono ?_; rintro e w' ⟨rfl, rfl⟩)
    all_goals
      go_ret
      exact ⟨ret_int (by have e := tmod_32 v; generalize v.tmod 4294967296 = r at *; (try simp only [wrap64] at *); simp [conv]; split at e <;> omega), (Below.refl _ _).alloc (Nat.le_refl _) _⟩
  · go_enter Tryz.func54, Tryz.ntmps54
    go_wp2_with fail
    go_ret
    exact ⟨ret_int (by simp [conv]), Below.refl _ _⟩
  · go_enter Tryz.func54, Tryz.ntmps54
    go_wp2_with (go_at_call 75; refine (l1Pow_any 8 _ (by omega)).mono ?_; rintro e w' ⟨rfl, rfl⟩)
    all_goals
      go_ret
      exact ⟨ret_int (by have e := tmod_256 v; generalize v.tmod 256 = r at *; (try simp only [wrap64] at *); simp [conv]; split at e <;> omega), (Below.refl _ _).alloc (Nat.le_refl _) _⟩
  · go_enter Tryz.func54, Tryz.ntmps54
    go_wp2_with (go_at_call 75; refine (l1Pow_any 16 _ (by omega)).mono ?_; rintro e w' ⟨rfl, rfl⟩)
    all_goals
      go_ret
      exact ⟨ret_int (by have e := tmod_65536 v; generalize v.tmod 65536 = r at *; (try simp only [wrap64] at *); simp [conv]; split at e <;> omega), (Below.refl _ _).alloc (Nat.le_refl _) _⟩
  · go_enter Tryz.func54, Tryz.ntmps54
    go_wp2_with (go_at_call 75; refine (l1Pow_any 32 _ (by omega)).mono ?_; rintro e w' ⟨rfl, rfl⟩)
    all_goals
      go_ret
      exact ⟨ret_int (by have e := tmod_32 v; generalize v.tmod 4294967296 = r at *; (try simp only [wrap64] at *); simp [conv]; split at e <;> omega), (Below.refl _ _).alloc (Nat.le_refl _) _⟩

/-- How many operands an operation takes. -/
def arity (op : Int) : Nat := if op ≤ 3 then 0 else if op = 13 ∨ op = 19 then 1 else 2

theorem arity_le (op : Int) : arity op ≤ 2 := by unfold arity; split <;> (try split) <;> omega

def opAt (its : List (Int × Int)) (e : Nat) : Int := (its.getD e (0, 0)).1

def beg (its : List (Int × Int)) : Nat → Nat → Int
  | 0, _ => -1
  | _ + 1, 0 => -1
  | f + 1, e + 1 => match arity (opAt its e) with
    | 0 => e
    | 1 => beg its f e
    | _ => if beg its f e < 0 then -1 else beg its f (beg its f e).toNat

theorem beg_zero (its : List (Int × Int)) (f : Nat) : beg its f 0 = -1 := by cases f <;> rfl

theorem beg_bd (its : List (Int × Int)) : ∀ f e, e ≤ f → -1 ≤ beg its f e ∧ beg its f e < e := by
  intro f
  induction f with
  | zero => intro e h; rw [show e = 0 by omega, beg_zero]; omega
  | succ f ih =>
    intro e h
    match e with
    | 0 => rw [beg_zero]; omega
    | e + 1 =>
      simp only [beg]
      split
      · omega
      · have := ih e (by omega); omega
      · have := ih e (by omega)
        split
        · omega
        · have h2 := ih (beg its f e).toNat (by omega); omega

theorem beg_fuel (its : List (Int × Int)) : ∀ f g e, e ≤ f → e ≤ g → beg its f e = beg its g e := by
  intro f
  induction f with
  | zero => intro g e h _; rw [show e = 0 by omega, beg_zero, beg_zero]
  | succ f ih =>
    intro g e h hg
    match e, g with
    | 0, _ => rw [beg_zero, beg_zero]
    | e + 1, g + 1 =>
      have h1 := ih g e (by omega) (by omega)
      have hb := beg_bd its f e (by omega)
      simp only [beg, ← h1]
      split
      · rfl
      · rfl
      · split
        · rfl
        · exact ih g _ (by omega) (by omega)

/-- Where the operand that ends ahead of e begins; -1 if it isn't all there. -/
def bgn (its : List (Int × Int)) (e : Nat) : Int := beg its e e

theorem bgn_bd (its : List (Int × Int)) (e : Nat) : -1 ≤ bgn its e ∧ bgn its e < e := beg_bd its e e (Nat.le_refl _)

theorem bgn_zero (its : List (Int × Int)) : bgn its 0 = -1 := rfl

theorem bgn_ar0 (its : List (Int × Int)) (e : Nat) (h : arity (opAt its e) = 0) : bgn its (e + 1) = e := by simp only [bgn, beg, h]

theorem bgn_ar1 (its : List (Int × Int)) (e : Nat) (h : arity (opAt its e) = 1) : bgn its (e + 1) = bgn its e := by simp only [bgn, beg, h]

theorem bgn_ar2 (its : List (Int × Int)) (e : Nat) (h : arity (opAt its e) = 2) : bgn its (e + 1) = if bgn its e < 0 then -1 else bgn its (bgn its e).toNat := by
  have hb := bgn_bd its e
  unfold bgn at hb ⊢
  simp only [beg, h]
  by_cases hlt : beg its e e < 0
  · simp only [hlt, if_true]
  · simp only [hlt, if_false]
    exact beg_fuel its _ _ _ (by omega) (Nat.le_refl _)

set_option maxHeartbeats 400000 in
theorem l1Arity_any (op : Int) (w : World) : Calls Tryz.prog 113 #[.int .i64 op] w fun e w' => e = .returned (.int .i64 (arity op)) ∧ w' = w := by
  by_cases h3 : op ≤ 3
  · go_enter Tryz.func113, Tryz.ntmps113
    go_wp2
    go_ret
    exact ⟨ret_int (by simp [arity, h3]), rfl⟩
  · by_cases h13 : op = 13
    · subst h13
      go_enter Tryz.func113, Tryz.ntmps113
      go_wp2
      go_ret
      exact ⟨ret_int (by simp [arity]), rfl⟩
    · by_cases h19 : op = 19
      · subst h19
        go_enter Tryz.func113, Tryz.ntmps113
        go_wp2
        go_ret
        exact ⟨ret_int (by simp [arity]), rfl⟩
      · have e1 : (op == 13) = false := by simpa using h13
        have e2 : (op == 19) = false := by simpa using h19
        have H := hid (show arity op = 2 by simp [arity, h3, h13, h19])
        clear h13 h19
        go_enter Tryz.func113, Tryz.ntmps113
        go_wp2
        go_ret
        exact ⟨ret_int (by rw [H.out]; rfl), rfl⟩

/-- The place behind j of the operands of the item at e, gone through from the right. -/
def placeAt (its : List (Int × Int)) (e : Nat) : Nat → Int
  | 0 => e
  | j + 1 => if placeAt its e j < 0 then -1 else bgn its (placeAt its e j).toNat

theorem place_end (its : List (Int × Int)) (e j : Nat) (ha : arity (opAt its e) = j) (hj : j ≤ 2) : bgn its (e + 1) = placeAt its e j := by
  have h : j = 0 ∨ j = 1 ∨ j = 2 := by omega
  rcases h with rfl | rfl | rfl
  · rw [bgn_ar0 _ _ ha]; rfl
  · rw [bgn_ar1 _ _ ha]; simp [placeAt]; omega
  · rw [bgn_ar2 _ _ ha]
    have e1 : placeAt its e 1 = bgn its e := by simp [placeAt]; omega
    show _ = if placeAt its e 1 < 0 then -1 else bgn its (placeAt its e 1).toNat
    rw [e1]

theorem place_fall (its : List (Int × Int)) (e : Nat) : ∀ j, j + 1 ≤ 2 → arity (opAt its e) = 2 ∨ arity (opAt its e) = j + 1 → placeAt its e (j + 1) < 0 → bgn its (e + 1) = -1 := by
  intro j hj ha hp
  have hb := bgn_bd its (e + 1)
  have h : j = 0 ∨ j = 1 := by omega
  rcases h with rfl | rfl
  · rcases ha with ha | ha
    · have e1 : placeAt its e 1 = bgn its e := by simp [placeAt]; omega
      rw [bgn_ar2 _ _ ha, if_pos (by rw [← e1]; exact hp)]
    · have hp' : placeAt its e 1 < 0 := hp
      have ha' : arity (opAt its e) = 1 := ha
      rw [place_end its e 1 ha' (by omega)] at hb ⊢; omega
  · have ha2 : arity (opAt its e) = 2 := by rcases ha with h | h <;> exact h
    rw [place_end its e 2 ha2 (by omega)] at hb ⊢
    have : (placeAt its e (1 + 1) : Int) = placeAt its e 2 := rfl
    omega

set_option maxHeartbeats 1000000 in
theorem l1Begin_any (ao : Option Addr) (n c : Nat) (its : List (Int × Int)) (hn : n ≤ 1048576) : ∀ (e : Nat) (w : World), e ≤ n → ItemsOf w ao n its →
    Calls Tryz.prog 89 #[.slice ao n c, .int .i64 e] w fun r w' => r = .returned (.int .i64 (bgn its e)) ∧ w' = w := by
  intro e
  induction e using Nat.strongRecOn with
  | ind e ih =>
    intro w he hs
    match e with
    | 0 =>
      go_enter Tryz.func89, Tryz.ntmps89
      go_wp2
      go_ret
      exact ⟨ret_int rfl, rfl⟩
    | e + 1 =>
      obtain ⟨b, off, rfl, hbl, hc⟩ := hs.2 (by omega)
      have h0 := (hc e (by omega)).1
      obtain ⟨op, eo⟩ : ∃ op, op = opAt its e := ⟨_, rfl⟩
      have h1 : w.cell? ⟨b, off + e * 2, none⟩ = some (.int .i64 op) := by rw [eo]; exact h0
      obtain ⟨ar, ea⟩ : ∃ ar, ar = arity op := ⟨_, rfl⟩
      have HA : ar ≤ 2 := by rw [ea]; exact arity_le op
      have IH : Hid (∀ e', e' < e + 1 → ∀ e0 : Int, e0 = e' → Calls Tryz.prog 89 #[.slice (some ⟨b, off, none⟩) n c, .int .i64 e0] w fun r w' => r = .returned (.int .i64 (bgn its e')) ∧ w' = w) := fun e' h e0 h0 => by subst h0; exact ih e' h w (by omega) hs
      have EO : Hid (ar = arity (opAt its e)) := hid (by rw [ea, eo])
      have h61 : Hid (∀ w, Calls Tryz.prog 113 #[.int .i64 op] w fun e w' => e = .returned (.int .i64 ar) ∧ w' = w) := fun w => by rw [ea]; exact l1Arity_any op w
      clear hc eo ih hs h0 ea
      have hge : ¬ ((e + 1 : Nat) : Int) < 1 := by omega
      go_enter Tryz.func89, Tryz.ntmps89
      go_wp2_with (go_at_call 113; refine (h61.out _).mono ?_; rintro r w' ⟨rfl, hw⟩; obtain rfl := hw.symm)
      go_loop [5, 6] (fun at' k => ∃ j a : Nat, j ≤ ar ∧ placeAt its e j = a ∧ a ≤ e ∧ at' = .int .i64 a ∧ k = .int .i64 ((ar - j : Nat) : Int)) (fun _ k => (intOf k).toNat)
      case atStart => exact ⟨0, e, Nat.zero_le _, rfl, Nat.le_refl _, rfl, rfl⟩
      case round =>
        obtain ⟨j, a, hj, hp, hae, rfl, rfl⟩ := hrel
        have HP := hid hp
        clear hp
        by_cases hlt : j < ar
        · obtain ⟨k, hk⟩ : ∃ k : Nat, ar - j = k + 1 := ⟨ar - j - 1, by omega⟩
          rw [hk]
          have hk2 : k ≤ 1 := by omega
          have hbd := bgn_bd its a
          have hpl : placeAt its e (j + 1) = bgn its a := by
            show (if placeAt its e j < 0 then -1 else bgn its (placeAt its e j).toNat) = _
            rw [HP.out, if_neg (by omega)]; simp
          have HPL := hid hpl
          have HK := hid hk
          clear hpl hk
          obtain ⟨q, hq⟩ : ∃ q, q = bgn its a := ⟨_, rfl⟩
          have h37 : Hid (∀ e0 : Int, e0 = a → Calls Tryz.prog 89 #[.slice (some ⟨b, off, none⟩) n c, .int .i64 e0] w fun r w' => r = .returned (.int .i64 q) ∧ w' = w) := fun e0 h0 => by rw [hq]; exact IH.out a (by omega) e0 h0
          rw [← hq] at hbd
          have HQ := hid hq
          clear hq
          by_cases hneg : q < 0
          · have HF : Hid (bgn its (e + 1) = -1) := place_fall its e j (by omega) (by rw [← EO.out]; omega) (by rw [HPL.out, ← HQ.out]; exact hneg)
            go_wp2_with (go_at_call 89; refine (h37.out _ rfl).mono ?_; rintro r w' ⟨rfl, hw⟩; obtain rfl := hw.symm)
            go_ret
            exact ⟨ret_int HF.out.symm, rfl⟩
          · go_wp2_with (go_at_call 89; refine (h37.out _ rfl).mono ?_; rintro r w' ⟨rfl, hw⟩; obtain rfl := hw.symm)
            go_round
            case rel => exact ⟨j + 1, q.toNat, by omega, by rw [HPL.out, ← HQ.out]; omega, by omega, by go_num, by have := HK.out; go_num⟩
            case measure => simp [intOf]
        · have hj2 : j = ar := by omega
          have HF : Hid (bgn its (e + 1) = a) := hid (by rw [place_end its e j (by rw [← EO.out]; exact hj2.symm) (by omega)]; exact HP.out)
          have h0 : ar - j = 0 := by omega
          rw [h0]
          go_wp2
          go_ret
          exact ⟨ret_int HF.out.symm, rfl⟩

/-- Is the item right by itself? -/
def itemB (vars op val : Int) : Bool :=
  if op = 1 then decide (-999999999 ≤ val ∧ val ≤ 999999999) else if op = 2 then decide (0 ≤ val ∧ val ≤ vars - 1) else if op = 19 then decide (1 ≤ val ∧ val ≤ 7) else decide (1 ≤ op ∧ op ≤ 19 ∧ val = 0)

set_option maxHeartbeats 800000 in
theorem l1ItemOK_any (vars op val : Int) (w : World) (hv0 : 0 ≤ vars) (hv : vars ≤ 32) : Calls Tryz.prog 88 #[.agg #[.int .i64 op, .int .i64 val], .int .i64 vars] w fun e w' => e = .returned (.bool (itemB vars op val)) ∧ Below w.heap.size w w' := by
  by_cases hop : 1 ≤ op ∧ op ≤ 19
  · have ht : betB op 1 19 = true := by simp [betB]; omega
    have c := l1Between_of op 1 19 true ht.symm
    have C := hid c
    clear c ht
    by_cases h1 : op = 1
    · subst h1
      have R := hid (l1Between_any val (-999999999) 999999999)
      go_enter Tryz.func88, Tryz.ntmps88
      go_wp2_with (first | (go_at_call_of 17 (Value.int .i64 (19 : Int)); refine (C.out _).mono ?_; rintro r w' ⟨rfl, rfl⟩) | (go_at_call 17; refine (R.out _).mono ?_; rintro r w' ⟨rfl, rfl⟩))
      go_ret
      exact ⟨ret_bool (by simp [itemB, betB]), below1 _ _⟩
    · by_cases h2 : op = 2
      · subst h2
        have R := hid (l1Between_any val 0 (vars - 1))
        go_enter Tryz.func88, Tryz.ntmps88
        go_wp2_with (first | (go_at_call_of 17 (Value.int .i64 (19 : Int)); refine (C.out _).mono ?_; rintro r w' ⟨rfl, rfl⟩) | (go_at_call 17; refine (R.out _).mono ?_; rintro r w' ⟨rfl, rfl⟩))
        go_ret
        exact ⟨ret_bool (by simp [itemB, betB]), below1 _ _⟩
      · by_cases h19 : op = 19
        · subst h19
          have R := hid (l1Between_any val 1 7)
          go_enter Tryz.func88, Tryz.ntmps88
          go_wp2_with (first | (go_at_call_of 17 (Value.int .i64 (7 : Int)); refine (R.out _).mono ?_; rintro r w' ⟨rfl, rfl⟩) | (go_at_call 17; refine (C.out _).mono ?_; rintro r w' ⟨rfl, rfl⟩))
          go_ret
          exact ⟨ret_bool (by simp [itemB, betB]), below1 _ _⟩
        · have e1 : (op == 1) = false := by simpa using h1
          have e2 : (op == 2) = false := by simpa using h2
          have e3 : (op == 19) = false := by simpa using h19
          have H : Hid (itemB vars op val = (val == 0)) := hid (by rw [Bool.eq_iff_iff]; simp [itemB, h1, h2, h19]; omega)
          clear h1 h2 h19
          go_enter Tryz.func88, Tryz.ntmps88
          go_wp2_with (go_at_call 17; refine (C.out _).mono ?_; rintro r w' ⟨rfl, rfl⟩)
          go_ret
          exact ⟨ret_bool H.out.symm, below1 _ _⟩
  · have ht : betB op 1 19 = false := by simp [betB]; omega
    have C := hid (l1Between_of op 1 19 false ht.symm)
    have H : Hid (itemB vars op val = false) := hid (by simp [itemB, show op ≠ 1 by omega, show op ≠ 2 by omega, show op ≠ 19 by omega]; omega)
    clear ht
    go_enter Tryz.func88, Tryz.ntmps88
    go_wp2_with (go_at_call 17; refine (C.out _).mono ?_; rintro r w' ⟨rfl, rfl⟩)
    go_ret
    exact ⟨ret_bool H.out.symm, below1 _ _⟩

abbrev itemsP (its : List (Int × Int)) (vars : Int) (k : Nat) : Prop := ∀ i, i < k → itemB vars (its.getD i (0, 0)).1 (its.getD i (0, 0)).2 = true

/-- Is it an expression? -/
def codeB (its : List (Int × Int)) (vars : Int) : Bool := decide ((0 ≤ vars ∧ vars ≤ 32) ∧ (1 ≤ its.length ∧ its.length ≤ 200) ∧ itemsP its vars its.length ∧ bgn its its.length = 0)

set_option maxHeartbeats 800000 in
theorem specCodeOK_any (ao : Option Addr) (n c : Nat) (its : List (Int × Int)) (vars : Int) (w : World) (hn : n ≤ 9223372036854775807) (hs : ItemsOf w ao n its) :
    Calls Tryz.prog 64 #[.slice ao n c, .int .i64 vars] w fun e w' => e = .returned (.bool (codeB its vars)) ∧ Below w.heap.size w w' := by
  by_cases hv : 0 ≤ vars ∧ vars ≤ 32
  · have C1 := hid (l1Between_of vars 0 32 true (by simp [betB]; omega))
    by_cases hl : 1 ≤ n ∧ n ≤ 200
    · have C2 := hid (l1Between_of n 1 200 true (by simp [betB]; omega))
      obtain ⟨hv1, hv2⟩ := hv
      obtain ⟨hl1, hl2⟩ := hl
      have HL := hid hs.1
      have HB37 : Hid (∀ w', Below w.heap.size w w' → Calls Tryz.prog 89 #[.slice ao n c, .int .i64 n] w' fun r w'' => r = .returned (.int .i64 (bgn its n)) ∧ w'' = w') := fun w' hb => l1Begin_any ao n c its (by omega) n w' (Nat.le_refl _) (hs.below hb)
      go_enter Tryz.func64, Tryz.ntmps64
      go_wp2_with (first | (go_at_call_of 17 (Value.int .i64 (32 : Int)); refine (C1.out _).mono ?_; rintro r w' ⟨rfl, hw⟩; obtain rfl := hw.symm) | (go_at_call_of 17 (Value.int .i64 (200 : Int)); refine (C2.out _).mono ?_; rintro r w' ⟨rfl, hw⟩; obtain rfl := hw.symm))
      go_loopw [18] (fun i wr => ∃ k : Nat, k ≤ n ∧ i = .int .i64 k ∧ itemsP its vars k ∧ Below w.heap.size w wr) (fun i _ => n - (intOf i).toNat)
      case atStart => exact ⟨0, Nat.zero_le _, rfl, fun i h => absurd h (by omega), Below.refl _ _⟩
      case round =>
        obtain ⟨k, hk, rfl, hp, hb⟩ := hrel
        have HP := hid hp
        have HB := hid hb
        have hsz := hb.size
        clear hp
        by_cases hlt : k < n
        · obtain ⟨b, off, rfl, hbl, hc⟩ := hs.2 (by omega)
          obtain ⟨x, ex⟩ : ∃ x, x = its.getD k (0, 0) := ⟨_, rfl⟩
          obtain ⟨x1, x2⟩ := x
          have k1 : wr.cell? ⟨b, off + k * 2, none⟩ = some (.int .i64 x1) := (hb.cell (p := ⟨b, off + k * 2, none⟩) hbl).trans (by rw [(hc k hlt).1, ← ex])
          have k2 : wr.cell? ⟨b, off + k * 2 + 1, none⟩ = some (.int .i64 x2) := (hb.cell (p := ⟨b, off + k * 2 + 1, none⟩) hbl).trans (by rw [(hc k hlt).2, ← ex])
          have EX := hid ex
          clear ex hc hs hb
          obtain ⟨ib, hib⟩ : ∃ ib, ib = itemB vars x1 x2 := ⟨_, rfl⟩
          have C3 : Hid (∀ w, Calls Tryz.prog 88 #[.agg #[.int .i64 x1, .int .i64 x2], .int .i64 vars] w fun e w' => e = .returned (.bool ib) ∧ Below w.heap.size w w') := fun w => by rw [hib]; exact l1ItemOK_any vars x1 x2 w hv1 hv2
          have HI := hid hib
          clear hib
          cases ib with
          | true =>
            go_wp2_with (go_at_call 88; refine (C3.out _).mono ?_; rintro r w1 ⟨rfl, hb1⟩; have B1 := hid hb1; clear hb1)
            go_roundw
            case rel =>
              refine ⟨k + 1, by omega, by go_num, fun i hi => ?_, (HB.out.alloc hsz _).trans (B1.out.mono (by simp; omega))⟩
              by_cases e : i = k
              · subst e; rw [← EX.out]; exact HI.out.symm
              · exact HP.out i (by omega)
            case measure => simp [intOf]; omega
          | false =>
            go_wp2_with (go_at_call 88; refine (C3.out _).mono ?_; rintro r w1 ⟨rfl, hb1⟩; have B1 := hid hb1; clear hb1)
            go_ret
            refine ⟨ret_bool ?_, (HB.out.alloc hsz _).trans (B1.out.mono (by simp; omega))⟩
            symm
            unfold codeB
            rw [decide_eq_false_iff_not]
            intro h
            have := h.2.2.1 k (by rw [HL.out]; exact hlt)
            rw [← EX.out] at this
            rw [← HI.out] at this
            cases this
        · have e : k = n := by omega
          subst e
          clear hs hb
          go_wp2_with (go_at_call 89; refine (HB37.out _ HB.out).mono ?_; rintro r w1 ⟨rfl, hw⟩; obtain rfl := hw.symm)
          go_ret
          refine ⟨ret_bool ?_, HB.out⟩
          unfold codeB
          rw [HL.out, Bool.eq_iff_iff]
          simp
          exact ⟨fun h => ⟨⟨hv1, hv2⟩, ⟨hl1, hl2⟩, HP.out, h⟩, fun h => h.2.2.2⟩
    · have C2 := hid (l1Between_of n 1 200 false (by simp [betB]; omega))
      have HX : Hid (codeB its vars = false) := hid (by unfold codeB; rw [decide_eq_false_iff_not]; intro h; rw [hs.1] at h; omega)
      clear hs
      go_enter Tryz.func64, Tryz.ntmps64
      go_wp2_with (first | (go_at_call_of 17 (Value.int .i64 (32 : Int)); refine (C1.out _).mono ?_; rintro r w' ⟨rfl, hw⟩; obtain rfl := hw.symm) | (go_at_call_of 17 (Value.int .i64 (200 : Int)); refine (C2.out _).mono ?_; rintro r w' ⟨rfl, hw⟩; obtain rfl := hw.symm))
      go_ret
      exact ⟨ret_bool HX.out.symm, Below.refl _ _⟩
  · have C1 := hid (l1Between_of vars 0 32 false (by simp [betB]; omega))
    have HX : Hid (codeB its vars = false) := hid (by unfold codeB; rw [decide_eq_false_iff_not]; intro h; omega)
    clear hs
    go_enter Tryz.func64, Tryz.ntmps64
    go_wp2_with (go_at_call_of 17 (Value.int .i64 (32 : Int)); refine (C1.out _).mono ?_; rintro r w' ⟨rfl, hw⟩; obtain rfl := hw.symm)
    go_ret
    exact ⟨ret_bool HX.out.symm, Below.refl _ _⟩

end Go.Proofs.YtkcbomhhdfgihaaGreat
