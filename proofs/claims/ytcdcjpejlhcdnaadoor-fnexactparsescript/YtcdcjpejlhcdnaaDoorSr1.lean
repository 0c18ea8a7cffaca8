import Derived.Test.YtcdcjpejlhcdnaaDoorNu1
import Derived.Lib.AtoiAllCases
namespace Go.Proofs.YtcdcjpejlhcdnaaDoor
open Go.RowKit Go.Sort
set_option linter.unusedVariables false

/-- A text cut at a byte. -/
def cut (c : UInt8) : List UInt8 → List (List UInt8)
  | [] => [[]]
  | x :: l => if x = c then [] :: cut c l else match cut c l with | [] => [[x]] | f :: r => (x :: f) :: r
theorem cut_ne (c : UInt8) : ∀ l, cut c l ≠ []
  | [] => by simp [cut]
  | x :: l => by
    unfold cut
    split
    · simp
    · split <;> simp
theorem cut_last {c : UInt8} : ∀ {a : List UInt8}, c ∉ a → cut c a = [a]
  | [], _ => rfl
  | x :: l, h => by
    have h1 : ¬ x = c := fun e => h (by simp [e])
    have h2 := cut_last (c := c) (a := l) (fun e => h (by simp [e]))
    unfold cut
    rw [if_neg h1, h2]
theorem cut_step {c : UInt8} (b : List UInt8) : ∀ {a : List UInt8}, c ∉ a → cut c (a ++ c :: b) = a :: cut c b
  | [], _ => by simp [cut]
  | x :: l, h => by
    have h1 : ¬ x = c := fun e => h (by simp [e])
    have h2 := cut_step (c := c) b (a := l) (fun e => h (by simp [e]))
    rw [List.cons_append, cut, if_neg h1, h2]
/-- A text as its first line and what follows. -/
theorem first_line (c : UInt8) : ∀ l : List UInt8, ∃ a, c ∉ a ∧ (l = a ∨ ∃ b, l = a ++ c :: b)
  | [] => ⟨[], by simp, .inl rfl⟩
  | x :: l => by
    by_cases h : x = c
    · exact ⟨[], by simp, .inr ⟨l, by simp [h]⟩⟩
    · obtain ⟨a, ha, h2⟩ := first_line c l
      refine ⟨x :: a, by simp [ha]; exact fun e => h e.symm, ?_⟩
      rcases h2 with rfl | ⟨b, rfl⟩
      · exact .inl rfl
      · exact .inr ⟨b, by simp⟩
/-- The lines of a text from a place on: none beyond its end. -/
def linesFrom (t : List UInt8) (k : Nat) : List (List UInt8) := if k ≤ t.length then cut 10 (t.drop k) else []
/-- The line that begins at a place: it ends with the text, or at a byte 10. -/
structure LineAt (t : List UInt8) (k : Nat) (a : List UInt8) : Prop where
  non : (10 : UInt8) ∉ a
  le : k + a.length ≤ t.length
  at_ : ∀ j, j < a.length → t.getD (k + j) 0 = a.getD j 0
  fin : k + a.length = t.length ∨ (k + a.length < t.length ∧ t.getD (k + a.length) 0 = 10)
  all : linesFrom t k = a :: linesFrom t (k + a.length + 1)
  pre : ∃ r, t.drop k = a ++ r
theorem drop_getD (t : List UInt8) (k j : Nat) : (t.drop k).getD j 0 = t.getD (k + j) 0 := by simp [List.getD_eq_getElem?_getD]
theorem line_at (t : List UInt8) (k : Nat) (h : k ≤ t.length) : ∃ a, LineAt t k a := by
  obtain ⟨a, ha, h2⟩ := first_line 10 (t.drop k)
  refine ⟨a, ha, ?_, ?_, ?_, ?_, by rcases h2 with e | ⟨b, e⟩; exact ⟨[], by rw [e]; simp⟩; exact ⟨_, e⟩⟩
  · have : (t.drop k).length = t.length - k := by simp
    rcases h2 with e | ⟨b, e⟩ <;> rw [e] at this <;> (try simp at this) <;> omega
  · intro j hj
    rw [← drop_getD]
    rcases h2 with e | ⟨b, e⟩
    · rw [e]
    · rw [e]; simp [List.getD_eq_getElem?_getD, List.getElem?_append, hj]
  · have hl : (t.drop k).length = t.length - k := by simp
    rcases h2 with e | ⟨b, e⟩
    · rw [e] at hl; left; omega
    · right
      rw [e] at hl
      simp at hl
      refine ⟨by omega, ?_⟩
      rw [← drop_getD, e]
      simp [List.getD_eq_getElem?_getD]
  · have hl : (t.drop k).length = t.length - k := by simp
    unfold linesFrom
    rw [if_pos h]
    rcases h2 with e | ⟨b, e⟩
    · rw [if_neg (by rw [e] at hl; omega), e, cut_last ha]
    · have hk : k + a.length + 1 ≤ t.length := by rw [e] at hl; simp at hl; omega
      rw [if_pos hk, e, cut_step b ha]
      have : t.drop (k + a.length + 1) = b := by
        have h3 : t.drop (k + a.length + 1) = (t.drop k).drop (a.length + 1) := by rw [List.drop_drop]; congr 1
        rw [h3, e]
        simp
      rw [this]
theorem LineAt.cut {t a : List UInt8} {k : Nat} (h : LineAt t k a) {b q : Nat} (hb : b ≤ q) (hq : q ≤ a.length) : (t.drop (k + b)).take (k + q - (k + b)) = (a.drop b).take (q - b) := by
  obtain ⟨r, hr⟩ := h.pre
  have h1 : t.drop (k + b) = a.drop b ++ r := by
    have : t.drop (k + b) = (t.drop k).drop b := by rw [List.drop_drop]
    rw [this, hr, List.drop_append_of_le_length (by omega)]
  rw [h1, show k + q - (k + b) = q - b by omega, List.take_append_of_le_length (by simp; omega)]
/-- Parts on the way: what has been cut, where the one that is being read begins. -/
structure PartsAt (c : UInt8) (a : List UInt8) (fs : List (List UInt8)) (b i : Nat) : Prop where
  lo : b ≤ i
  hi : i ≤ a.length
  non : c ∉ (a.drop b).take (i - b)
  all : fs ++ cut c (a.drop b) = cut c a
theorem PartsAt.start (c : UInt8) (a : List UInt8) : PartsAt c a [] 0 0 := ⟨Nat.le_refl _, Nat.zero_le _, by simp, by simp⟩
theorem PartsAt.next {c : UInt8} {a : List UInt8} {fs : List (List UInt8)} {b i : Nat} (h : PartsAt c a fs b i) (hi : i < a.length) (hc : a.getD i 0 ≠ c) : PartsAt c a fs b (i + 1) := by
  have h1 := h.lo
  refine ⟨by omega, hi, ?_, h.all⟩
  rw [show i + 1 - b = i - b + 1 by omega, List.take_add_one]
  simp only [List.mem_append, not_or]
  refine ⟨h.non, ?_⟩
  rw [List.getElem?_drop, show b + (i - b) = i by omega, List.getElem?_eq_getElem hi]
  simp [List.getD_eq_getElem?_getD, hi] at hc ⊢
  exact fun e => hc e.symm
theorem take_drop_split (a : List UInt8) (b i : Nat) (hlo : b ≤ i) (hi : i < a.length) : a.drop b = (a.drop b).take (i - b) ++ a.getD i 0 :: a.drop (i + 1) := by
  have h1 : (a.drop b).drop (i - b) = a.getD i 0 :: a.drop (i + 1) := by
    rw [List.drop_drop, show b + (i - b) = i by omega, List.drop_eq_getElem_cons hi]
    simp [List.getD_eq_getElem?_getD, hi]
  rw [← h1, List.take_append_drop]
theorem PartsAt.part {c : UInt8} {a : List UInt8} {fs : List (List UInt8)} {b i : Nat} (h : PartsAt c a fs b i) (hi : i < a.length) (hc : a.getD i 0 = c) : PartsAt c a (fs ++ [(a.drop b).take (i - b)]) (i + 1) (i + 1) := by
  have h1 := h.lo
  refine ⟨Nat.le_refl _, hi, by simp, ?_⟩
  rw [← h.all]
  have e := take_drop_split a b i h1 hi
  rw [hc] at e
  have e2 : cut c (a.drop b) = (a.drop b).take (i - b) :: cut c (a.drop (i + 1)) := by
    have := cut_step (a.drop (i + 1)) h.non
    rw [← e] at this
    exact this
  rw [e2]
  simp
theorem PartsAt.last {c : UInt8} {a : List UInt8} {fs : List (List UInt8)} {b i : Nat} (h : PartsAt c a fs b i) (hi : i = a.length) : fs ++ [(a.drop b).take (i - b)] = cut c a := by
  have h1 := h.lo
  have e : (a.drop b).take (i - b) = a.drop b := by rw [List.take_of_length_le]; simp; omega
  rw [← h.all, ← cut_last h.non, e]
theorem cut_len (c : UInt8) : ∀ l : List UInt8, (cut c l).length ≤ l.length + 1
  | [] => by simp [cut]
  | x :: l => by
    have ih := cut_len c l
    unfold cut
    split
    · simp; omega
    · split
      · simp
      · rename_i f r e
        rw [e] at ih
        simp at ih ⊢
        omega
theorem cut_each (c : UInt8) : ∀ (l : List UInt8) (f : List UInt8), f ∈ cut c l → f.length ≤ l.length
  | [], f, h => by simp [cut] at h; simp [h]
  | x :: l, f, h => by
    have ih := cut_each c l
    unfold cut at h
    split at h
    · rcases List.mem_cons.1 h with rfl | h
      · simp
      · have := ih f h; simp; omega
    · split at h
      · simp at h; simp [h]
      · rename_i g r e
        rcases List.mem_cons.1 h with rfl | h
        · have := ih g (by rw [e]; simp); simp; omega
        · have := ih f (by rw [e]; simp [h]); simp; omega
theorem PartsAt.len {c : UInt8} {a : List UInt8} {fs : List (List UInt8)} {b i : Nat} (h : PartsAt c a fs b i) : fs.length ≤ a.length := by
  have h1 := congrArg List.length h.all
  have h2 := cut_len c a
  have h3 : (cut c (a.drop b)).length ≠ 0 := fun e => cut_ne c (a.drop b) (List.length_eq_zero_iff.1 e)
  rw [List.length_append] at h1
  omega
/-- The first field, and the line it begins. -/
theorem cut_one {a : List UInt8} : (cut 32 a).length = 1 ∧ (cut 32 a).getD 0 [] = [] ↔ a = [] := by
  obtain ⟨x, hx, h⟩ := first_line 32 a
  rcases h with rfl | ⟨b, rfl⟩
  · rw [cut_last hx]; simp
  · rw [cut_step b hx]
    have := cut_ne 32 b
    constructor
    · rintro ⟨h1, _⟩
      simp at h1
      exact absurd h1 this
    · intro h; simp at h
theorem cut_head {a : List UInt8} : (cut 32 a).getD 0 [] = [] ∨ ((cut 32 a).getD 0 []).head? = a.head? := by
  obtain ⟨x, hx, h⟩ := first_line 32 a
  rcases h with rfl | ⟨b, rfl⟩
  · rw [cut_last hx]; right; rfl
  · rw [cut_step b hx]
    cases x with
    | nil => left; rfl
    | cons y r => right; rfl
/-- A line that is skipped. -/
def skipB (a : List UInt8) : Bool := a.head?.getD 35 == 35
theorem skip_is (a : List UInt8) : skipB a = (decide ((cut 32 a).length = 1 ∧ (cut 32 a).getD 0 [] = []) || ((cut 32 a).getD 0 []).head? == some 35) := by
  have h1 : decide ((cut 32 a).length = 1 ∧ (cut 32 a).getD 0 [] = []) = decide (a = []) := decide_eq_decide.2 cut_one
  rw [h1]
  cases a with
  | nil => simp [skipB]
  | cons x r =>
    have h2 : ((cut 32 (x :: r)).getD 0 []).head? = some 35 ↔ x = 35 := by
      rcases cut_head (a := x :: r) with h | h
      · rw [h]
        constructor
        · intro h3; cases h3
        · intro h3
          subst h3
          obtain ⟨y, hy, h4⟩ := first_line 32 (35 :: r)
          rcases h4 with h4 | ⟨b, h4⟩
          · rw [h4, cut_last hy] at h; simp at h; subst h; cases h4
          · rw [h4, cut_step b hy] at h; simp at h; subst h; simp at h4
      · rw [h]; simp
    have h3 : (((cut 32 (x :: r)).getD 0 []).head? == some 35) = (x == 35) := by
      by_cases hx : x = 35
      · rw [h2.2 hx]; simp [hx]
      · have : ¬ ((cut 32 (x :: r)).getD 0 []).head? = some 35 := fun e => hx (h2.1 e)
        have e1 : (((cut 32 (x :: r)).getD 0 []).head? == some 35) = false := by simpa using this
        rw [e1]; simp [hx]
    rw [h3]
    simp [skipB]

theorem parse_dec (u : Nat) : ∀ r, u < 18446744073709551616 → Lib.parseUint10 0 (Lib.decDigits u ++ r) = Lib.parseUint10 u r := by
  induction u using Nat.strongRecOn with
  | _ u ih =>
    intro r hu
    by_cases h2 : u < 10
    · rw [Lib.decDigits, dif_pos h2]
      have e := digit_nat ⟨u, h2⟩
      simp only [] at e
      rw [List.cons_append, List.nil_append, Lib.parseUint10, e, if_pos (by omega), if_neg (by omega), if_neg (by omega)]
      congr 1
      omega
    · have e := digit_nat ⟨u % 10, by omega⟩
      simp only [] at e
      rw [Lib.decDigits, dif_neg h2, List.append_assoc, ih (u / 10) (by omega) _ (by omega), List.cons_append, List.nil_append, Lib.parseUint10, e, if_pos (by omega), if_neg (by omega), if_neg (by omega)]
      congr 1
      omega
theorem mag_dec (u : Nat) (h : u < 18446744073709551616) : Lib.parseMag (Lib.decDigits u) = .ok u := by
  unfold Lib.parseMag
  rw [if_neg (dec_ne u)]
  have := parse_dec u [] h
  rw [List.append_nil] at this
  rw [this]; rfl
/-- What is written is read back. -/
theorem atoi_itoa (n : Int) (h0 : -9223372036854775808 ≤ n) (h1 : n ≤ 9223372036854775807) : Lib.atoiAll (Lib.itoa n) = .ok n := by
  unfold Lib.itoa
  by_cases hn : n < 0
  · rw [if_pos hn, Lib.atoiAll_minus, mag_dec _ (by omega)]
    simp only [Lib.signed]
    rw [if_neg (by omega)]
    congr 1
    omega
  · rw [if_neg hn]
    have hd := dec_digits n.toNat
    have hm := mag_dec n.toNat (by omega)
    cases hx : Lib.decDigits n.toNat with
    | nil => exact absurd hx (dec_ne _)
    | cons c r =>
      rw [hx] at hd hm
      have hc := hd c (by simp)
      rw [Lib.atoiAll_plain c r (by omega) (by omega), hm]
      simp only [Lib.signless]
      rw [if_neg (by omega)]
      congr 1
      omega
/-- The number that a field is. -/
def num? (s : List UInt8) : Option Int := match Lib.atoiAll s with
  | .ok v => if Lib.itoa v = s then some v else none
  | _ => none
theorem num_itoa (n : Int) (h0 : -9223372036854775808 ≤ n) (h1 : n ≤ 9223372036854775807) : num? (Lib.itoa n) = some n := by
  unfold num?
  rw [atoi_itoa n h0 h1]
  simp
theorem num_some {s : List UInt8} {n : Int} (h : num? s = some n) : Lib.itoa n = s ∧ -9223372036854775808 ≤ n ∧ n ≤ 9223372036854775807 := by
  unfold num? at h
  split at h
  · rename_i v hv
    split at h
    · rename_i he
      simp at h
      subst h
      exact ⟨he, Lib.atoiAll_bounds hv⟩
    · cases h
  · cases h
theorem num_none {s : List UInt8} (h : num? s = none) {n : Int} (h0 : -9223372036854775808 ≤ n) (h1 : n ≤ 9223372036854775807) : Lib.itoa n ≠ s := by
  intro e
  rw [← e, num_itoa n h0 h1] at h
  cases h
end Go.Proofs.YtcdcjpejlhcdnaaDoor
