import Derived.Test.YtkcbomhhdfgihaaGreatN8
namespace Go.Proofs.YtkcbomhhdfgihaaGreat

theorem stepT_some {vars op val : Int} {st : List Tree} {p : Tree × List Tree} (h : stepT vars op val st = some p) : itemB vars op val = true ∧ arity op ≤ st.length ∧ p.2 = st.drop (arity op) := by
  unfold stepT at h
  by_cases n1 : op = 1
  · subst n1
    simp only [if_true] at h
    split at h <;> simp at h
    rename_i hv
    subst h
    exact ⟨by simp [itemB]; omega, by simp [arity], by simp [arity]⟩
  by_cases n2 : op = 2
  · subst n2
    simp only [n1, if_false, if_true] at h
    split at h <;> simp at h
    rename_i hv
    subst h
    exact ⟨by simp [itemB]; omega, by simp [arity], by simp [arity]⟩
  by_cases n19 : op = 19
  · subst n19
    simp only [n1, n2, if_false, if_true] at h
    split at h
    · rename_i hv
      split at h <;> simp at h
      subst h
      exact ⟨by simp [itemB]; omega, by simp [arity], by simp [arity]⟩
    · simp at h
  simp only [n1, n2, n19, if_false] at h
  by_cases hv : val = 0
  · subst hv
    simp only [not_true_eq_false, if_false] at h
    by_cases n3 : op = 3
    · subst n3
      simp at h
      subst h
      exact ⟨by simp [itemB], by simp [arity], by simp [arity]⟩
    by_cases n13 : op = 13
    · subst n13
      simp only [n3, if_false, if_true] at h
      split at h <;> simp at h
      subst h
      exact ⟨by simp [itemB], by simp [arity], by simp [arity]⟩
    simp only [n3, n13, if_false] at h
    split at h
    · split at h <;> simp at h
      rename_i hop
      subst h
      unfold binOk at hop
      have ha : arity op = 2 := by simp [arity, n13, n19]; omega
      exact ⟨by simp [itemB, n1, n2, n19]; omega, by rw [ha]; simp, by rw [ha]; simp⟩
    · simp at h
  · simp [hv] at h

theorem stepT_of {vars op val : Int} {st : List Tree} (h1 : itemB vars op val = true) (h2 : arity op ≤ st.length) : ∃ t, stepT vars op val st = some (t, st.drop (arity op)) := by
  unfold itemB at h1
  by_cases n1 : op = 1
  · subst n1
    simp at h1
    exact ⟨_, by simp [stepT, h1, arity]; rfl⟩
  by_cases n2 : op = 2
  · subst n2
    simp at h1
    exact ⟨.var val, by simp [stepT, arity]; omega⟩
  by_cases n19 : op = 19
  · subst n19
    simp at h1
    match st, h2 with
    | [], h2 => simp [arity] at h2
    | t :: st', _ => exact ⟨_, by simp [stepT, h1, arity]; rfl⟩
  simp [n1, n2, n19] at h1
  obtain ⟨ha, hb, rfl⟩ := h1
  by_cases n3 : op = 3
  · subst n3
    exact ⟨_, by simp [stepT, arity]; rfl⟩
  by_cases n13 : op = 13
  · subst n13
    match st, h2 with
    | [], h2 => simp [arity] at h2
    | t :: st', _ => exact ⟨_, by simp [stepT, arity]; rfl⟩
  have har : arity op = 2 := by simp [arity, n13, n19]; omega
  rw [har] at h2 ⊢
  match st, h2 with
  | [], h2 => simp at h2
  | [_], h2 => simp at h2
  | r :: l :: st', _ =>
    have hop : binOk op := by unfold binOk; omega
    exact ⟨.bin op l r, by simp [stepT, n1, n2, n3, n13, n19]; exact ⟨hop.1, hop.2.1⟩⟩

/-- The stack's trees and where each one's items begin. -/
def Seg (P : Nat → Tree → Prop) (its : List (Int × Int)) : Nat → List Tree → Prop
  | e, [] => e = 0
  | e, t :: st => 0 ≤ bgn its e ∧ P e t ∧ Seg P its (bgn its e).toNat st

theorem seg_step {P : Nat → Tree → Prop} {its : List (Int × Int)} {e : Nat} {st : List Tree} (h : Seg P its e st) (ha : arity (opAt its e) ≤ st.length) {t : Tree} (hP : P (e + 1) t) : Seg P its (e + 1) (t :: st.drop (arity (opAt its e))) := by
  have h3 : arity (opAt its e) = 0 ∨ arity (opAt its e) = 1 ∨ arity (opAt its e) = 2 := by have := arity_le (opAt its e); omega
  rcases h3 with h0 | h0 | h0
  · have hb := bgn_ar0 its e h0
    rw [h0]
    exact ⟨by rw [hb]; omega, hP, by rw [hb]; simpa using h⟩
  · have hb := bgn_ar1 its e h0
    rw [h0] at ha ⊢
    match st, ha, h with
    | [], ha, _ => simp at ha
    | s1 :: st', _, h => exact ⟨by rw [hb]; exact h.1, hP, by rw [hb]; exact h.2.2⟩
  · have hb := bgn_ar2 its e h0
    rw [h0] at ha ⊢
    match st, ha, h with
    | [], ha, _ => simp at ha
    | [_], ha, _ => simp at ha
    | s1 :: s2 :: st', _, h =>
      rw [if_neg (by have := h.1; omega)] at hb
      exact ⟨by rw [hb]; exact h.2.2.1, hP, by rw [hb]; exact h.2.2.2.2⟩

theorem run_seg {P : Nat → Tree → Prop} {its : List (Int × Int)} {vars : Int} (hP : ∀ e st t, e < its.length → Seg P its e st → stepT vars (its.getD e (0, 0)).1 (its.getD e (0, 0)).2 st = some (t, st.drop (arity (opAt its e))) → P (e + 1) t) :
    ∀ e st, e ≤ its.length → runT vars (its.take e) [] = some st → Seg P its e st ∧ itemsP its vars e := by
  intro e
  induction e with
  | zero => intro st _ h; simp [runT] at h; subst h; exact ⟨rfl, fun i h => absurd h (by omega)⟩
  | succ e ih =>
    intro st he h
    rw [take_succ_at (by omega), runT_append] at h
    cases hr : runT vars (its.take e) [] with
    | none => rw [hr] at h; simp at h
    | some st0 =>
      rw [hr] at h
      simp only [Option.bind_some, runT] at h
      obtain ⟨h1, h2⟩ := ih st0 (by omega) hr
      cases hs : stepT vars (its.getD e (0, 0)).1 (its.getD e (0, 0)).2 st0 with
      | none => rw [hs] at h; simp at h
      | some p =>
        rw [hs] at h
        simp at h
        obtain ⟨a, b, c⟩ := stepT_some hs
        obtain ⟨t, st1⟩ := p
        simp only at c
        subst c
        rw [← h]
        refine ⟨seg_step h1 b (hP e st0 t (by omega) h1 hs), fun i hi => ?_⟩
        by_cases e1 : i = e
        · subst e1; exact a
        · exact h2 i (by omega)

def seg (its : List (Int × Int)) (b e : Nat) : List (Int × Int) := (its.take e).drop b

theorem seg_snoc {its : List (Int × Int)} {b e : Nat} (hb : b ≤ e) (he : e < its.length) : seg its b (e + 1) = seg its b e ++ [its.getD e (0, 0)] := by
  unfold seg
  rw [take_succ_at he, List.drop_append_of_le_length (by simp; omega)]

theorem seg_join {its : List (Int × Int)} {b m e : Nat} (hb : b ≤ m) (hm : m ≤ e) : seg its b e = seg its b m ++ seg its m e := by
  unfold seg
  have h1 : its.take m = (its.take e).take m := by rw [List.take_take, Nat.min_eq_left hm]
  rw [h1]
  generalize its.take e = l at *
  have h2 : l = l.take m ++ l.drop m := by simp
  have h3 : l.drop b = (l.take m).drop b ++ l.drop m := by
    by_cases hl : m ≤ l.length
    · conv => lhs; rw [h2]
      rw [List.drop_append_of_le_length (by simp; omega)]
    · have e1 : l.take m = l := List.take_of_length_le (by omega)
      have e2 : l.drop m = [] := List.drop_of_length_le (by omega)
      rw [e1, e2]; simp
  exact h3

theorem run_of_bgn {its : List (Int × Int)} {vars : Int} (hi : itemsP its vars its.length) : ∀ e, e ≤ its.length → 0 ≤ bgn its e → ∀ st, ∃ t, runT vars (seg its (bgn its e).toNat e) st = some (t :: st) := by
  intro e
  induction e using Nat.strongRecOn with
  | ind e ih =>
    intro he hb st
    match e with
    | 0 => rw [bgn_zero] at hb; omega
    | e + 1 =>
      have h3 : arity (opAt its e) = 0 ∨ arity (opAt its e) = 1 ∨ arity (opAt its e) = 2 := by have := arity_le (opAt its e); omega
      have hit := hi e (by omega)
      rcases h3 with h0 | h0 | h0
      · rw [bgn_ar0 its e h0] at hb ⊢
        obtain ⟨t, ht⟩ := stepT_of (st := st) hit (by show arity (opAt its e) ≤ _; rw [h0]; omega)
        rw [show arity (its.getD e (0, 0)).1 = 0 from h0] at ht
        refine ⟨t, ?_⟩
        have e1 : ((e : Int)).toNat = e := by omega
        rw [e1, seg_snoc (Nat.le_refl _) (by omega), runT_append]
        have e2 : seg its e e = [] := by unfold seg; apply List.drop_of_length_le; simp; omega
        rw [e2]
        simp at ht
        simp [runT, ht]
      · have hbb := bgn_ar1 its e h0
        rw [hbb] at hb ⊢
        have hbd := bgn_bd its e
        obtain ⟨t1, h1⟩ := ih e (by omega) (by omega) hb st
        obtain ⟨t, ht⟩ := stepT_of (st := t1 :: st) hit (by show arity (opAt its e) ≤ _; rw [h0]; simp)
        rw [show arity (its.getD e (0, 0)).1 = 1 from h0] at ht
        refine ⟨t, ?_⟩
        rw [seg_snoc (by omega) (by omega), runT_append, h1]
        simp at ht
        simp [runT, ht]
      · have hbb := bgn_ar2 its e h0
        have hbd := bgn_bd its e
        by_cases hneg : bgn its e < 0
        · rw [if_pos hneg] at hbb; omega
        · rw [if_neg hneg] at hbb
          rw [hbb] at hb ⊢
          have hbd2 := bgn_bd its (bgn its e).toNat
          obtain ⟨t2, h2⟩ := ih (bgn its e).toNat (by omega) (by omega) hb st
          obtain ⟨t1, h1⟩ := ih e (by omega) (by omega) (by omega) (t2 :: st)
          obtain ⟨t, ht⟩ := stepT_of (st := t1 :: t2 :: st) hit (by show arity (opAt its e) ≤ _; rw [h0]; simp)
          rw [show arity (its.getD e (0, 0)).1 = 2 from h0] at ht
          refine ⟨t, ?_⟩
          rw [seg_snoc (by omega) (by omega), seg_join (m := (bgn its e).toNat) (by omega) (by omega), runT_append, runT_append, h2]
          simp only [Option.bind_some]
          rw [h1]
          simp at ht
          simp [runT, ht]

theorem liftT_some {its : List (Int × Int)} {vars : Int} {t : Tree} (h : liftT its vars = some t) : (0 ≤ vars ∧ vars ≤ 32) ∧ (1 ≤ its.length ∧ its.length ≤ 200) ∧ runT vars its [] = some [t] := by
  unfold liftT at h
  split at h
  · rename_i hb
    refine ⟨hb.1, hb.2, ?_⟩
    cases hr : runT vars its [] with
    | none => rw [hr] at h; simp [onlyT] at h
    | some l =>
      rw [hr] at h
      match l, h with
      | [s], h => simp [onlyT] at h; rw [h]
      | [], h => simp [onlyT] at h
      | _ :: _ :: _, h => simp [onlyT] at h
  · simp at h

/-- The two ways to look at an expression agree. -/
theorem okT_codeB (its : List (Int × Int)) (vars : Int) : (liftT its vars).isSome = codeB its vars := by
  rw [Bool.eq_iff_iff]
  unfold codeB
  rw [decide_eq_true_iff, Option.isSome_iff_exists]
  constructor
  · rintro ⟨t, h⟩
    obtain ⟨h1, h2, h3⟩ := liftT_some h
    have e : its.take its.length = its := List.take_length
    obtain ⟨hs, hi⟩ := run_seg (P := fun _ _ => True) (its := its) (vars := vars) (fun _ _ _ _ _ _ => trivial) its.length [t] (Nat.le_refl _) (by rw [e]; exact h3)
    refine ⟨h1, h2, hi, ?_⟩
    have a := hs.1
    have b : (bgn its its.length).toNat = 0 := hs.2.2
    omega
  · rintro ⟨h1, h2, h3, h4⟩
    obtain ⟨t, ht⟩ := run_of_bgn h3 its.length (Nat.le_refl _) (by omega) []
    rw [h4] at ht
    have e : seg its (0 : Int).toNat its.length = its := by simp [seg]
    rw [e] at ht
    refine ⟨t, ?_⟩
    unfold liftT
    rw [if_pos ⟨h1, h2⟩, ht]
    rfl

end Go.Proofs.YtkcbomhhdfgihaaGreat
