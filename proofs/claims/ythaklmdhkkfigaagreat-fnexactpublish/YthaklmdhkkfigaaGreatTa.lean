import Derived.Test.YthaklmdhkkfigaaGreatKx11
namespace Go.Proofs.YthaklmdhkkfigaaGreat
open Go.RowKit Go.Sort
set_option linter.unusedVariables false

/-- What putK leaves. -/
structure PutI (os : List ObD) (k k' : KerD) : Prop where
  l : k'.leaf = k.leaf
  v : k'.vals = k.vals
  d : k'.ds = k.ds
  e : k'.left = k.left
  f : k'.every = k.every
  q : k'.qs.length = k.qs.length
theorem putK_i (os : List ObD) (k : KerD) (rs : List (Int × Int × Int)) (i : Nat) (x : Int × Int) : PutI os k (putK os k rs i x).1 := by
  unfold putK
  split
  · exact ⟨rfl, rfl, rfl, rfl, rfl, rfl⟩
  · exact ⟨rfl, rfl, rfl, rfl, rfl, by simp⟩
abbrev QOk (os : List ObD) (k : KerD) : Prop := ∀ i, i < os.length → (k.qs.getD i []).length ≤ (os.getD i ob0).qcap.toNat
theorem putK_q {os : List ObD} {k : KerD} (h : QOk os k) (rs : List (Int × Int × Int)) (i : Nat) (x : Int × Int) : QOk os (putK os k rs i x).1 := by
  unfold putK
  split
  · exact h
  · rename_i hc
    intro j hj
    show ((k.qs.set i (k.qs.getD i [] ++ [x])).getD j []).length ≤ _
    by_cases e : i = j
    · subst e
      by_cases hl : i < k.qs.length
      · rw [getD_set_eq hl, List.length_append, List.length_singleton]; omega
      · rw [List.set_eq_of_length_le (by omega)]; exact h i hj
    · rw [getD_set_ne e]; exact h j hj
theorem putK_r (os : List ObD) (k : KerD) (rs : List (Int × Int × Int)) (i : Nat) (x : Int × Int) : (putK os k rs i x).2.length ≤ rs.length + 1 := by
  unfold putK
  split <;> simp
section
variable {X Y : World} {B H : Nat} {sv ov tv L V Q D E F R : Value} {k : KerD} {vs vq vd : List Value} {rs : List (Int × Int × Int)}
end
end Go.Proofs.YthaklmdhkkfigaaGreat
namespace Go.Proofs.YthaklmdhkkfigaaGreat
open Go.RowKit Go.Sort
set_option linter.unusedVariables false
attribute [local go_sem ↓] Go.wp_at_zero Go.wp_at_succ

theorem ker_qok {sg : Int} {os : List ObD} {ts : List (Int × Int)} {k : KerD} (h : kerB sg os ts k = true) : QOk os k := by
  have hd := h
  unfold kerB at hd
  obtain ⟨h1, h2, h3, _⟩ := of_decide_eq_true hd
  intro i hi
  have h4 := h3 i hi
  unfold obKi obK at h4
  simp only [Bool.and_eq_true] at h4
  obtain ⟨_, _, q, _⟩ := h4
  unfold evB at q
  have q1 := (of_decide_eq_true q).2
  omega
end Go.Proofs.YthaklmdhkkfigaaGreat
