import Derived.Test.YtiimkhepplkocaaGreatP1
namespace Go.Proofs.YtiimkhepplkocaaGreat
open Go.RowKit Go.Sort
set_option linter.unusedVariables false
theorem drawn_check {ss : List StD} {ts : List TrD} {l : LimD} (hn : 1 ≤ ss.length ∧ ss.length ≤ 16) (ht : ts.length ≤ 500) (hl : limP l) (h0 : par ss 0 = -1) (hp : ∀ i, 0 < i → i < ss.length → 0 ≤ par ss i ∧ par ss i < i)
  (hi : ∀ i, i < ss.length → (kids ss ss.length i = [] ∧ ini ss i = -1) ∨ (0 ≤ ini ss i ∧ ini ss i < ss.length ∧ par ss (ini ss i).toNat = i)) (ha : ∀ i, i < ss.length → stmsB l (ss.getD i st0).entry = true ∧ stmsB l (ss.getD i st0).exit = true) (hT : ∀ j, j < ts.length → okTr ss.length l (ts.getD j tr0) = true) : (checkOf ss ts l).1 = 0 := by
 have bp : ∀ j, j < ss.length → badP ss j = false := fun j hj => by
  unfold badP
  by_cases e : j = 0
  ·rw [if_pos e]; simp [h0]
  ·rw [if_neg e]
   have := hp j (by omega) hj
   simp
   omega
 have T := tree_of (by omega) bp
 have bd : ∀ j, j < ss.length → badD ss j = false := fun j hj => by
  unfold badD
  have := up_len T j hj
  exact decide_eq_false (by omega)
 have bi : ∀ j, j < ss.length → badI ss j = false := fun j hj => by
  unfold badI
  rcases hi j hj with ⟨h1, h2⟩ | ⟨h1, h2, h3⟩
  ·rw [if_pos h1, decide_eq_true h2]; rfl
  ·have hk : ¬ kids ss ss.length j = [] := fun e => by
    have hm : (ini ss j).toNat ∈ kids ss ss.length j := mem_kids.2 ⟨by omega, h3⟩
    rw [e] at hm
    simp at hm
   rw [if_neg hk, decide_eq_true ⟨h1, h2, h3⟩]; rfl
 have f0 : (faultOf ss ts.length (limB l)).1 = 0 := by
  unfold faultOf
  rw [if_pos ⟨hn.1, by omega, ht, by unfold limB; exact decide_eq_true hl⟩, firstB_none bp, firstB_none bd, firstB_none bi]
 rw [check_ok f0 (fun j hj => by unfold badA; rw [(ha j hj).1, (ha j hj).2]; rfl) (fun j hj => by unfold badT; rw [hT j hj]; rfl)]
def IniI (ss : List StD) (m i : Nat) : Prop := (kids ss m i = [] ∧ ini ss i = -1) ∨ (0 ≤ ini ss i ∧ ini ss i < ss.length ∧ par ss (ini ss i).toNat = i)
theorem ini_skip {ss : List StD} {m i : Nat} (h : IniI ss m i) (hn : ¬ par ss m = i) : IniI ss (m + 1) i := by
 rcases h with ⟨h1, h2⟩ | h1
 ·exact .inl ⟨by rw [kids_succ, if_neg hn]; exact h1, h2⟩
 ·exact .inr h1
theorem ini_hold {ss : List StD} {m i : Nat} (h : IniI ss m i) (hp : 0 ≤ ini ss i) : IniI ss (m + 1) i := by
 rcases h with ⟨h1, h2⟩ | h1
 ·omega
 ·exact .inr h1
theorem ini_start {ss : List StD} {i : Nat} (h0 : par ss 0 = -1) (hp : ∀ j, 0 < j → j < ss.length → 0 ≤ par ss j ∧ par ss j < j) (hi : i < ss.length) (hini : ini ss i = -1) : IniI ss (i + 1) i := by
 refine .inl ⟨?_, hini⟩
 unfold kids
 rw [List.filter_eq_nil_iff]
 intro j hj
 have hj' := List.mem_range.1 hj
 simp only [decide_eq_true_eq]
 intro e
 by_cases z : j = 0
 ·subst z; omega
 ·have := hp j (by omega) (by omega); omega
end Go.Proofs.YtiimkhepplkocaaGreat
