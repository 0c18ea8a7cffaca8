import Derived.Test.YtiimkhepplkocaaGreatKa
namespace Go.Proofs.YtiimkhepplkocaaGreat
def firstB (P : Nat → Bool) (n : Nat) : Option Nat := (List.range n).find? P
theorem firstB_some {P : Nat → Bool} {n k : Nat} (hk : k < n) (h : P k = true) (hb : ∀ j, j < k → P j = false) : firstB P n = some k := by
 unfold firstB
 rw [List.find?_eq_some_iff_append]
 refine ⟨h, List.range k, (List.range n).drop (k + 1), ?_, fun a ha => by simp [hb a (List.mem_range.1 ha)]⟩
 apply List.ext_getElem?
 intro i
 rw [List.getElem?_append]
 by_cases h1 : i < k
 ·simp [h1, show i < n by omega]
 ·by_cases h2 : i = k
  ·subst h2; simp [hk]
  ·rw [if_neg (by simpa using h1)]
   simp only [List.length_range]
   rw [show i - k = (i - k - 1) + 1 by omega, List.getElem?_cons_succ, List.getElem?_drop, show k + 1 + (i - k - 1) = i by omega]
theorem firstB_none {P : Nat → Bool} {n : Nat} (hb : ∀ j, j < n → P j = false) : firstB P n = none := by
 unfold firstB
 rw [List.find?_eq_none]
 intro x hx
 simp [hb x (List.mem_range.1 hx)]
def par (ss : List StD) (k : Nat) : Int := (ss.getD k st0).parent
def ini (ss : List StD) (k : Nat) : Int := (ss.getD k st0).initial
def TreeOK (ss : List StD) : Prop := par ss 0 = -1 ∧ ∀ i, 0 < i → i < ss.length → 0 ≤ par ss i ∧ par ss i < i
def badP (ss : List StD) (i : Nat) : Bool := if i = 0 then decide (par ss 0 ≠ -1) else decide (¬ (0 ≤ par ss i ∧ par ss i < i))
theorem tree_of {ss : List StD} (h0 : 0 < ss.length) (h : ∀ j, j < ss.length → badP ss j = false) : TreeOK ss := by
 constructor
 ·have := h 0 h0
  simpa [badP] using this
 ·intro i hi hl
  have := h i hl
  rw [badP, if_neg (by omega)] at this
  simpa using this
def upF (p : Nat → Int) : Nat → Nat → List Nat
 | 0, _ => []
 | f + 1, k => if k = 0 then [0] else k :: upF p f (p k).toNat
def up (ss : List StD) (k : Nat) : List Nat := upF (par ss) (k + 1) k
theorem upF_eq {ss : List StD} (T : TreeOK ss) : ∀ k, k < ss.length → ∀ f, k < f → upF (par ss) f k = up ss k := by
 intro k
 induction k using Nat.strongRecOn with
 | ind k ih =>
  intro hk f hf
  obtain ⟨f, rfl⟩ : ∃ g, f = g + 1 := ⟨f - 1, by omega⟩
  by_cases h0 : k = 0
  ·simp [upF, up, h0]
  ·have h1 := T.2 k (by omega) hk
   have e1 := ih (par ss k).toNat (by omega) (by omega) f (by omega)
   have e2 := ih (par ss k).toNat (by omega) (by omega) k (by omega)
   show upF (par ss) (f + 1) k = upF (par ss) (k + 1) k
   simp only [upF, if_neg h0, e1, e2]
theorem up_zero (ss : List StD) : up ss 0 = [0] := by simp [up, upF]
theorem up_pos {ss : List StD} (T : TreeOK ss) {k : Nat} (h0 : 0 < k) (hk : k < ss.length) : up ss k = k :: up ss (par ss k).toNat := by
 have h1 := T.2 k h0 hk
 show upF (par ss) (k + 1) k = _
 simp only [upF, if_neg (show ¬ k = 0 by omega)]
 rw [upF_eq T _ (by omega) k (by omega)]
theorem up_form {ss : List StD} (T : TreeOK ss) {k : Nat} (hk : k < ss.length) : up ss k = k :: (up ss k).tail := by
 by_cases h0 : k = 0
 ·subst h0; simp [up_zero]
 ·rw [up_pos T (by omega) hk]; simp
theorem up_le {ss : List StD} (T : TreeOK ss) : ∀ k, k < ss.length → ∀ x, x ∈ up ss k → x ≤ k := by
 intro k
 induction k using Nat.strongRecOn with
 | ind k ih =>
  intro hk x hx
  by_cases h0 : k = 0
  ·subst h0; simp [up_zero] at hx; omega
  ·have h1 := T.2 k (by omega) hk
   rw [up_pos T (by omega) hk] at hx
   rcases List.mem_cons.1 hx with rfl | hx
   ·exact Nat.le_refl _
   ·have := ih (par ss k).toNat (by omega) (by omega) x hx
    omega
theorem up_tail_lt {ss : List StD} (T : TreeOK ss) {k : Nat} (hk : k < ss.length) {x : Nat} (hx : x ∈ (up ss k).tail) : x < k := by
 by_cases h0 : k = 0
 ·subst h0; simp [up_zero] at hx
 ·have h1 := T.2 k (by omega) hk
  rw [up_pos T (by omega) hk] at hx
  have := up_le T (par ss k).toNat (by omega) x hx
  omega
theorem up_tail {ss : List StD} (T : TreeOK ss) {k : Nat} (h0 : 0 < k) (hk : k < ss.length) : (up ss k).tail = up ss (par ss k).toNat := by rw [up_pos T h0 hk]; rfl
theorem up_sub {ss : List StD} (T : TreeOK ss) : ∀ k, k < ss.length → ∀ x, x ∈ up ss k → ∀ y, y ∈ up ss x → y ∈ up ss k := by
 intro k
 induction k using Nat.strongRecOn with
 | ind k ih =>
  intro hk x hx y hy
  by_cases h0 : k = 0
  ·subst h0
   simp [up_zero] at hx
   subst hx
   exact hy
  ·have h1 := T.2 k (by omega) hk
   rw [up_pos T (by omega) hk] at hx ⊢
   rcases List.mem_cons.1 hx with rfl | hx
   ·rw [up_pos T (by omega) hk] at hy; exact hy
   ·exact List.mem_cons_of_mem _ (ih (par ss k).toNat (by omega) (by omega) x hx y hy)
theorem up_pair {ss : List StD} (T : TreeOK ss) : ∀ k, k < ss.length → (up ss k).Pairwise (· > ·) := by
 intro k
 induction k using Nat.strongRecOn with
 | ind k ih =>
  intro hk
  by_cases h0 : k = 0
  ·subst h0; simp [up_zero]
  ·have h1 := T.2 k (by omega) hk
   rw [up_pos T (by omega) hk, List.pairwise_cons]
   refine ⟨fun x hx => ?_, ih _ (by omega) (by omega)⟩
   have := up_le T (par ss k).toNat (by omega) x hx
   omega
theorem up_len {ss : List StD} (T : TreeOK ss) : ∀ k, k < ss.length → (up ss k).length ≤ k + 1 := by
 intro k
 induction k using Nat.strongRecOn with
 | ind k ih =>
  intro hk
  by_cases h0 : k = 0
  ·subst h0; simp [up_zero]
  ·have h1 := T.2 k (by omega) hk
   rw [up_pos T (by omega) hk, List.length_cons]
   have := ih (par ss k).toNat (by omega) (by omega)
   omega
def badD (ss : List StD) (i : Nat) : Bool := decide (17 ≤ (up ss i).length)
def kids (ss : List StD) (m k : Nat) : List Nat := (List.range m).filter fun j => decide (par ss j = k)
def badI (ss : List StD) (i : Nat) : Bool := !(if kids ss ss.length i = [] then decide (ini ss i = -1) else decide (0 ≤ ini ss i ∧ ini ss i < ss.length ∧ par ss (ini ss i).toNat = i))
theorem kids_succ (ss : List StD) (m k : Nat) : kids ss (m + 1) k = if par ss m = k then kids ss m k ++ [m] else kids ss m k := by
 unfold kids
 rw [List.range_succ, List.filter_append]
 by_cases h : par ss m = k <;> simp [h]
theorem mem_kids {ss : List StD} {m k j : Nat} : j ∈ kids ss m k ↔ j < m ∧ par ss j = k := by simp [kids]
theorem badI_eq (ss : List StD) (i : Nat) : badI ss i = !((kids ss ss.length i).any (fun j => decide ((j : Int) = ini ss i)) || (decide (kids ss ss.length i = []) && decide (ini ss i = -1))) := by
 unfold badI
 by_cases h : kids ss ss.length i = []
 ·simp [h]
 ·rw [if_neg h]
  congr 1
  rw [Bool.eq_iff_iff]
  simp only [h, decide_false, Bool.false_and, Bool.or_false, decide_eq_true_eq, List.any_eq_true]
  constructor
  ·rintro ⟨h0, h1, h2⟩
   exact ⟨(ini ss i).toNat, mem_kids.2 ⟨by omega, h2⟩, by omega⟩
  ·rintro ⟨x, hx, e⟩
   obtain ⟨h1, h2⟩ := mem_kids.1 hx
   have : (ini ss i).toNat = x := by omega
   exact ⟨by omega, by omega, by rw [this]; exact h2⟩
def faultOf (ss : List StD) (tn : Nat) (lim : Bool) : Int × Int :=
 if 1 ≤ ss.length ∧ ss.length ≤ 200 ∧ tn ≤ 500 ∧ lim = true then
  match firstB (badP ss) ss.length with
  | some i => (2, i)
  | none => match firstB (badD ss) ss.length with
   | some i => (3, i)
   | none => match firstB (badI ss) ss.length with
    | some i => (4, i)
    | none => (0, 0)
 else (1, 0)
theorem fault_count {ss : List StD} {tn : Nat} {lim : Bool} (h : ¬ (1 ≤ ss.length ∧ ss.length ≤ 200 ∧ tn ≤ 500 ∧ lim = true)) : faultOf ss tn lim = (1, 0) := if_neg h
theorem fault_tree {ss : List StD} {tn : Nat} {lim : Bool} (h : 1 ≤ ss.length ∧ ss.length ≤ 200 ∧ tn ≤ 500 ∧ lim = true) {k : Nat} (hk : k < ss.length) (h1 : badP ss k = true) (h2 : ∀ j, j < k → badP ss j = false) : faultOf ss tn lim = (2, (k : Int)) := by
 unfold faultOf
 rw [if_pos h, firstB_some hk h1 h2]
theorem fault_depth {ss : List StD} {tn : Nat} {lim : Bool} (h : 1 ≤ ss.length ∧ ss.length ≤ 200 ∧ tn ≤ 500 ∧ lim = true) (hp : ∀ j, j < ss.length → badP ss j = false) {k : Nat} (hk : k < ss.length) (h1 : badD ss k = true) (h2 : ∀ j, j < k → badD ss j = false) : faultOf ss tn lim = (3, (k : Int)) := by
 unfold faultOf
 rw [if_pos h, firstB_none hp, firstB_some hk h1 h2]
theorem fault_initial {ss : List StD} {tn : Nat} {lim : Bool} (h : 1 ≤ ss.length ∧ ss.length ≤ 200 ∧ tn ≤ 500 ∧ lim = true) (hp : ∀ j, j < ss.length → badP ss j = false) (hd : ∀ j, j < ss.length → badD ss j = false) {k : Nat} (hk : k < ss.length) (h1 : badI ss k = true) (h2 : ∀ j, j < k → badI ss j = false) : faultOf ss tn lim = (4, (k : Int)) := by
 unfold faultOf
 rw [if_pos h, firstB_none hp, firstB_none hd, firstB_some hk h1 h2]
theorem fault_none {ss : List StD} {tn : Nat} {lim : Bool} (h : 1 ≤ ss.length ∧ ss.length ≤ 200 ∧ tn ≤ 500 ∧ lim = true) (hp : ∀ j, j < ss.length → badP ss j = false) (hd : ∀ j, j < ss.length → badD ss j = false) (hi : ∀ j, j < ss.length → badI ss j = false) : faultOf ss tn lim = (0, 0) := by
 unfold faultOf
 rw [if_pos h, firstB_none hp, firstB_none hd, firstB_none hi]
structure GoodT (ss : List StD) (tn : Nat) : Prop where
 n1 : 1 ≤ ss.length
 n2 : ss.length ≤ 200
 tn : tn ≤ 500
 tree : TreeOK ss
 ini : ∀ j, j < ss.length → badI ss j = false
theorem firstB_none_iff {P : Nat → Bool} {n : Nat} (h : firstB P n = none) : ∀ j, j < n → P j = false := by
 intro j hj
 unfold firstB at h
 rw [List.find?_eq_none] at h
 simpa using h j (List.mem_range.2 hj)
theorem good_of {ss : List StD} {tn : Nat} {lim : Bool} (h : (faultOf ss tn lim).1 = 0) : GoodT ss tn := by
 unfold faultOf at h
 by_cases hc : 1 ≤ ss.length ∧ ss.length ≤ 200 ∧ tn ≤ 500 ∧ lim = true
 ·rw [if_pos hc] at h
  cases h1 : firstB (badP ss) ss.length with
  | some i => simp [h1] at h
  | none =>
   cases h2 : firstB (badD ss) ss.length with
   | some i => simp [h1, h2] at h
   | none =>
    cases h3 : firstB (badI ss) ss.length with
    | some i => simp [h1, h2, h3] at h
    | none => exact ⟨hc.1, hc.2.1, hc.2.2.1, tree_of (by omega) (firstB_none_iff h1), firstB_none_iff h3⟩
 ·rw [if_neg hc] at h; simp at h
theorem ini_good {ss : List StD} {tn : Nat} (g : GoodT ss tn) {k : Nat} (hk : k < ss.length) : ini ss k = -1 ∨ ((k : Int) < ini ss k ∧ ini ss k < ss.length) := by
 have h := g.ini k hk
 unfold badI at h
 by_cases e : kids ss ss.length k = []
 ·left; simpa [e] using h
 ·right
  simp only [e, if_false, Bool.not_eq_false', decide_eq_true_eq] at h
  obtain ⟨h0, h1, h2⟩ := h
  by_cases hz : (ini ss k).toNat = 0
  ·rw [hz, g.tree.1] at h2; omega
  ·have := g.tree.2 (ini ss k).toNat (by omega) (by omega)
   omega
def downF (i : Nat → Int) : Nat → Nat → List Nat
 | 0, _ => []
 | f + 1, k => if i k < 0 then [] else (i k).toNat :: downF i f (i k).toNat
def down (ss : List StD) (k : Nat) : List Nat := downF (ini ss) (ss.length - k) k
theorem downF_eq {ss : List StD} {tn : Nat} (g : GoodT ss tn) : ∀ d k, k < ss.length → ss.length - k = d → ∀ f, d ≤ f → downF (ini ss) f k = down ss k := by
 intro d
 induction d using Nat.strongRecOn with
 | ind d ih =>
  intro k hk hd f hf
  unfold down
  rw [hd]
  obtain ⟨f, rfl⟩ : ∃ g, f = g + 1 := ⟨f - 1, by omega⟩
  obtain ⟨d, rfl⟩ : ∃ g, d = g + 1 := ⟨d - 1, by omega⟩
  simp only [downF]
  rcases ini_good g hk with h | ⟨h1, h2⟩
  ·simp [h]
  ·rw [if_neg (by omega), if_neg (by omega), ih (ss.length - (ini ss k).toNat) (by omega) _ (by omega) rfl f (by omega), ih (ss.length - (ini ss k).toNat) (by omega) _ (by omega) rfl d (by omega)]
theorem down_leaf {ss : List StD} {k : Nat} (h : ini ss k < 0) : down ss k = [] := by
 unfold down
 cases ss.length - k with
 | zero => rfl
 | succ d => simp [downF, h]
theorem down_in {ss : List StD} {tn : Nat} (g : GoodT ss tn) {k : Nat} (hk : k < ss.length) (h : ¬ ini ss k < 0) : down ss k = (ini ss k).toNat :: down ss (ini ss k).toNat := by
 rcases ini_good g hk with e | ⟨h1, h2⟩
 ·omega
 ·obtain ⟨d, hd⟩ : ∃ d, ss.length - k = d + 1 := ⟨ss.length - k - 1, by omega⟩
  show downF _ _ _ = _
  rw [hd]
  simp only [downF, if_neg h]
  rw [downF_eq g _ _ (by omega) rfl d (by omega)]
theorem down_len {ss : List StD} {tn : Nat} (g : GoodT ss tn) : ∀ d k, k < ss.length → ss.length - k = d → (down ss k).length ≤ d := by
 intro d
 induction d using Nat.strongRecOn with
 | ind d ih =>
  intro k hk hd
  by_cases h : ini ss k < 0
  ·rw [down_leaf h]; simp
  ·rw [down_in g hk h, List.length_cons]
   rcases ini_good g hk with e | ⟨h1, h2⟩
   ·omega
   ·have := ih (ss.length - (ini ss k).toNat) (by omega) _ (by omega) rfl
    omega
def lastB (P : Nat → Bool) : Nat → Int
 | 0 => -1
 | k + 1 => if P k = true then k else lastB P k
theorem lastB_at {P : Nat → Bool} {m n : Nat} (hm : m < n) (h : P m = true) (hl : ∀ j, m < j → j < n → P j = false) : lastB P n = m := by
 induction n with
 | zero => omega
 | succ n ih =>
  unfold lastB
  by_cases e : m = n
  ·subst e; rw [if_pos h]
  ·rw [if_neg (by simp [hl n (by omega) (by omega)])]
   exact ih (by omega) (fun j h1 h2 => hl j h1 (by omega))
theorem lastB_none {P : Nat → Bool} {n : Nat} (hl : ∀ j, j < n → P j = false) : lastB P n = -1 := by
 induction n with
 | zero => rfl
 | succ n ih =>
  unfold lastB
  rw [if_neg (by simp [hl n (by omega)])]
  exact ih (fun j h2 => hl j (by omega))
def aboveB (ss : List StD) (a k : Nat) : Bool := decide (a ∈ (up ss k).tail)
def dom (ss : List StD) (f t : Nat) : Int := lastB (fun s => aboveB ss s f && aboveB ss s t) ss.length
theorem dom_sym (ss : List StD) (f t : Nat) : dom ss f t = dom ss t f := by
 unfold dom
 congr 1
 funext s
 exact Bool.and_comm _ _
theorem dom_inner {ss : List StD} (T : TreeOK ss) {f t : Nat} (hf : f < ss.length) (ht : t < ss.length) (h : f ∈ up ss t) : dom ss f t = if f = 0 then -1 else par ss f := by
 by_cases h0 : f = 0
 ·rw [if_pos h0]
  refine lastB_none fun j _ => ?_
  subst h0
  simp [aboveB, up_zero]
 ·rw [if_neg h0]
  have h1 := T.2 f (by omega) hf
  obtain ⟨p, hp⟩ : ∃ p : Nat, par ss f = p := ⟨(par ss f).toNat, by omega⟩
  have hpl : p < f := by omega
  have hpn : (par ss f).toNat = p := by omega
  have mem : p ∈ up ss p := by rw [up_form T (k := p) (by omega)]; exact List.mem_cons_self
  have hft : (up ss f).tail = up ss p := by rw [up_tail T (by omega) hf, hpn]
  rw [hp]
  refine lastB_at (m := p) (by omega) ?_ ?_
  ·simp only [aboveB, Bool.and_eq_true, decide_eq_true_eq]
   refine ⟨by rw [hft]; exact mem, ?_⟩
   by_cases e : f = t
   ·subst e; rw [hft]; exact mem
   ·have ht0 : 0 < t := by
     rcases Nat.eq_zero_or_pos t with rfl | h
     ·simp [up_zero] at h; omega
     ·exact h
    have h2 := T.2 t ht0 ht
    rw [up_tail T ht0 ht]
    have hm : f ∈ up ss (par ss t).toNat := by
     rw [up_pos T ht0 ht] at h
     rcases List.mem_cons.1 h with h | h
     ·exact absurd h e
     ·exact h
    refine up_sub T _ (by omega) f hm p ?_
    rw [up_pos T (by omega) hf, hpn]
    exact List.mem_cons_of_mem _ mem
  ·intro j hj _
   simp only [aboveB, Bool.and_eq_false_iff, decide_eq_false_iff_not]
   left
   intro hm
   rw [hft] at hm
   have := up_le T p (by omega) j hm
   omega
theorem dom_meet {ss : List StD} (T : TreeOK ss) {f t m : Nat} (hf : f < ss.length) (ht : t < ss.length) {pre post : List Nat} (e : up ss f = pre ++ m :: post) (hpre : ∀ x, x ∈ pre → ¬ x ∈ up ss t) (hm : m ∈ up ss t) :
  dom ss f t = if m ∈ (up ss f).tail ∧ m ∈ (up ss t).tail then (m : Int) else if m = 0 then -1 else par ss m := by
 have hmf : m ∈ up ss f := by rw [e]; simp
 by_cases h : m ∈ (up ss f).tail ∧ m ∈ (up ss t).tail
 ·rw [if_pos h]
  refine lastB_at (m := m) (Nat.lt_of_le_of_lt (up_le T f hf m hmf) hf) (by simp [aboveB, h]) fun j hj _ => ?_
  simp only [aboveB, Bool.and_eq_false_iff, decide_eq_false_iff_not]
  rw [← Classical.not_and_iff_not_or_not]
  rintro ⟨h1, h2⟩
  have h1' : j ∈ up ss f := List.mem_of_mem_tail h1
  have h2' : j ∈ up ss t := List.mem_of_mem_tail h2
  have hp := up_pair T f hf
  rw [e] at h1' hp
  rcases List.mem_append.1 h1' with h3 | h3
  ·exact hpre j h3 h2'
  ·rcases List.mem_cons.1 h3 with rfl | h3
   ·omega
   ·have := (List.pairwise_cons.1 (List.pairwise_append.1 hp).2.1).1 j h3
    omega
 ·rw [if_neg h]
  have hcase : m = f ∨ m = t := by
   rw [up_form T hf] at hmf
   rw [up_form T ht] at hm
   rcases List.mem_cons.1 hmf with h1 | h1
   ·exact .inl h1
   ·rcases List.mem_cons.1 hm with h2 | h2
    ·exact .inr h2
    ·exact absurd ⟨h1, h2⟩ h
  rcases hcase with rfl | rfl
  ·exact dom_inner T hf ht hm
  ·rw [dom_sym]
   exact dom_inner T ht hf hmf
end Go.Proofs.YtiimkhepplkocaaGreat
