import Derived.Test.YtkdgkomnbjepdaaGreatDoorKa
import Derived.Deep.RegionHeld3
import Derived.Deep.AppendLies
import Derived.Test.YtkdgkomnbjepdaaGreatDoorOa
namespace Go.Proofs.YtkdgkomnbjepdaaGreatDoor
def firstB (P : Nat → Bool) (n : Nat) : Option Nat := (List.range n).find? P
theorem firstB_some {P : Nat → Bool} {n k : Nat} (hk : k < n) (h : P k = true) (hb : ∀ j,j < k → P j = false) : firstB P n = some k := by
 unfold firstB
 rw [List.find?_eq_some_iff_append]
 refine ⟨h,List.range k,(List.range n).drop (k + 1),?_,fun a ha => by simp [hb a (List.mem_range.1 ha)]⟩
 apply List.ext_getElem?
 intro i
 rw [List.getElem?_append]
 by_cases h1 : i < k
 ·simp [h1,show i < n by omega]
 ·by_cases h2 : i = k
  ·subst h2; simp [hk]
  ·rw [if_neg (by simpa using h1)]
   simp only [List.length_range]
   rw [show i - k = (i - k - 1) + 1 by omega,List.getElem?_cons_succ,List.getElem?_drop,show k + 1 + (i - k - 1) = i by omega]
theorem firstB_none {P : Nat → Bool} {n : Nat} (hb : ∀ j,j < n → P j = false) : firstB P n = none := by
 unfold firstB
 rw [List.find?_eq_none]
 intro x hx
 simp [hb x (List.mem_range.1 hx)]
def par (ss : List StD) (k : Nat) : Int := (ss.getD k st0).parent
def ini (ss : List StD) (k : Nat) : Int := (ss.getD k st0).initial
def TreeOK (ss : List StD) : Prop := par ss 0 = -1 ∧ ∀ i,0 < i → i < ss.length → 0 ≤ par ss i ∧ par ss i < i
def badP (ss : List StD) (i : Nat) : Bool := if i = 0 then decide (par ss 0 ≠ -1) else decide (¬ (0 ≤ par ss i ∧ par ss i < i))
theorem tree_of {ss : List StD} (h0 : 0 < ss.length) (h : ∀ j,j < ss.length → badP ss j = false) : TreeOK ss := by
 constructor
 ·have := h 0 h0
  simpa [badP] using this
 ·intro i hi hl
  have := h i hl
  rw [badP,if_neg (by omega)] at this
  simpa using this
def upF (p : Nat → Int) : Nat → Nat → List Nat
 | 0,_ => []
 | f + 1,k => if k = 0 then [0] else k :: upF p f (p k).toNat
def up (ss : List StD) (k : Nat) : List Nat := upF (par ss) (k + 1) k
theorem upF_eq {ss : List StD} (T : TreeOK ss) : ∀ k,k < ss.length → ∀ f,k < f → upF (par ss) f k = up ss k := by
 intro k
 induction k using Nat.strongRecOn with
 | ind k ih =>
  intro hk f hf
  obtain ⟨f,rfl⟩ : ∃ g,f = g + 1 := ⟨f - 1,by omega⟩
  by_cases h0 : k = 0
  ·simp [upF,up,h0]
  ·have h1 := T.2 k (by omega) hk
   have e1 := ih (par ss k).toNat (by omega) (by omega) f (by omega)
   have e2 := ih (par ss k).toNat (by omega) (by omega) k (by omega)
   show upF (par ss) (f + 1) k = upF (par ss) (k + 1) k
   simp only [upF,if_neg h0,e1,e2]
theorem up_zero (ss : List StD) : up ss 0 = [0] := by simp [up,upF]
theorem up_pos {ss : List StD} (T : TreeOK ss) {k : Nat} (h0 : 0 < k) (hk : k < ss.length) : up ss k = k :: up ss (par ss k).toNat := by
 have h1 := T.2 k h0 hk
 show upF (par ss) (k + 1) k = _
 simp only [upF,if_neg (show ¬ k = 0 by omega)]
 rw [upF_eq T _ (by omega) k (by omega)]
theorem up_form {ss : List StD} (T : TreeOK ss) {k : Nat} (hk : k < ss.length) : up ss k = k :: (up ss k).tail := by
 by_cases h0 : k = 0
 ·subst h0; simp [up_zero]
 ·rw [up_pos T (by omega) hk]; simp
theorem up_le {ss : List StD} (T : TreeOK ss) : ∀ k,k < ss.length → ∀ x,x ∈ up ss k → x ≤ k := by
 intro k
 induction k using Nat.strongRecOn with
 | ind k ih =>
  intro hk x hx
  by_cases h0 : k = 0
  ·subst h0; simp [up_zero] at hx; omega
  ·have h1 := T.2 k (by omega) hk
   rw [up_pos T (by omega) hk] at hx
   rcases List.mem_cons.1 hx with rfl | hx
   ·exact Nat.le_refl _
   ·have := ih (par ss k).toNat (by omega) (by omega) x hx
    omega
theorem up_len {ss : List StD} (T : TreeOK ss) : ∀ k,k < ss.length → (up ss k).length ≤ k + 1 := by
 intro k
 induction k using Nat.strongRecOn with
 | ind k ih =>
  intro hk
  by_cases h0 : k = 0
  ·subst h0; simp [up_zero]
  ·have h1 := T.2 k (by omega) hk
   rw [up_pos T (by omega) hk,List.length_cons]
   have := ih (par ss k).toNat (by omega) (by omega)
   omega
def badD (ss : List StD) (i : Nat) : Bool := decide (17 ≤ (up ss i).length)
def kids (ss : List StD) (m k : Nat) : List Nat := (List.range m).filter fun j => decide (par ss j = k)
def badI (ss : List StD) (i : Nat) : Bool := !(if kids ss ss.length i = [] then decide (ini ss i = -1) else decide (0 ≤ ini ss i ∧ ini ss i < ss.length ∧ par ss (ini ss i).toNat = i))
theorem kids_succ (ss : List StD) (m k : Nat) : kids ss (m + 1) k = if par ss m = k then kids ss m k ++ [m] else kids ss m k := by
 unfold kids
 rw [List.range_succ,List.filter_append]
 by_cases h : par ss m = k <;> simp [h]
theorem mem_kids {ss : List StD} {m k j : Nat} : j ∈ kids ss m k ↔ j < m ∧ par ss j = k := by simp [kids]
theorem badI_eq (ss : List StD) (i : Nat) : badI ss i = !((kids ss ss.length i).any (fun j => decide ((j : Int) = ini ss i)) || (decide (kids ss ss.length i = []) && decide (ini ss i = -1))) := by
 unfold badI
 by_cases h : kids ss ss.length i = []
 ·simp [h]
 ·rw [if_neg h]
  congr 1
  rw [Bool.eq_iff_iff]
  simp only [h,decide_false,Bool.false_and,Bool.or_false,decide_eq_true_eq,List.any_eq_true]
  constructor
  ·rintro ⟨h0,h1,h2⟩
   exact ⟨(ini ss i).toNat,mem_kids.2 ⟨by omega,h2⟩,by omega⟩
  ·rintro ⟨x,hx,e⟩
   obtain ⟨h1,h2⟩ := mem_kids.1 hx
   have : (ini ss i).toNat = x := by omega
   exact ⟨by omega,by omega,by rw [this]; exact h2⟩
def faultOf (ss : List StD) (tn : Nat) (lim : Bool) : Int × Int :=
 if 1 ≤ ss.length ∧ ss.length ≤ 200 ∧ tn ≤ 500 ∧ lim = true then
  match firstB (badP ss) ss.length with
  | some i => (2,i)
  | none => match firstB (badD ss) ss.length with
   | some i => (3,i)
   | none => match firstB (badI ss) ss.length with
    | some i => (4,i)
    | none => (0,0)
 else (1,0)
theorem fault_count {ss : List StD} {tn : Nat} {lim : Bool} (h : ¬ (1 ≤ ss.length ∧ ss.length ≤ 200 ∧ tn ≤ 500 ∧ lim = true)) : faultOf ss tn lim = (1,0) := if_neg h
theorem fault_tree {ss : List StD} {tn : Nat} {lim : Bool} (h : 1 ≤ ss.length ∧ ss.length ≤ 200 ∧ tn ≤ 500 ∧ lim = true) {k : Nat} (hk : k < ss.length) (h1 : badP ss k = true) (h2 : ∀ j,j < k → badP ss j = false) : faultOf ss tn lim = (2,(k : Int)) := by
 unfold faultOf
 rw [if_pos h,firstB_some hk h1 h2]
theorem fault_depth {ss : List StD} {tn : Nat} {lim : Bool} (h : 1 ≤ ss.length ∧ ss.length ≤ 200 ∧ tn ≤ 500 ∧ lim = true) (hp : ∀ j,j < ss.length → badP ss j = false) {k : Nat} (hk : k < ss.length) (h1 : badD ss k = true) (h2 : ∀ j,j < k → badD ss j = false) : faultOf ss tn lim = (3,(k : Int)) := by
 unfold faultOf
 rw [if_pos h,firstB_none hp,firstB_some hk h1 h2]
theorem fault_initial {ss : List StD} {tn : Nat} {lim : Bool} (h : 1 ≤ ss.length ∧ ss.length ≤ 200 ∧ tn ≤ 500 ∧ lim = true) (hp : ∀ j,j < ss.length → badP ss j = false) (hd : ∀ j,j < ss.length → badD ss j = false) {k : Nat} (hk : k < ss.length) (h1 : badI ss k = true) (h2 : ∀ j,j < k → badI ss j = false) : faultOf ss tn lim = (4,(k : Int)) := by
 unfold faultOf
 rw [if_pos h,firstB_none hp,firstB_none hd,firstB_some hk h1 h2]
theorem fault_none {ss : List StD} {tn : Nat} {lim : Bool} (h : 1 ≤ ss.length ∧ ss.length ≤ 200 ∧ tn ≤ 500 ∧ lim = true) (hp : ∀ j,j < ss.length → badP ss j = false) (hd : ∀ j,j < ss.length → badD ss j = false) (hi : ∀ j,j < ss.length → badI ss j = false) : faultOf ss tn lim = (0,0) := by
 unfold faultOf
 rw [if_pos h,firstB_none hp,firstB_none hd,firstB_none hi]
structure GoodT (ss : List StD) (tn : Nat) : Prop where
 n1 : 1 ≤ ss.length
 n2 : ss.length ≤ 200
 tn : tn ≤ 500
 tree : TreeOK ss
 ini : ∀ j,j < ss.length → badI ss j = false
theorem firstB_none_iff {P : Nat → Bool} {n : Nat} (h : firstB P n = none) : ∀ j,j < n → P j = false := by
 intro j hj
 unfold firstB at h
 rw [List.find?_eq_none] at h
 simpa using h j (List.mem_range.2 hj)
theorem good_of {ss : List StD} {tn : Nat} {lim : Bool} (h : (faultOf ss tn lim).1 = 0) : GoodT ss tn := by
 unfold faultOf at h
 by_cases hc : 1 ≤ ss.length ∧ ss.length ≤ 200 ∧ tn ≤ 500 ∧ lim = true
 ·rw [if_pos hc] at h
  cases h1 : firstB (badP ss) ss.length with
  | some i => simp [h1] at h
  | none =>
   cases h2 : firstB (badD ss) ss.length with
   | some i => simp [h1,h2] at h
   | none =>
    cases h3 : firstB (badI ss) ss.length with
    | some i => simp [h1,h2,h3] at h
    | none => exact ⟨hc.1,hc.2.1,hc.2.2.1,tree_of (by omega) (firstB_none_iff h1),firstB_none_iff h3⟩
 ·rw [if_neg hc] at h; simp at h
end Go.Proofs.YtkdgkomnbjepdaaGreatDoor
namespace Go.Proofs.YtkdgkomnbjepdaaGreatDoor
open Go.RowKit Go.Sort
attribute [local go_sem ↓] Go.wp_at_zero Go.wp_at_succ
end Go.Proofs.YtkdgkomnbjepdaaGreatDoor
namespace Go.Proofs.YtkdgkomnbjepdaaGreatDoor
open Go.RowKit Go.Sort
attribute [local go_sem ↓] Go.wp_at_zero Go.wp_at_succ
end Go.Proofs.YtkdgkomnbjepdaaGreatDoor
namespace Go.Proofs.YtkdgkomnbjepdaaGreatDoor
open Go.RowKit Go.Sort
attribute [local go_sem ↓] Go.wp_at_zero Go.wp_at_succ
end Go.Proofs.YtkdgkomnbjepdaaGreatDoor
namespace Go.Proofs.YtkdgkomnbjepdaaGreatDoor
open Go.RowKit Go.Sort
attribute [local go_sem ↓] Go.wp_at_zero Go.wp_at_succ
end Go.Proofs.YtkdgkomnbjepdaaGreatDoor
namespace Go.Proofs.YtkdgkomnbjepdaaGreatDoor
open Go.RowKit Go.Sort
attribute [local go_sem ↓] Go.wp_at_zero Go.wp_at_succ
def CntOK (ss : List StD) (tn : Nat) (lim : Bool) : Prop := 1 ≤ ss.length ∧ ss.length ≤ 200 ∧ tn ≤ 500 ∧ lim = true
end Go.Proofs.YtkdgkomnbjepdaaGreatDoor
namespace Go.Proofs.YtkdgkomnbjepdaaGreatDoor
open Go.RowKit Go.Sort
attribute [local go_sem ↓] Go.wp_at_zero Go.wp_at_succ
end Go.Proofs.YtkdgkomnbjepdaaGreatDoor
namespace Go.Proofs.YtkdgkomnbjepdaaGreatDoor
open Go.RowKit Go.Sort
attribute [local go_sem ↓] Go.wp_at_zero Go.wp_at_succ
end Go.Proofs.YtkdgkomnbjepdaaGreatDoor
namespace Go.Proofs.YtkdgkomnbjepdaaGreatDoor
open Go.RowKit Go.Sort
structure FitsOb (x : ObD) : Prop where
 fk : x.kinds.length ≤ 1048576
 fv : x.vals.length ≤ 1048576
 fu : x.subs.length ≤ 1048576
 fs : FitsSt x.sts
 ft : FitsTr x.trs
def FitsObs (os : List ObD) : Prop := os.length ≤ 1048576 ∧ ∀ i,i < os.length → FitsOb (os.getD i ob0)
end Go.Proofs.YtkdgkomnbjepdaaGreatDoor
namespace Go.Proofs.YtkdgkomnbjepdaaGreatDoor
open Go.RowKit Go.Sort
attribute [local go_sem ↓] Go.wp_at_zero Go.wp_at_succ
end Go.Proofs.YtkdgkomnbjepdaaGreatDoor
