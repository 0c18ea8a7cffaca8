import Derived.Test.YtkdgkomnbjepdaaGreatDoorKa
import Derived.Lib.ItoaNum
import Derived.Lib.QuietBelow
import Derived.BigQuiet
import Derived.Laws.Concat
import Derived.Lib.ItoaLen
import Derived.Test.YtkdgkomnbjepdaaGreatDoorOa
import Derived.Deep.RegionWith
import Derived.Deep.RegionHeld3
import Derived.Deep.CutBlock
import Derived.Deep.DeepCutAuto
import Derived.Lib.AtoiAllCases
import Derived.Deep.AppendLies
import Derived.Deep.LoopGhost
import Derived.Deep.RegionLaw
namespace Go.Proofs.YtkdgkomnbjepdaaGreatDoor
open Go.RowKit Go.Sort
set_option linter.unusedVariables false
attribute [local go_sem ↓] Go.wp_at_zero Go.wp_at_succ
abbrev tx (l : List UInt8) : Value := .string ⟨l.toArray⟩
theorem ba_append (a b : List UInt8) : (⟨a.toArray⟩ : ByteArray) ++ ⟨b.toArray⟩ = ⟨(a ++ b).toArray⟩ := by
 apply ByteArray.ext
 simp [ByteArray.data_append]
theorem cat {a b : List UInt8} (h : a.length + b.length ≤ 9223372036854775807) : ∀ W,(Op.stringOp .add ⟨a.toArray⟩ ⟨b.toArray⟩).run Tryz.prog W = .ok (.string ⟨(a ++ b).toArray⟩) W := fun W => by
 rw [run_string_add_sum _ _ _ (by simpa [ByteArray.size] using h),ba_append]
theorem catx (a b : List UInt8) (h : a.length + b.length ≤ 9223372036854775807) : ∃ z,Hid (z = a ++ b) ∧ ∀ W,(Op.stringOp .add ⟨a.toArray⟩ ⟨b.toArray⟩).run Tryz.prog W = .ok (.string ⟨z.toArray⟩) W := ⟨_,hid rfl,cat h⟩
theorem ba_of {b : ByteArray} {l : List UInt8} (h : b.data.toList = l) : b = ⟨l.toArray⟩ := by
 apply ByteArray.ext
 simp [← h]
theorem itoa_len {n : Int} (h0 : -9223372036854775808 ≤ n) (h1 : n ≤ 9223372036854775807) : (Lib.itoa n).length ≤ 21 := Lib.itoa_length_le n h0 h1
end Go.Proofs.YtkdgkomnbjepdaaGreatDoor
namespace Go.Proofs.YtkdgkomnbjepdaaGreatDoor
open Go.RowKit Go.Sort
set_option linter.unusedVariables false
def stepW (neg : Bool) (n : Int) (c : UInt8) : Int := if neg then wrap64 (wrap64 (n * 10) - ((c.toNat : Int) - 48)) else wrap64 (wrap64 (n * 10) + ((c.toNat : Int) - 48))
theorem w64_id {x : Int} (h0 : -9223372036854775808 ≤ x) (h1 : x ≤ 9223372036854775807) : wrap64 x = x := IntWalk.wrap64_in x ⟨h0,h1⟩
theorem digit_nat : ∀ d : Fin 10,(UInt8.ofNat (48 + d.val)).toNat = 48 + d.val := by decide
theorem digit_val (d : Nat) (h : d < 10) : (((UInt8.ofNat (48 + d)).toNat : Nat) : Int) - 48 = d := by
 rw [digit_nat ⟨d,h⟩]; simp only []; omega
theorem stepP_is {n d : Nat} (h : n * 10 + d ≤ 9223372036854775807) (hd : d < 10) : stepW false (n : Int) (UInt8.ofNat (48 + d)) = ((n * 10 + d : Nat) : Int) := by
 unfold stepW
 rw [if_neg (by decide),digit_val d hd,w64_id (x := (n : Int) * 10) (by omega) (by omega),w64_id (by omega) (by omega)]
 push_cast
 rfl
theorem foldW_pos (u : Nat) (h : u ≤ 9223372036854775807) : (Lib.decDigits u).foldl (stepW false) 0 = u := by
 induction u using Nat.strongRecOn with
 | _ u ih =>
  by_cases h2 : u < 10
  ·rw [Lib.decDigits,dif_pos h2]
   have := stepP_is (n := 0) (d := u) (by omega) h2
   rw [Nat.zero_mul,Nat.zero_add] at this
   rw [List.foldl_cons,List.foldl_nil]
   exact this
  ·have e := ih (u / 10) (by omega) (by omega)
   rw [Lib.decDigits,dif_neg h2,List.foldl_append,e]
   have := stepP_is (n := u / 10) (d := u % 10) (by omega) (by omega)
   rw [show u / 10 * 10 + u % 10 = u by omega] at this
   rw [List.foldl_cons,List.foldl_nil]
   exact this
theorem dec_digits (u : Nat) : ∀ c,c ∈ Lib.decDigits u → 48 ≤ c.toNat ∧ c.toNat ≤ 57 := by
 induction u using Nat.strongRecOn with
 | _ u ih =>
  intro c hc
  by_cases h2 : u < 10
  ·rw [Lib.decDigits,dif_pos h2] at hc
   rw [List.mem_singleton] at hc
   subst hc
   rw [digit_nat ⟨u,h2⟩]; simp; omega
  ·rw [Lib.decDigits,dif_neg h2] at hc
   rcases List.mem_append.1 hc with h | h
   ·exact ih (u / 10) (by omega) c h
   ·rw [List.mem_singleton] at h
    subst h
    rw [digit_nat ⟨u % 10,by omega⟩]; simp; omega
theorem dec_ne (u : Nat) : Lib.decDigits u ≠ [] := by
 intro h
 have := Lib.decDigits_length u
 rw [h] at this
 have h2 := Lib.nDigits_pos u
 simp at this
 omega
end Go.Proofs.YtkdgkomnbjepdaaGreatDoor
namespace Go.Proofs.YtkdgkomnbjepdaaGreatDoor
open Go.RowKit Go.Sort
set_option linter.unusedVariables false
def catTo (f : Nat → List UInt8) : Nat → List UInt8
 | 0 => []
 | n + 1 => catTo f n ++ f n
theorem catTo_len {f : Nat → List UInt8} {c : Nat} : ∀ {n : Nat},(∀ i,i < n → (f i).length ≤ c) → (catTo f n).length ≤ n * c
 | 0,_ => by simp [catTo]
 | n + 1,h => by
  have h1 := catTo_len (f := f) (c := c) (n := n) (fun i hi => h i (by omega))
  have h2 := h n (by omega)
  simp only [catTo,List.length_append,Nat.add_mul]
  omega
def kindName (k : Int) : List UInt8 := if k = 1 then [105,56] else if k = 2 then [105,49,54] else if k = 3 then [105,51,50] else if k = 4 then [105,54,52] else if k = 5 then [117,56] else if k = 6 then [117,49,54] else [117,51,50]
def opName (o : Int) : List UInt8 := if o = 4 then [43] else if o = 5 then [45] else if o = 6 then [42] else if o = 7 then [47] else if o = 8 then [37] else if o = 9 then [61] else if o = 10 then [60] else if o = 11 then [97,110,100] else if o = 12 then [111,114] else if o = 13 then [110,111,116] else if o = 14 then [38] else if o = 15 then [124] else if o = 16 then [94] else if o = 17 then [60,60] else [62,62]
def stmName (k : Int) : List UInt8 := if k = 1 then [115,101,116] else if k = 2 then [101,109,105,116] else if k = 3 then [112,111,115,116] else if k = 4 then [102,114,111,110,116] else if k = 5 then [112,117,98,108,105,115,104] else if k = 6 then [100,101,102,101,114] else if k = 7 then [114,101,99,97,108,108] else if k = 8 then [97,114,109] else [100,105,115,97,114,109]
def giveA (k : Int) : Bool := decide (k = 1 ∨ k = 3 ∨ k = 4 ∨ k = 8 ∨ k = 9)
def giveB (k : Int) : Bool := decide (k = 3 ∨ k = 4 ∨ k = 5 ∨ k = 8)
def wordT (o v : Int) : List UInt8 := if o = 1 then Lib.itoa v else if o = 2 then [118] ++ Lib.itoa v else if o = 3 then [97,114,103] else if o = 19 then kindName v else opName o
def codeT (its : List (Int × Int)) (n : Nat) : List UInt8 := catTo (fun i => [32] ++ wordT (its.getD i (0,0)).1 (its.getD i (0,0)).2) n
def fieldT (b : Bool) (z : Int) : List UInt8 := if b then [32] ++ Lib.itoa z else []
def stmT (s : StmD) : List UInt8 := stmName s.kind ++ fieldT (giveA s.kind) s.a ++ fieldT (giveB s.kind) s.b ++ codeT s.code s.code.length
def stmsT (key : List UInt8) (ss : List StmD) (n : Nat) : List UInt8 := catTo (fun i => key ++ [32] ++ stmT (ss.getD i stm0) ++ [10]) n
def numT (ns : List Int) (n : Nat) : List UInt8 := catTo (fun i => [32] ++ Lib.itoa (ns.getD i 0)) n
def lineT (wd : List UInt8) (ns : List Int) : List UInt8 := wd ++ numT ns ns.length ++ [10]
abbrev I64 (z : Int) : Prop := -9223372036854775808 ≤ z ∧ z ≤ 9223372036854775807
theorem itoa_l {z : Int} (h : I64 z) : (Lib.itoa z).length ≤ 21 := itoa_len h.1 h.2
theorem ite_l {c : Prop} [Decidable c] {a b : List UInt8} {n : Nat} (ha : a.length ≤ n) (hb : b.length ≤ n) : (if c then a else b).length ≤ n := by split <;> assumption
theorem kindName_l (k : Int) : (kindName k).length ≤ 3 := by
 unfold kindName
 repeat (refine ite_l (by decide) ?_)
 decide
theorem opName_l (k : Int) : (opName k).length ≤ 3 := by
 unfold opName
 repeat (refine ite_l (by decide) ?_)
 decide
theorem stmName_l (k : Int) : (stmName k).length ≤ 7 := by
 unfold stmName
 repeat (refine ite_l (by decide) ?_)
 decide
structure ItOK (o v : Int) : Prop where
 lo : 1 ≤ o
 hi : o ≤ 19
 val : I64 v
 knd : o = 19 → 1 ≤ v ∧ v ≤ 7
 nul : ¬ o = 1 → ¬ o = 2 → ¬ o = 19 → v = 0
theorem itOK_of {vars o v : Int} (hv : vars ≤ 32) (h : itemB vars o v = true) : ItOK o v := by
 unfold itemB at h
 split at h
 ·subst o; simp at h; exact ⟨by omega,by omega,⟨by omega,by omega⟩,by omega,by omega⟩
 ·split at h
  ·subst o; simp at h; exact ⟨by omega,by omega,⟨by omega,by omega⟩,by omega,by omega⟩
  ·split at h
   ·subst o; simp at h; exact ⟨by omega,by omega,⟨by omega,by omega⟩,fun _ => by omega,by omega⟩
   ·simp at h; exact ⟨by omega,by omega,⟨by omega,by omega⟩,by omega,by omega⟩
theorem wordT_l {o v : Int} (h : ItOK o v) : (wordT o v).length ≤ 22 := by
 have h1 := itoa_l h.val
 have h2 := kindName_l v
 have h3 := opName_l o
 unfold wordT
 repeat' split
 all_goals simp
 all_goals omega
abbrev CodeOK (its : List (Int × Int)) : Prop := its.length ≤ 200 ∧ ∀ i,i < its.length → ItOK (its.getD i (0,0)).1 (its.getD i (0,0)).2
theorem codeT_l {its : List (Int × Int)} (h : CodeOK its) {n : Nat} (hn : n ≤ its.length) : (codeT its n).length ≤ 4600 := by
 have h1 : (codeT its n).length ≤ n * 23 := catTo_len (fun i hi => by
  have := wordT_l (h.2 i (by omega))
  simp only [List.length_append,List.length_cons,List.length_nil]; omega)
 have := h.1
 omega
structure StmOK (s : StmD) : Prop where
 lo : 1 ≤ s.kind
 hi : s.kind ≤ 9
 a : I64 s.a
 b : I64 s.b
 code : CodeOK s.code
theorem fieldT_l {b : Bool} {z : Int} (h : I64 z) : (fieldT b z).length ≤ 22 := by
 have := itoa_l h
 unfold fieldT
 split <;> simp; omega
theorem stmT_l {s : StmD} (h : StmOK s) : (stmT s).length ≤ 4651 := by
 have h1 := stmName_l s.kind
 have h2 := fieldT_l (b := giveA s.kind) h.a
 have h3 := fieldT_l (b := giveB s.kind) h.b
 have h4 := codeT_l h.code (Nat.le_refl _)
 simp only [stmT,List.length_append]
 omega
abbrev StmsOK (ss : List StmD) : Prop := ss.length ≤ 50 ∧ ∀ i,i < ss.length → StmOK (ss.getD i stm0)
theorem stmsT_l {key : List UInt8} (hk : key.length ≤ 10) {ss : List StmD} (h : StmsOK ss) {n : Nat} (hn : n ≤ ss.length) : (stmsT key ss n).length ≤ 250000 := by
 have h1 : (stmsT key ss n).length ≤ n * 4700 := catTo_len (fun i hi => by
  have := stmT_l (h.2 i (by omega))
  simp only [List.length_append,List.length_cons,List.length_nil]; omega)
 have := h.1
 omega
theorem numT_l {ns : List Int} (hn : ns.length ≤ 10) (h : ∀ i,i < ns.length → I64 (ns.getD i 0)) {n : Nat} (hn' : n ≤ ns.length) : (numT ns n).length ≤ 220 := by
 have h1 : (numT ns n).length ≤ n * 22 := catTo_len (fun i hi => by
  have := itoa_l (h i (by omega))
  simp only [List.length_append,List.length_cons,List.length_nil]; omega)
 omega
theorem codeOK_of {vars : Int} {its : List (Int × Int)} (h : codeB its vars = true) : CodeOK its := by
 simp only [codeB,decide_eq_true_eq] at h
 exact ⟨h.2.1.2,fun i hi => itOK_of h.1.2 (h.2.2.1 i hi)⟩
theorem codeOK_nil {its : List (Int × Int)} (h : its.length = 0) : CodeOK its := ⟨by omega,fun i hi => by omega⟩
theorem stmOK_of {l : LimD} (hl : limP l) {s : StmD} (h : stmB l s = true) : StmOK s := by
 obtain ⟨⟨o1,o2⟩,⟨s1,s2⟩,⟨t1,t2⟩,v1,v2⟩ := hl
 simp only [stmB,Bool.and_eq_true,betB,decide_eq_true_eq] at h
 obtain ⟨⟨⟨⟨k1,k2⟩,a1,a2⟩,b1,b2⟩,hc⟩ := h
 have ha : mostA s.kind l ≤ 999999999 := by unfold mostA; repeat' split <;> omega
 have hb : mostB s.kind l ≤ 999999999 := by unfold mostB; repeat' split <;> omega
 refine ⟨k1,k2,⟨by omega,by omega⟩,⟨by omega,by omega⟩,?_⟩
 split at hc
 ·exact codeOK_of hc
 ·exact codeOK_nil (by simpa using hc)
theorem stmsOK_of {l : LimD} {ss : List StmD} (h : stmsB l ss = true) : StmsOK ss := by
 simp only [stmsB,decide_eq_true_eq] at h
 exact ⟨h.2.1,fun i hi => stmOK_of h.1 (h.2.2 i hi)⟩
end Go.Proofs.YtkdgkomnbjepdaaGreatDoor
namespace Go.Proofs.YtkdgkomnbjepdaaGreatDoor
open Go.RowKit Go.Sort
set_option linter.unusedVariables false
attribute [local go_sem ↓] Go.wp_at_zero Go.wp_at_succ
def formT (k : Int) : List UInt8 := (if giveA k then [97] else []) ++ (if giveB k then [98] else [])
def formC (k : Int) : Bool := decide (k = 1 ∨ k = 2 ∨ k = 3 ∨ k = 4 ∨ k = 5 ∨ k = 8)
end Go.Proofs.YtkdgkomnbjepdaaGreatDoor
namespace Go.Proofs.YtkdgkomnbjepdaaGreatDoor
open Go.RowKit Go.Sort
set_option linter.unusedVariables false
def cut (c : UInt8) : List UInt8 → List (List UInt8)
 | [] => [[]]
 | x :: l => if x = c then [] :: cut c l else match cut c l with | [] => [[x]] | f :: r => (x :: f) :: r
theorem cut_ne (c : UInt8) : ∀ l,cut c l ≠ []
 | [] => by simp [cut]
 | x :: l => by
  unfold cut
  split
  ·simp
  ·split <;> simp
theorem cut_last {c : UInt8} : ∀ {a : List UInt8},c ∉ a → cut c a = [a]
 | [],_ => rfl
 | x :: l,h => by
  have h1 : ¬ x = c := fun e => h (by simp [e])
  have h2 := cut_last (c := c) (a := l) (fun e => h (by simp [e]))
  unfold cut
  rw [if_neg h1,h2]
theorem cut_step {c : UInt8} (b : List UInt8) : ∀ {a : List UInt8},c ∉ a → cut c (a ++ c :: b) = a :: cut c b
 | [],_ => by simp [cut]
 | x :: l,h => by
  have h1 : ¬ x = c := fun e => h (by simp [e])
  have h2 := cut_step (c := c) b (a := l) (fun e => h (by simp [e]))
  rw [List.cons_append,cut,if_neg h1,h2]
theorem first_line (c : UInt8) : ∀ l : List UInt8,∃ a,c ∉ a ∧ (l = a ∨ ∃ b,l = a ++ c :: b)
 | [] => ⟨[],by simp,.inl rfl⟩
 | x :: l => by
  by_cases h : x = c
  ·exact ⟨[],by simp,.inr ⟨l,by simp [h]⟩⟩
  ·obtain ⟨a,ha,h2⟩ := first_line c l
   refine ⟨x :: a,by simp [ha]; exact fun e => h e.symm,?_⟩
   rcases h2 with rfl | ⟨b,rfl⟩
   ·exact .inl rfl
   ·exact .inr ⟨b,by simp⟩
def linesFrom (t : List UInt8) (k : Nat) : List (List UInt8) := if k ≤ t.length then cut 10 (t.drop k) else []
structure LineAt (t : List UInt8) (k : Nat) (a : List UInt8) : Prop where
 non : (10 : UInt8) ∉ a
 le : k + a.length ≤ t.length
 at_ : ∀ j,j < a.length → t.getD (k + j) 0 = a.getD j 0
 fin : k + a.length = t.length ∨ (k + a.length < t.length ∧ t.getD (k + a.length) 0 = 10)
 all : linesFrom t k = a :: linesFrom t (k + a.length + 1)
 pre : ∃ r,t.drop k = a ++ r
theorem drop_getD (t : List UInt8) (k j : Nat) : (t.drop k).getD j 0 = t.getD (k + j) 0 := by simp [List.getD_eq_getElem?_getD]
theorem line_at (t : List UInt8) (k : Nat) (h : k ≤ t.length) : ∃ a,LineAt t k a := by
 obtain ⟨a,ha,h2⟩ := first_line 10 (t.drop k)
 refine ⟨a,ha,?_,?_,?_,?_,by rcases h2 with e | ⟨b,e⟩; exact ⟨[],by rw [e]; simp⟩; exact ⟨_,e⟩⟩
 ·have : (t.drop k).length = t.length - k := by simp
  rcases h2 with e | ⟨b,e⟩ <;> rw [e] at this <;> (try simp at this) <;> omega
 ·intro j hj
  rw [← drop_getD]
  rcases h2 with e | ⟨b,e⟩
  ·rw [e]
  ·rw [e]; simp [List.getD_eq_getElem?_getD,List.getElem?_append,hj]
 ·have hl : (t.drop k).length = t.length - k := by simp
  rcases h2 with e | ⟨b,e⟩
  ·rw [e] at hl; left; omega
  ·right
   rw [e] at hl
   simp at hl
   refine ⟨by omega,?_⟩
   rw [← drop_getD,e]
   simp [List.getD_eq_getElem?_getD]
 ·have hl : (t.drop k).length = t.length - k := by simp
  unfold linesFrom
  rw [if_pos h]
  rcases h2 with e | ⟨b,e⟩
  ·rw [if_neg (by rw [e] at hl; omega),e,cut_last ha]
  ·have hk : k + a.length + 1 ≤ t.length := by rw [e] at hl; simp at hl; omega
   rw [if_pos hk,e,cut_step b ha]
   have : t.drop (k + a.length + 1) = b := by
    have h3 : t.drop (k + a.length + 1) = (t.drop k).drop (a.length + 1) := by rw [List.drop_drop]; congr 1
    rw [h3,e]
    simp
   rw [this]
theorem LineAt.cut {t a : List UInt8} {k : Nat} (h : LineAt t k a) {b q : Nat} (hb : b ≤ q) (hq : q ≤ a.length) : (t.drop (k + b)).take (k + q - (k + b)) = (a.drop b).take (q - b) := by
 obtain ⟨r,hr⟩ := h.pre
 have h1 : t.drop (k + b) = a.drop b ++ r := by
  have : t.drop (k + b) = (t.drop k).drop b := by rw [List.drop_drop]
  rw [this,hr,List.drop_append_of_le_length (by omega)]
 rw [h1,show k + q - (k + b) = q - b by omega,List.take_append_of_le_length (by simp; omega)]
structure PartsAt (c : UInt8) (a : List UInt8) (fs : List (List UInt8)) (b i : Nat) : Prop where
 lo : b ≤ i
 hi : i ≤ a.length
 non : c ∉ (a.drop b).take (i - b)
 all : fs ++ cut c (a.drop b) = cut c a
theorem PartsAt.start (c : UInt8) (a : List UInt8) : PartsAt c a [] 0 0 := ⟨Nat.le_refl _,Nat.zero_le _,by simp,by simp⟩
theorem PartsAt.next {c : UInt8} {a : List UInt8} {fs : List (List UInt8)} {b i : Nat} (h : PartsAt c a fs b i) (hi : i < a.length) (hc : a.getD i 0 ≠ c) : PartsAt c a fs b (i + 1) := by
 have h1 := h.lo
 refine ⟨by omega,hi,?_,h.all⟩
 rw [show i + 1 - b = i - b + 1 by omega,List.take_add_one]
 simp only [List.mem_append,not_or]
 refine ⟨h.non,?_⟩
 rw [List.getElem?_drop,show b + (i - b) = i by omega,List.getElem?_eq_getElem hi]
 simp [List.getD_eq_getElem?_getD,hi] at hc ⊢
 exact fun e => hc e.symm
theorem take_drop_split (a : List UInt8) (b i : Nat) (hlo : b ≤ i) (hi : i < a.length) : a.drop b = (a.drop b).take (i - b) ++ a.getD i 0 :: a.drop (i + 1) := by
 have h1 : (a.drop b).drop (i - b) = a.getD i 0 :: a.drop (i + 1) := by
  rw [List.drop_drop,show b + (i - b) = i by omega,List.drop_eq_getElem_cons hi]
  simp [List.getD_eq_getElem?_getD,hi]
 rw [← h1,List.take_append_drop]
theorem PartsAt.part {c : UInt8} {a : List UInt8} {fs : List (List UInt8)} {b i : Nat} (h : PartsAt c a fs b i) (hi : i < a.length) (hc : a.getD i 0 = c) : PartsAt c a (fs ++ [(a.drop b).take (i - b)]) (i + 1) (i + 1) := by
 have h1 := h.lo
 refine ⟨Nat.le_refl _,hi,by simp,?_⟩
 rw [← h.all]
 have e := take_drop_split a b i h1 hi
 rw [hc] at e
 have e2 : cut c (a.drop b) = (a.drop b).take (i - b) :: cut c (a.drop (i + 1)) := by
  have := cut_step (a.drop (i + 1)) h.non
  rw [← e] at this
  exact this
 rw [e2]
 simp
theorem PartsAt.last {c : UInt8} {a : List UInt8} {fs : List (List UInt8)} {b i : Nat} (h : PartsAt c a fs b i) (hi : i = a.length) : fs ++ [(a.drop b).take (i - b)] = cut c a := by
 have h1 := h.lo
 have e : (a.drop b).take (i - b) = a.drop b := by rw [List.take_of_length_le]; simp; omega
 rw [← h.all,← cut_last h.non,e]
theorem cut_len (c : UInt8) : ∀ l : List UInt8,(cut c l).length ≤ l.length + 1
 | [] => by simp [cut]
 | x :: l => by
  have ih := cut_len c l
  unfold cut
  split
  ·simp; omega
  ·split
   ·simp
   ·rename_i f r e
    rw [e] at ih
    simp at ih ⊢
    omega
theorem cut_each (c : UInt8) : ∀ (l : List UInt8) (f : List UInt8),f ∈ cut c l → f.length ≤ l.length
 | [],f,h => by simp [cut] at h; simp [h]
 | x :: l,f,h => by
  have ih := cut_each c l
  unfold cut at h
  split at h
  ·rcases List.mem_cons.1 h with rfl | h
   ·simp
   ·have := ih f h; simp; omega
  ·split at h
   ·simp at h; simp [h]
   ·rename_i g r e
    rcases List.mem_cons.1 h with rfl | h
    ·have := ih g (by rw [e]; simp); simp; omega
    ·have := ih f (by rw [e]; simp [h]); simp; omega
theorem PartsAt.len {c : UInt8} {a : List UInt8} {fs : List (List UInt8)} {b i : Nat} (h : PartsAt c a fs b i) : fs.length ≤ a.length := by
 have h1 := congrArg List.length h.all
 have h2 := cut_len c a
 have h3 : (cut c (a.drop b)).length ≠ 0 := fun e => cut_ne c (a.drop b) (List.length_eq_zero_iff.1 e)
 rw [List.length_append] at h1
 omega
theorem cut_one {a : List UInt8} : (cut 32 a).length = 1 ∧ (cut 32 a).getD 0 [] = [] ↔ a = [] := by
 obtain ⟨x,hx,h⟩ := first_line 32 a
 rcases h with rfl | ⟨b,rfl⟩
 ·rw [cut_last hx]; simp
 ·rw [cut_step b hx]
  have := cut_ne 32 b
  constructor
  ·rintro ⟨h1,_⟩
   simp at h1
   exact absurd h1 this
  ·intro h; simp at h
theorem cut_head {a : List UInt8} : (cut 32 a).getD 0 [] = [] ∨ ((cut 32 a).getD 0 []).head? = a.head? := by
 obtain ⟨x,hx,h⟩ := first_line 32 a
 rcases h with rfl | ⟨b,rfl⟩
 ·rw [cut_last hx]; right; rfl
 ·rw [cut_step b hx]
  cases x with
  | nil => left; rfl
  | cons y r => right; rfl
def skipB (a : List UInt8) : Bool := a.head?.getD 35 == 35
theorem skip_is (a : List UInt8) : skipB a = (decide ((cut 32 a).length = 1 ∧ (cut 32 a).getD 0 [] = []) || ((cut 32 a).getD 0 []).head? == some 35) := by
 have h1 : decide ((cut 32 a).length = 1 ∧ (cut 32 a).getD 0 [] = []) = decide (a = []) := decide_eq_decide.2 cut_one
 rw [h1]
 cases a with
 | nil => simp [skipB]
 | cons x r =>
  have h2 : ((cut 32 (x :: r)).getD 0 []).head? = some 35 ↔ x = 35 := by
   rcases cut_head (a := x :: r) with h | h
   ·rw [h]
    constructor
    ·intro h3; cases h3
    ·intro h3
     subst h3
     obtain ⟨y,hy,h4⟩ := first_line 32 (35 :: r)
     rcases h4 with h4 | ⟨b,h4⟩
     ·rw [h4,cut_last hy] at h; simp at h; subst h; cases h4
     ·rw [h4,cut_step b hy] at h; simp at h; subst h; simp at h4
   ·rw [h]; simp
  have h3 : (((cut 32 (x :: r)).getD 0 []).head? == some 35) = (x == 35) := by
   by_cases hx : x = 35
   ·rw [h2.2 hx]; simp [hx]
   ·have : ¬ ((cut 32 (x :: r)).getD 0 []).head? = some 35 := fun e => hx (h2.1 e)
    have e1 : (((cut 32 (x :: r)).getD 0 []).head? == some 35) = false := by simpa using this
    rw [e1]; simp [hx]
  rw [h3]
  simp [skipB]
theorem parse_dec (u : Nat) : ∀ r,u < 18446744073709551616 → Lib.parseUint10 0 (Lib.decDigits u ++ r) = Lib.parseUint10 u r := by
 induction u using Nat.strongRecOn with
 | _ u ih =>
  intro r hu
  by_cases h2 : u < 10
  ·rw [Lib.decDigits,dif_pos h2]
   have e := digit_nat ⟨u,h2⟩
   simp only [] at e
   rw [List.cons_append,List.nil_append,Lib.parseUint10,e,if_pos (by omega),if_neg (by omega),if_neg (by omega)]
   congr 1
   omega
  ·have e := digit_nat ⟨u % 10,by omega⟩
   simp only [] at e
   rw [Lib.decDigits,dif_neg h2,List.append_assoc,ih (u / 10) (by omega) _ (by omega),List.cons_append,List.nil_append,Lib.parseUint10,e,if_pos (by omega),if_neg (by omega),if_neg (by omega)]
   congr 1
   omega
theorem mag_dec (u : Nat) (h : u < 18446744073709551616) : Lib.parseMag (Lib.decDigits u) = .ok u := by
 unfold Lib.parseMag
 rw [if_neg (dec_ne u)]
 have := parse_dec u [] h
 rw [List.append_nil] at this
 rw [this]; rfl
theorem atoi_itoa (n : Int) (h0 : -9223372036854775808 ≤ n) (h1 : n ≤ 9223372036854775807) : Lib.atoiAll (Lib.itoa n) = .ok n := by
 unfold Lib.itoa
 by_cases hn : n < 0
 ·rw [if_pos hn,Lib.atoiAll_minus,mag_dec _ (by omega)]
  simp only [Lib.signed]
  rw [if_neg (by omega)]
  congr 1
  omega
 ·rw [if_neg hn]
  have hd := dec_digits n.toNat
  have hm := mag_dec n.toNat (by omega)
  cases hx : Lib.decDigits n.toNat with
  | nil => exact absurd hx (dec_ne _)
  | cons c r =>
   rw [hx] at hd hm
   have hc := hd c (by simp)
   rw [Lib.atoiAll_plain c r (by omega) (by omega),hm]
   simp only [Lib.signless]
   rw [if_neg (by omega)]
   congr 1
   omega
def num? (s : List UInt8) : Option Int := match Lib.atoiAll s with
 | .ok v => if Lib.itoa v = s then some v else none
 | _ => none
theorem num_itoa (n : Int) (h0 : -9223372036854775808 ≤ n) (h1 : n ≤ 9223372036854775807) : num? (Lib.itoa n) = some n := by
 unfold num?
 rw [atoi_itoa n h0 h1]
 simp
theorem num_some {s : List UInt8} {n : Int} (h : num? s = some n) : Lib.itoa n = s ∧ -9223372036854775808 ≤ n ∧ n ≤ 9223372036854775807 := by
 unfold num? at h
 split at h
 ·rename_i v hv
  split at h
  ·rename_i he
   simp at h
   subst h
   exact ⟨he,Lib.atoiAll_bounds hv⟩
  ·cases h
 ·cases h
end Go.Proofs.YtkdgkomnbjepdaaGreatDoor
namespace Go.Proofs.YtkdgkomnbjepdaaGreatDoor
open Go.RowKit Go.Sort
set_option linter.unusedVariables false
attribute [local go_sem ↓] Go.wp_at_zero Go.wp_at_succ
abbrev bl (s : ByteArray) : List UInt8 := s.data.toList
theorem bl_len (s : ByteArray) : (bl s).length = s.size := Array.length_toList
theorem bl_get (s : ByteArray) (k : Nat) (h : k < s.size) : (bl s).getD k 0 = s[k] := by
 have h' : k < s.data.size := h
 rw [List.getD_eq_getElem?_getD,Array.getElem?_toList,Array.getElem?_eq_getElem h']
 rfl
theorem ext_is (s : ByteArray) (b i : Nat) (h : i ≤ s.size) : s.extract b i = ⟨(((bl s).drop b).take (i - b)).toArray⟩ := by
 apply ba_of
 rw [ByteArray.data_extract]
 simp [List.extract_eq_take_drop]
theorem Tryz.infoStr : (Tryz.prog.info? 9).map (fun i => (i.zero,i.size,i.bytes)) = some (some (.string ⟨#[]⟩),1,16) := by kernel_rfl
abbrev TxRow (w : World) (B : Nat) (v : Value) (fs : List (List UInt8)) : Prop := w.ownsRow B 9 1 v fs.length (fs.map tx)
theorem row_form {w : World} {B : Nat} {e : TypeId} {size : Nat} {v : Value} {n : Nat} {xs : List Value} (h : w.ownsRow B e size v n xs) : ∃ ao n' cap,v = .slice ao n' cap := by
 rcases h.2 with ⟨hv,_⟩ | ⟨g,cap,cur,hv,_⟩
 ·exact ⟨_,_,_,hv⟩
 ·exact ⟨_,_,_,hv⟩
theorem news_oneS (w : World) (x : Value) (t : TypeId) (hx : x.oneCell' = true) : ∀ (j : Nat) u,[x][j]? = some u → (w.alloc (.cells #[x] t)).cell? ((⟨w.heap.size,0,none⟩ : Addr).add j) = some u := by
 intro j u hj
 match j,hj with
 | 0,hj => simp at hj; subst hj; simp [Addr.add]
theorem one_tx (l : List UInt8) : ∀ u ∈ [tx l],u.oneCell' = true := by intro u hu; simp at hu; subst hu; rfl
end Go.Proofs.YtkdgkomnbjepdaaGreatDoor
namespace Go.Proofs.YtkdgkomnbjepdaaGreatDoor
open Go.RowKit Go.Sort
set_option linter.unusedVariables false
attribute [local go_sem ↓] Go.wp_at_zero Go.wp_at_succ
theorem nDigits_lt : ∀ (k u : Nat),u < 10 ^ (k + 1) → Lib.nDigits u ≤ k + 1
 | 0,u,h => by rw [Lib.nDigits_small (by simpa using h)]; omega
 | k + 1,u,h => by
  by_cases h2 : u < 10
  ·rw [Lib.nDigits_small h2]; omega
  ·rw [Lib.nDigits_big h2]
   have := nDigits_lt k (u / 10) (by rw [Nat.pow_succ] at h; omega)
   omega
theorem itoa_len20 {n : Int} (h0 : -9223372036854775808 ≤ n) (h1 : n ≤ 9223372036854775807) : 1 ≤ (Lib.itoa n).length ∧ (Lib.itoa n).length ≤ 20 := by
 unfold Lib.itoa
 split
 ·have := nDigits_lt 18 n.natAbs (by omega)
  have h2 := Lib.decDigits_length n.natAbs
  simp; omega
 ·have := nDigits_lt 18 n.toNat (by omega)
  have h2 := Lib.decDigits_length n.toNat
  have h3 := Lib.nDigits_pos n.toNat
  omega
theorem num_digits {l : List UInt8} {v : Int} (h : num? l = some v) (k : Nat) (hk : k < l.length) : (k = 0 ∧ l.getD k 0 = 45) ∨ (48 ≤ (l.getD k 0).toNat ∧ (l.getD k 0).toNat ≤ 57) := by
 obtain ⟨h1,_,_⟩ := num_some h
 subst h1
 revert hk
 unfold Lib.itoa
 split
 ·intro hk
  cases k with
  | zero => left; exact ⟨rfl,rfl⟩
  | succ j =>
   right
   have := dec_digits v.natAbs ((Lib.decDigits v.natAbs).getD j 0) (by
    have hj : j < (Lib.decDigits v.natAbs).length := by simpa using hk
    rw [List.getD_eq_getElem?_getD,List.getElem?_eq_getElem hj]; simp)
   simpa using this
 ·intro hk
  right
  have := dec_digits v.toNat ((Lib.decDigits v.toNat).getD k 0) (by
   rw [List.getD_eq_getElem?_getD,List.getElem?_eq_getElem hk]; simp)
  exact this
theorem num_len {l : List UInt8} {v : Int} (h : num? l = some v) : 1 ≤ l.length ∧ l.length ≤ 20 := by
 obtain ⟨h1,h2,h3⟩ := num_some h
 subst h1
 exact itoa_len20 h2 h3
theorem str_ne {t s : ByteArray} (h : ¬ t = s) : (t.toList == s.toList) = false := by
 rw [beq_eq_false_iff_ne,ne_eq,ByteArray.toList_eq,ByteArray.toList_eq]
 exact fun e => h (ByteArray.ext (Array.toList_inj.1 e))
end Go.Proofs.YtkdgkomnbjepdaaGreatDoor
namespace Go.Proofs.YtkdgkomnbjepdaaGreatDoor
open Go.RowKit Go.Sort
set_option linter.unusedVariables false
attribute [local go_sem ↓] Go.wp_at_zero Go.wp_at_succ
theorem addr_plus (b off i : Nat) : (⟨b,off,none⟩ : Addr).add i = ⟨b,off + i,none⟩ := by
 by_cases h : i = 0
 ·subst h; simp [Addr.add]
 ·simp [Addr.add,h]
def StrsOf (w : World) (ao : Option Addr) (n : Nat) (fs : List (List UInt8)) : Prop :=
 fs.length = n ∧ (0 < n → ∃ b off,ao = some ⟨b,off,none⟩ ∧ b < w.heap.size ∧ ∀ i,i < n → w.cell? ⟨b,off + i,none⟩ = some (tx (fs.getD i [])))
theorem StrsOf.below {w w' : World} {ao : Option Addr} {n : Nat} {fs : List (List UInt8)} (h : StrsOf w ao n fs) (hb : Below w.heap.size w w') : StrsOf w' ao n fs :=
 ⟨h.1,fun hn => by
  obtain ⟨b,off,e,hlt,hc⟩ := h.2 hn
  exact ⟨b,off,e,Nat.lt_of_lt_of_le hlt hb.size,fun i hi => (hb.cell (p := ⟨b,off + i,none⟩) hlt).trans (hc i hi)⟩⟩
theorem TxRow.strs {w : World} {B n cap : Nat} {ao : Option Addr} {fs : List (List UInt8)} (h : TxRow w B (.slice ao n cap) fs) : StrsOf w ao n fs ∧ n ≤ cap := by
 rcases h.2 with ⟨h0,h1⟩ | ⟨g,cap',cur,h1,h2,h3,h4⟩
 ·simp only [Value.slice.injEq] at h0
  obtain ⟨rfl,rfl,rfl⟩ := h0
  exact ⟨⟨h1,fun h => absurd h (by omega)⟩,by omega⟩
 ·simp only [Value.slice.injEq] at h1
  obtain ⟨rfl,rfl,rfl⟩ := h1
  refine ⟨⟨rfl,fun hn => ⟨g,0,rfl,lt_of_block h3,fun i hi => ?_⟩⟩,h4.1⟩
  have := World.ownsRow.cells (g := g) h rfl i (tx (fs.getD i [])) (by simp [List.getD_eq_getElem?_getD,hi])
  rw [addr_plus] at this
  exact this
theorem StrsOf.one {w : World} {b off n : Nat} {fs : List (List UInt8)} (h : StrsOf w (some ⟨b,off,none⟩) (n + 1) fs) : w.cell? ⟨b,off,none⟩ = some (tx (fs.getD 0 [])) ∧ b < w.heap.size ∧ ∀ ao,(ao = some ⟨b,off + 1,none⟩ ∨ n = 0) → StrsOf w ao n fs.tail := by
 obtain ⟨b',off',e,hlt,hc⟩ := h.2 (by omega)
 simp only [Option.some.injEq,Addr.mk.injEq] at e
 obtain ⟨rfl,rfl,_⟩ := e
 refine ⟨by simpa using hc 0 (by omega),hlt,fun ao ha => ⟨by simp [h.1],fun hn => ?_⟩⟩
 rcases ha with rfl | ha
 ·refine ⟨b,off + 1,rfl,hlt,fun i hi => ?_⟩
  have := hc (i + 1) (by omega)
  rw [show off + 1 + i = off + (i + 1) by omega,this]
  congr 2
  cases fs with
  | nil => have := h.1; simp at this
  | cons f r => simp
 ·omega
def placeN : List (List UInt8) → List UInt8 → Nat → Int
 | [],_,_ => -1
 | f :: r,x,k => if f = x then (k : Int) else placeN r x (k + 1)
theorem drop_getD_cons {fs : List (List UInt8)} {k : Nat} (h : k < fs.length) : fs.drop k = fs.getD k [] :: fs.drop (k + 1) := by
 rw [List.drop_eq_getElem_cons h]
 simp [List.getD_eq_getElem?_getD,h]
theorem ba_bl {x : List UInt8} {s : ByteArray} : (⟨x.toArray⟩ : ByteArray) = s ↔ x = bl s := by
 constructor
 ·intro h; rw [← h]
 ·intro h; rw [h]
def nums : List (List UInt8) → Option (List Int)
 | [] => some []
 | f :: r => (num? f).bind fun a => (nums r).map fun l => a :: l
theorem nums_len : ∀ {fs : List (List UInt8)} {zs : List Int},nums fs = some zs → zs.length = fs.length
 | [],zs,h => by simp [nums] at h; subst h; rfl
 | f :: r,zs,h => by
  simp only [nums,Option.bind_eq_some_iff,Option.map_eq_some_iff] at h
  obtain ⟨a,_,l,hl,rfl⟩ := h
  simp [nums_len hl]
def numsN (fs : List (List UInt8)) (n : Nat) : Option (List Int) := if n ≤ fs.length then nums (fs.take n) else none
theorem Tryz.infoI : (Tryz.prog.info? 3).map (fun i => (i.zero,i.size,i.bytes)) = some (some (.int .i64 0),1,8) := by kernel_rfl
theorem one_int (z : Int) : ∀ u ∈ [Value.int .i64 z],u.oneCell' = true := by intro u hu; simp at hu; subst hu; rfl
theorem take_snocF {fs : List (List UInt8)} {k : Nat} (h : k < fs.length) : fs.take (k + 1) = fs.take k ++ [fs.getD k []] := by
 rw [List.take_add_one]
 simp [List.getD_eq_getElem?_getD,h]
end Go.Proofs.YtkdgkomnbjepdaaGreatDoor
