import Derived.Test.YtkdgkomnbjepdaaGreatDoorRc
import Derived.Test.YtkdgkomnbjepdaaGreatDoorLa
namespace Go.Proofs.YtkdgkomnbjepdaaGreatDoor
open Go.RowKit Go.Sort
set_option linter.unusedVariables false
theorem five_cc {w : World} {H : Nat} {a b c d e : Value} {t : TypeId} (k : w.heap[H]? = some (.cells #[a,b,c,d,e] t (0,0))) : w.cell? ⟨H,0,none⟩ = some a ∧ w.cell? ⟨H,1,none⟩ = some b ∧ w.cell? ⟨H,2,none⟩ = some c ∧ w.cell? ⟨H,3,none⟩ = some d ∧ w.cell? ⟨H,4,none⟩ = some e := by
 simp [World.cell?,k]
theorem set5 {w : World} {H : Nat} {a b c d e : Value} {t : TypeId} (k : w.heap[H]? = some (.cells #[a,b,c,d,e] t (0,0))) (v0 v1 v2 v3 v4 : Value) : (((((w.setCell ⟨H,0,none⟩ v0).setCell ⟨H,1,none⟩ v1).setCell ⟨H,2,none⟩ v2).setCell ⟨H,3,none⟩ v3).setCell ⟨H,4,none⟩ v4).heap[H]? = some (.cells #[v0,v1,v2,v3,v4] t (0,0)) := by
 have h0 := heap_setCell_same w H 0 _ _ v0 k
 have h1 := heap_setCell_same _ H 1 _ _ v1 h0
 have h2 := heap_setCell_same _ H 2 _ _ v2 h1
 have h3 := heap_setCell_same _ H 3 _ _ v3 h2
 have h4 := heap_setCell_same _ H 4 _ _ v4 h3
 simpa using h4
def formV (k : Int) (c : Bool) : Array Value := #[.int .i64 k,tx (stmName k),.bool (giveA k),.bool (giveB k),.bool c]
def formsC : Array Value := formV 1 true ++ formV 2 true ++ formV 3 true ++ formV 4 true ++ formV 5 true ++ formV 6 false ++ formV 7 false ++ formV 8 true ++ formV 9 false
def formC2 (k : Nat) : Bool := decide (k + 1 = 1 ∨ k + 1 = 2 ∨ k + 1 = 3 ∨ k + 1 = 4 ∨ k + 1 = 5 ∨ k + 1 = 8)
theorem formsC_size : (Tryz.prog.info? 238).map (fun i => i.size) = some 45 := by kernel_rfl
set_option maxRecDepth 100000 in
theorem forms_at (k : Nat) (hk : k < 9) : ∀ W,(Instr.index 238 (.agg formsC) (.int .i64 k)).run Tryz.prog W = .ok (.agg #[.int .i64 ((k : Int) + 1),.string ⟨(stmName ((k : Int) + 1)).toArray⟩,.bool (giveA ((k : Int) + 1)),.bool (giveB ((k : Int) + 1)),.bool (formC2 k)]) W := by
 have : k = 0 ∨ k = 1 ∨ k = 2 ∨ k = 3 ∨ k = 4 ∨ k = 5 ∨ k = 6 ∨ k = 7 ∨ k = 8 := by omega
 rcases this with rfl | rfl | rfl | rfl | rfl | rfl | rfl | rfl | rfl <;> intro W <;> kernel_rfl
def wordsC : Array Value := #[tx [97,114,103],.int .i64 3,.int .i64 0,tx [43],.int .i64 4,.int .i64 0,tx [45],.int .i64 5,.int .i64 0,tx [42],.int .i64 6,.int .i64 0,tx [47],.int .i64 7,.int .i64 0,tx [37],.int .i64 8,.int .i64 0,tx [61],.int .i64 9,.int .i64 0,tx [60],.int .i64 10,.int .i64 0,tx [97,110,100],.int .i64 11,.int .i64 0,tx [111,114],.int .i64 12,.int .i64 0,tx [110,111,116],.int .i64 13,.int .i64 0,tx [38],.int .i64 14,.int .i64 0,tx [124],.int .i64 15,.int .i64 0,tx [94],.int .i64 16,.int .i64 0,tx [60,60],.int .i64 17,.int .i64 0,tx [62,62],.int .i64 18,.int .i64 0,tx [105,56],.int .i64 19,.int .i64 1,tx [105,49,54],.int .i64 19,.int .i64 2,tx [105,51,50],.int .i64 19,.int .i64 3,tx [105,54,52],.int .i64 19,.int .i64 4,tx [117,56],.int .i64 19,.int .i64 5,tx [117,49,54],.int .i64 19,.int .i64 6,tx [117,51,50],.int .i64 19,.int .i64 7]
def itO (k : Nat) : Int := if k < 16 then (k : Int) + 3 else 19
def itV (k : Nat) : Int := if k < 16 then 0 else (k : Int) - 15
theorem wordsC_size : (Tryz.prog.info? 212).map (fun i => i.size) = some 69 := by kernel_rfl
set_option maxRecDepth 100000 in
theorem words_at (k : Nat) (hk : k < 23) : ∀ W,(Instr.index 212 (.agg wordsC) (.int .i64 k)).run Tryz.prog W = .ok (.agg #[.string ⟨(wordT (itO k) (itV k)).toArray⟩,.int .i64 (itO k),.int .i64 (itV k)]) W := by
 have : k = 0 ∨ k = 1 ∨ k = 2 ∨ k = 3 ∨ k = 4 ∨ k = 5 ∨ k = 6 ∨ k = 7 ∨ k = 8 ∨ k = 9 ∨ k = 10 ∨ k = 11 ∨ k = 12 ∨ k = 13 ∨ k = 14 ∨ k = 15 ∨ k = 16 ∨ k = 17 ∨ k = 18 ∨ k = 19 ∨ k = 20 ∨ k = 21 ∨ k = 22 := by omega
 rcases this with rfl | rfl | rfl | rfl | rfl | rfl | rfl | rfl | rfl | rfl | rfl | rfl | rfl | rfl | rfl | rfl | rfl | rfl | rfl | rfl | rfl | rfl | rfl <;> intro W <;> kernel_rfl
end Go.Proofs.YtkdgkomnbjepdaaGreatDoor
namespace Go.Proofs.YtkdgkomnbjepdaaGreatDoor
open Go.RowKit Go.Sort
set_option linter.unusedVariables false
set_option linter.unusedSimpArgs false
/-! What the program reads of a field,also where it is wrong. -/
def wordsL : List (List UInt8) := [wordT 3 0,wordT 4 0,wordT 5 0,wordT 6 0,wordT 7 0,wordT 8 0,wordT 9 0,wordT 10 0,wordT 11 0,wordT 12 0,wordT 13 0,wordT 14 0,wordT 15 0,wordT 16 0,wordT 17 0,wordT 18 0,wordT 19 1,wordT 19 2,wordT 19 3,wordT 19 4,wordT 19 5,wordT 19 6,wordT 19 7]
def rdI (f : List UInt8) : Int × Int :=
 if 0 ≤ placeN wordsL f 0 then (itO (placeN wordsL f 0).toNat,itV (placeN wordsL f 0).toNat)
 else if f.head? = some 118 then (2,(num? f.tail).getD 0)
 else (1,(num? f).getD 0)
def okI (f : List UInt8) : Bool :=
 if 0 ≤ placeN wordsL f 0 then true
 else if f.head? = some 118 then (num? f.tail).isSome && decide (0 ≤ (num? f.tail).getD 0)
 else (num? f).isSome
theorem placeN_get : ∀ (l : List (List UInt8)) (x : List UInt8) (k : Nat),0 ≤ placeN l x k → ∃ i,i < l.length ∧ placeN l x k = (k + i : Nat) ∧ l.getD i [] = x
 | [],x,k,h => by simp [placeN] at h
 | f :: r,x,k,h => by
  unfold placeN at h ⊢
  by_cases e : f = x
  ·rw [if_pos e]
   exact ⟨0,by simp,rfl,by simpa using e⟩
  ·rw [if_neg e] at h ⊢
   obtain ⟨i,h1,h2,h3⟩ := placeN_get r x (k + 1) h
   exact ⟨i + 1,by simp; omega,by rw [h2]; congr 1; omega,by simpa using h3⟩
theorem placeN_no : ∀ (l : List (List UInt8)) (x : List UInt8) (k : Nat),¬ 0 ≤ placeN l x k → ∀ f ∈ l,¬ f = x
 | [],x,k,h,f,hf => by cases hf
 | g :: r,x,k,h,f,hf => by
  unfold placeN at h
  by_cases e : g = x
  ·rw [if_pos e] at h; exact absurd (Int.natCast_nonneg k) h
  ·rw [if_neg e] at h
   rcases List.mem_cons.1 hf with rfl | hf
   ·exact e
   ·exact placeN_no r x (k + 1) h f hf
theorem placeN_out : ∀ (l : List (List UInt8)) (x : List UInt8) (k : Nat),(∀ f ∈ l,¬ f = x) → ¬ 0 ≤ placeN l x k
 | [],x,k,h => by simp [placeN]
 | g :: r,x,k,h => by
  unfold placeN
  rw [if_neg (h g (List.mem_cons_self ..))]
  exact placeN_out r x (k + 1) (fun f hf => h f (List.mem_cons_of_mem _ hf))
theorem num_v (x : List UInt8) : num? (118 :: x) = none := by
 cases h : num? (118 :: x) with
 | none => rfl
 | some v =>
  rcases num_digits h 0 (by simp) with ⟨_,h2⟩ | h2
  ·simp at h2
  ·simp at h2
theorem num_or (x : List UInt8) : num? x = none ∨ ∃ n,num? x = some n := by
 cases num? x with
 | none => exact .inl rfl
 | some n => exact .inr ⟨n,rfl⟩
theorem num_sign {x : List UInt8} {n : Int} (h : num? x = some n) : 0 ≤ n ↔ ¬ x.getD 0 0 = 45 := by
 obtain ⟨h1,_,_⟩ := num_some h
 rw [← h1]
 unfold Lib.itoa
 by_cases hn : n < 0
 ·rw [if_pos hn]
  simp; omega
 ·rw [if_neg hn]
  refine ⟨fun _ => ?_,fun _ => by omega⟩
  have hne := dec_ne n.toNat
  cases hd : Lib.decDigits n.toNat with
  | nil => exact absurd hd hne
  | cons c r =>
   have := dec_digits n.toNat c (by rw [hd]; simp)
   simp
   intro e
   rw [e] at this
   exact absurd this.1 (by decide)
set_option maxRecDepth 100000 in
theorem item_word : ∀ i,i < 23 → itemW (wordsL.getD i []) = some (itO i,itV i) := by
 intro i hi
 have : i = 0 ∨ i = 1 ∨ i = 2 ∨ i = 3 ∨ i = 4 ∨ i = 5 ∨ i = 6 ∨ i = 7 ∨ i = 8 ∨ i = 9 ∨ i = 10 ∨ i = 11 ∨ i = 12 ∨ i = 13 ∨ i = 14 ∨ i = 15 ∨ i = 16 ∨ i = 17 ∨ i = 18 ∨ i = 19 ∨ i = 20 ∨ i = 21 ∨ i = 22 := by omega
 rcases this with rfl | rfl | rfl | rfl | rfl | rfl | rfl | rfl | rfl | rfl | rfl | rfl | rfl | rfl | rfl | rfl | rfl | rfl | rfl | rfl | rfl | rfl | rfl <;> rfl
theorem itemW_is (f : List UInt8) : itemW f = if okI f = true then some (rdI f) else none := by
 by_cases h : 0 ≤ placeN wordsL f 0
 ·obtain ⟨i,h1,h2,h3⟩ := placeN_get wordsL f 0 h
  rw [Nat.zero_add] at h2
  unfold okI rdI
  rw [if_pos h,if_pos h,if_pos rfl,h2,Int.toNat_natCast,← h3]
  exact item_word i h1
 ·have hn := placeN_no wordsL f 0 h
  unfold okI rdI
  rw [if_neg h,if_neg h]
  have n1 : ¬ 0 ≤ placeN opsL f 0 := placeN_out _ _ _ (fun g hg => hn g (by
   simp only [opsL,List.mem_cons,List.not_mem_nil,or_false] at hg
   rcases hg with rfl | rfl | rfl | rfl | rfl | rfl | rfl | rfl | rfl | rfl | rfl | rfl | rfl | rfl | rfl <;> decide))
  have n2 : ¬ 0 ≤ placeN kindsL f 0 := placeN_out _ _ _ (fun g hg => hn g (by
   simp only [kindsL,List.mem_cons,List.not_mem_nil,or_false] at hg
   rcases hg with rfl | rfl | rfl | rfl | rfl | rfl | rfl <;> decide))
  have n3 : ¬ f = wArg := fun e => hn wArg (by decide) e.symm
  unfold itemW
  rw [if_neg n1,if_neg n2,if_neg n3]
  cases f with
  | nil => simp [num_nil]
  | cons c x =>
   by_cases hc : c = 118
   ·subst hc
    simp only [List.head?_cons,if_true,List.tail_cons]
    by_cases hx : x.getD 0 0 = 45
    ·rw [if_neg (by simp only [List.getD_cons_succ]; intro hh; exact hh.2.2 hx),num_v]
     rcases num_or x with hq | ⟨n,hq⟩
     ·simp [hq]
     ·have := num_sign hq
      simp only [hx,not_true,iff_false] at this
      simp [hq,this]
    ·cases x with
     | nil => simp [num_v,num_nil]
     | cons d y =>
      rw [if_pos ⟨by simp,by simp,by simpa using hx⟩]
      rcases num_or (d :: y) with hq | ⟨n,hq⟩
      ·simp [hq]
      ·have := (num_sign hq).2 hx
       simp [hq,this]
   ·simp only [List.head?_cons,Option.some.injEq,hc,if_false]
    rw [if_neg (by simp [hc])]
    cases num? (c :: x) <;> rfl
theorem codeW_is : ∀ fs : List (List UInt8),codeW fs = if fs.all okI = true then some (fs.map rdI) else none
 | [] => rfl
 | f :: r => by
  unfold codeW
  rw [itemW_is f,codeW_is r]
  cases hf : okI f <;> cases hr : r.all okI <;> simp [hf,hr]
def kindO (f : List UInt8) : Int := if 0 ≤ placeN stmsL f 0 then 1 + placeN stmsL f 0 else 0
def stA (f : List UInt8) (r : List (List UInt8)) : List (List UInt8) := if giveA (kindO f) then r.tail else r
def stB (f : List UInt8) (r : List (List UInt8)) : List (List UInt8) := if giveB (kindO f) then (stA f r).tail else stA f r
def rdS (fs : List (List UInt8)) : StmD := ⟨kindO (fs.getD 0 []),if giveA (kindO (fs.getD 0 [])) then rdN fs.tail else 0,if giveB (kindO (fs.getD 0 [])) then rdN (stA (fs.getD 0 []) fs.tail) else 0,if formC (kindO (fs.getD 0 [])) then (stB (fs.getD 0 []) fs.tail).map rdI else []⟩
def rsS (fs : List (List UInt8)) : List (List UInt8) := if formC (kindO (fs.getD 0 [])) then [] else stB (fs.getD 0 []) fs.tail
def okS (fs : List (List UInt8)) : Bool := decide (0 ≤ placeN stmsL (fs.getD 0 []) 0) && (!giveA (kindO (fs.getD 0 [])) || okN fs.tail) && (!giveB (kindO (fs.getD 0 [])) || okN (stA (fs.getD 0 []) fs.tail)) && (!formC (kindO (fs.getD 0 [])) || (stB (fs.getD 0 []) fs.tail).all okI)
theorem numsN_0 (r : List (List UInt8)) : numsN r 0 = some [] := by simp [numsN,nums]
theorem numsN_1 (r : List (List UInt8)) : numsN r 1 = if okN r = true then some [rdN r] else none := by
 cases r with
 | nil => simp [numsN,okN,num_nil]
 | cons a t =>
  unfold numsN okN rdN
  rw [if_pos (by simp)]
  simp only [List.take_succ_cons,List.take_zero,List.getD_cons_zero]
  cases h : num? a <;> simp [nums,h]
theorem numsN_2 (r : List (List UInt8)) : numsN r 2 = if okN r = true ∧ okN r.tail = true then some [rdN r,rdN r.tail] else none := by
 match r with
 | [] => simp [numsN,okN,num_nil]
 | [a] => simp [numsN,okN,num_nil]
 | a :: b :: t =>
  unfold numsN okN rdN
  rw [if_pos (by simp)]
  simp only [List.take_succ_cons,List.take_zero,List.getD_cons_zero,List.tail_cons]
  cases h : num? a <;> cases h2 : num? b <;> simp [nums,h,h2]
theorem drop_2 (r : List (List UInt8)) : r.drop 2 = r.tail.tail := by cases r <;> simp
theorem len_1 {r : List (List UInt8)} (h : okN r = true) : (r.length = 1) = (r.tail.isEmpty = true) := by
 match r with
 | [] => simp [okN,num_nil] at h
 | [a] => simp
 | a :: b :: t => simp
theorem len_2 {r : List (List UInt8)} (h : okN r = true) (h2 : okN r.tail = true) : (r.length = 2) = (r.tail.tail.isEmpty = true) := by
 match r with
 | [] => simp [okN,num_nil] at h
 | [a] => simp [okN,num_nil] at h2
 | [a,b] => simp
 | a :: b :: c :: t => simp
theorem stms_nil : ¬ 0 ≤ placeN stmsL [] 0 := by decide
theorem stmW_is (fs : List (List UInt8)) : stmW fs = if (okS fs && (rsS fs).isEmpty) = true then some (rdS fs) else none := by
 cases fs with
 | nil => simp [stmW,okS,stms_nil]
 | cons f r =>
  unfold stmW okS rsS rdS stB stA
  simp only [List.getD_cons_zero,List.tail_cons]
  by_cases hp : 0 ≤ placeN stmsL f 0
  ·rw [if_neg (by omega)]
   have hk : kindO f = 1 + placeN stmsL f 0 := by unfold kindO; rw [if_pos hp]
   rw [← hk]
   simp only [hp,decide_true,Bool.true_and]
   unfold formT
   cases hA : giveA (kindO f) <;> cases hB : giveB (kindO f) <;> cases hC : formC (kindO f)
   all_goals
    simp only [List.length_append,List.length_nil,List.length_singleton,if_true,if_false,Bool.false_eq_true,Nat.add_zero,Nat.zero_add,Nat.reduceAdd,numsN_0,numsN_1,numsN_2,Bool.not_true,Bool.not_false,Bool.false_or,Bool.true_or,Bool.and_true,Bool.true_and,List.drop_zero,List.isEmpty_nil]
   ·cases r <;> simp
   ·rw [codeW_is]; cases h : r.all okI <;> simp [h]
   ·cases ho : okN r
    ·simp [ho]
    ·simp only [ho,if_true,len_1 ho]
     cases h : r.tail.isEmpty <;> simp [h,List.getD]
   ·cases ho : okN r
    ·simp [ho]
    ·simp only [ho,if_true,List.drop_one,codeW_is]
     cases h : r.tail.all okI <;> simp [h,List.getD]
   ·cases ho : okN r
    ·simp [ho]
    ·simp only [ho,if_true,len_1 ho]
     cases h : r.tail.isEmpty <;> simp [h,List.getD]
   ·cases ho : okN r
    ·simp [ho]
    ·simp only [ho,if_true,List.drop_one,codeW_is]
     cases h : r.tail.all okI <;> simp [h,List.getD]
   ·cases ho : okN r
    ·simp [ho]
    ·cases ho2 : okN r.tail
     ·simp [ho,ho2]
     ·simp only [ho,ho2,and_self,if_true,len_2 ho ho2]
      cases h : r.tail.tail.isEmpty <;> simp [h,List.getD]
   ·cases ho : okN r
    ·simp [ho]
    ·cases ho2 : okN r.tail
     ·simp [ho,ho2]
     ·simp only [ho,ho2,and_self,if_true,drop_2,codeW_is]
      cases h : r.tail.tail.all okI <;> simp [h,List.getD]
  ·rw [if_pos (by omega)]
   simp [hp]
end Go.Proofs.YtkdgkomnbjepdaaGreatDoor
