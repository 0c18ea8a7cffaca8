import Derived.Test.YtkkiiffhfjkoaaaGreatDoorPs1
import Derived.Test.YtkkiiffhfjkoaaaGreatDoorOa
namespace Go.Proofs.YtkkiiffhfjkoaaaGreatDoor
open Go.RowKit Go.Sort
set_option linter.unusedVariables false

/-- Texts one behind another. -/
def catTo (f : Nat → List UInt8) : Nat → List UInt8
  | 0 => []
  | n + 1 => catTo f n ++ f n
theorem catTo_len {f : Nat → List UInt8} {c : Nat} : ∀ {n : Nat}, (∀ i, i < n → (f i).length ≤ c) → (catTo f n).length ≤ n * c
  | 0, _ => by simp [catTo]
  | n + 1, h => by
    have h1 := catTo_len (f := f) (c := c) (n := n) (fun i hi => h i (by omega))
    have h2 := h n (by omega)
    simp only [catTo, List.length_append, Nat.add_mul]
    omega
def kindName (k : Int) : List UInt8 := if k = 1 then [105, 56] else if k = 2 then [105, 49, 54] else if k = 3 then [105, 51, 50] else if k = 4 then [105, 54, 52] else if k = 5 then [117, 56] else if k = 6 then [117, 49, 54] else [117, 51, 50]
def opName (o : Int) : List UInt8 := if o = 4 then [43] else if o = 5 then [45] else if o = 6 then [42] else if o = 7 then [47] else if o = 8 then [37] else if o = 9 then [61] else if o = 10 then [60] else if o = 11 then [97, 110, 100] else if o = 12 then [111, 114] else if o = 13 then [110, 111, 116] else if o = 14 then [38] else if o = 15 then [124] else if o = 16 then [94] else if o = 17 then [60, 60] else [62, 62]
def stmName (k : Int) : List UInt8 := if k = 1 then [115, 101, 116] else if k = 2 then [101, 109, 105, 116] else if k = 3 then [112, 111, 115, 116] else if k = 4 then [102, 114, 111, 110, 116] else if k = 5 then [112, 117, 98, 108, 105, 115, 104] else if k = 6 then [100, 101, 102, 101, 114] else if k = 7 then [114, 101, 99, 97, 108, 108] else if k = 8 then [97, 114, 109] else [100, 105, 115, 97, 114, 109]
def giveA (k : Int) : Bool := decide (k = 1 ∨ k = 3 ∨ k = 4 ∨ k = 8 ∨ k = 9)
def giveB (k : Int) : Bool := decide (k = 3 ∨ k = 4 ∨ k = 5 ∨ k = 8)
/-- An item's word. -/
def wordT (o v : Int) : List UInt8 := if o = 1 then Lib.itoa v else if o = 2 then [118] ++ Lib.itoa v else if o = 3 then [97, 114, 103] else if o = 19 then kindName v else opName o
def codeT (its : List (Int × Int)) (n : Nat) : List UInt8 := catTo (fun i => [32] ++ wordT (its.getD i (0, 0)).1 (its.getD i (0, 0)).2) n
def fieldT (b : Bool) (z : Int) : List UInt8 := if b then [32] ++ Lib.itoa z else []
def stmT (s : StmD) : List UInt8 := stmName s.kind ++ fieldT (giveA s.kind) s.a ++ fieldT (giveB s.kind) s.b ++ codeT s.code s.code.length
def stmsT (key : List UInt8) (ss : List StmD) (n : Nat) : List UInt8 := catTo (fun i => key ++ [32] ++ stmT (ss.getD i stm0) ++ [10]) n
def numT (ns : List Int) (n : Nat) : List UInt8 := catTo (fun i => [32] ++ Lib.itoa (ns.getD i 0)) n
def lineT (wd : List UInt8) (ns : List Int) : List UInt8 := wd ++ numT ns ns.length ++ [10]

abbrev I64 (z : Int) : Prop := -9223372036854775808 ≤ z ∧ z ≤ 9223372036854775807
theorem itoa_l {z : Int} (h : I64 z) : (Lib.itoa z).length ≤ 21 := itoa_len h.1 h.2
theorem ite_l {c : Prop} [Decidable c] {a b : List UInt8} {n : Nat} (ha : a.length ≤ n) (hb : b.length ≤ n) : (if c then a else b).length ≤ n := by split <;> assumption
theorem kindName_l (k : Int) : (kindName k).length ≤ 3 := by
  unfold kindName
  repeat (refine ite_l (by decide) ?_)
  decide
theorem opName_l (k : Int) : (opName k).length ≤ 3 := by
  unfold opName
  repeat (refine ite_l (by decide) ?_)
  decide
theorem stmName_l (k : Int) : (stmName k).length ≤ 7 := by
  unfold stmName
  repeat (refine ite_l (by decide) ?_)
  decide
/-- What is asked of an item so that it has a word. -/
structure ItOK (o v : Int) : Prop where
  lo : 1 ≤ o
  hi : o ≤ 19
  val : I64 v
  knd : o = 19 → 1 ≤ v ∧ v ≤ 7
  nul : ¬ o = 1 → ¬ o = 2 → ¬ o = 19 → v = 0
theorem itOK_of {vars o v : Int} (hv : vars ≤ 32) (h : itemB vars o v = true) : ItOK o v := by
  unfold itemB at h
  split at h
  · subst o; simp at h; exact ⟨by omega, by omega, ⟨by omega, by omega⟩, by omega, by omega⟩
  · split at h
    · subst o; simp at h; exact ⟨by omega, by omega, ⟨by omega, by omega⟩, by omega, by omega⟩
    · split at h
      · subst o; simp at h; exact ⟨by omega, by omega, ⟨by omega, by omega⟩, fun _ => by omega, by omega⟩
      · simp at h; exact ⟨by omega, by omega, ⟨by omega, by omega⟩, by omega, by omega⟩
theorem wordT_l {o v : Int} (h : ItOK o v) : (wordT o v).length ≤ 22 := by
  have h1 := itoa_l h.val
  have h2 := kindName_l v
  have h3 := opName_l o
  unfold wordT
  repeat' split
  all_goals simp
  all_goals omega
abbrev CodeOK (its : List (Int × Int)) : Prop := its.length ≤ 200 ∧ ∀ i, i < its.length → ItOK (its.getD i (0, 0)).1 (its.getD i (0, 0)).2
theorem codeT_l {its : List (Int × Int)} (h : CodeOK its) {n : Nat} (hn : n ≤ its.length) : (codeT its n).length ≤ 4600 := by
  have h1 : (codeT its n).length ≤ n * 23 := catTo_len (fun i hi => by
    have := wordT_l (h.2 i (by omega))
    simp only [List.length_append, List.length_cons, List.length_nil]; omega)
  have := h.1
  omega
structure StmOK (s : StmD) : Prop where
  lo : 1 ≤ s.kind
  hi : s.kind ≤ 9
  a : I64 s.a
  b : I64 s.b
  code : CodeOK s.code
theorem fieldT_l {b : Bool} {z : Int} (h : I64 z) : (fieldT b z).length ≤ 22 := by
  have := itoa_l h
  unfold fieldT
  split <;> simp; omega
theorem stmT_l {s : StmD} (h : StmOK s) : (stmT s).length ≤ 4651 := by
  have h1 := stmName_l s.kind
  have h2 := fieldT_l (b := giveA s.kind) h.a
  have h3 := fieldT_l (b := giveB s.kind) h.b
  have h4 := codeT_l h.code (Nat.le_refl _)
  simp only [stmT, List.length_append]
  omega
abbrev StmsOK (ss : List StmD) : Prop := ss.length ≤ 50 ∧ ∀ i, i < ss.length → StmOK (ss.getD i stm0)
theorem stmsT_l {key : List UInt8} (hk : key.length ≤ 10) {ss : List StmD} (h : StmsOK ss) {n : Nat} (hn : n ≤ ss.length) : (stmsT key ss n).length ≤ 250000 := by
  have h1 : (stmsT key ss n).length ≤ n * 4700 := catTo_len (fun i hi => by
    have := stmT_l (h.2 i (by omega))
    simp only [List.length_append, List.length_cons, List.length_nil]; omega)
  have := h.1
  omega
theorem numT_l {ns : List Int} (hn : ns.length ≤ 10) (h : ∀ i, i < ns.length → I64 (ns.getD i 0)) {n : Nat} (hn' : n ≤ ns.length) : (numT ns n).length ≤ 220 := by
  have h1 : (numT ns n).length ≤ n * 22 := catTo_len (fun i hi => by
    have := itoa_l (h i (by omega))
    simp only [List.length_append, List.length_cons, List.length_nil]; omega)
  omega
theorem codeOK_of {vars : Int} {its : List (Int × Int)} (h : codeB its vars = true) : CodeOK its := by
  simp only [codeB, decide_eq_true_eq] at h
  exact ⟨h.2.1.2, fun i hi => itOK_of h.1.2 (h.2.2.1 i hi)⟩
theorem codeOK_nil {its : List (Int × Int)} (h : its.length = 0) : CodeOK its := ⟨by omega, fun i hi => by omega⟩
theorem stmOK_of {l : LimD} (hl : limP l) {s : StmD} (h : stmB l s = true) : StmOK s := by
  obtain ⟨⟨o1, o2⟩, ⟨s1, s2⟩, ⟨t1, t2⟩, v1, v2⟩ := hl
  simp only [stmB, Bool.and_eq_true, betB, decide_eq_true_eq] at h
  obtain ⟨⟨⟨⟨k1, k2⟩, a1, a2⟩, b1, b2⟩, hc⟩ := h
  have ha : mostA s.kind l ≤ 999999999 := by unfold mostA; repeat' split <;> omega
  have hb : mostB s.kind l ≤ 999999999 := by unfold mostB; repeat' split <;> omega
  refine ⟨k1, k2, ⟨by omega, by omega⟩, ⟨by omega, by omega⟩, ?_⟩
  split at hc
  · exact codeOK_of hc
  · exact codeOK_nil (by simpa using hc)
theorem stmsOK_of {l : LimD} {ss : List StmD} (h : stmsB l ss = true) : StmsOK ss := by
  simp only [stmsB, decide_eq_true_eq] at h
  exact ⟨h.2.1, fun i hi => stmOK_of h.1 (h.2.2 i hi)⟩
end Go.Proofs.YtkkiiffhfjkoaaaGreatDoor
