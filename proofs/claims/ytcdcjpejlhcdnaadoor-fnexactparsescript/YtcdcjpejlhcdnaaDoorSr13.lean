import Derived.Test.YtcdcjpejlhcdnaaDoorSr12
import Derived.MapKept
namespace Go.Proofs.YtcdcjpejlhcdnaaDoor
open Go.RowKit Go.Sort
set_option linter.unusedVariables false
attribute [local go_sem ↓] Go.wp_at_zero Go.wp_at_succ

/-- A word and its reader go into the map. -/
theorem put_new {W : World} {r n : Nat} {es : Array MapEntry} (key : ByteArray) (val : Value) (hb : W.heap[r]? = some (.map es n)) (hf : Instr.findNow .string (.string key) es.toList 0 = some none) :
    ∃ W1, (Instr.mapUpdate 48 (.map (some r)) (.string key) val).run Tryd.prog W = .ok () W1 ∧ W1.heap[r]? = some (.map (es.push { key := .string key, val := val, born := n }) (n + 1)) ∧ Tn (· = r) W W1 := by
  refine ⟨{ W with heap := W.heap.setIfInBounds r (.map (es.push { key := .string key, val := val, born := n }) (n + 1)) }, ?_, (MapKept.heap_set hb).1, ⟨rfl, rfl, rfl, by simp, fun b _ h => (MapKept.heap_set hb).2 b h⟩⟩
  have h1 := MapKept.run_checkKey (P := Tryd.prog) (w := W) (kt := 9) (d := .string) (k := .string key) Tryd.underlying9 (by simp [MapKept.IsKey]) false 9999
  have h2 := MapKept.run_findKey (P := Tryd.prog) (w := W) (kt := 9) (d := .string) (k := .string key) (l := es.toList) Tryd.underlying9 hf
  simp [Instr.mapUpdate, run_underlying Tryd.underlying48, MapKept.run_getObj_map hb, h1, h2, MapKept.run_setObj_map _ hb, Result.andThen]
theorem look_at {W : World} {r n : Nat} {es : Array MapEntry} (key : ByteArray) (i : Nat) (val : Value) (hb : W.heap[r]? = some (.map es n)) (hf : Instr.findNow .string (.string key) es.toList 0 = some (some (i, val))) :
    (Instr.lookup 48 (.map (some r)) (.string key) true).run Tryd.prog W = .ok (.tuple #[val, .bool true]) W := by
  have h1 := MapKept.run_checkKey (P := Tryd.prog) (w := W) (kt := 9) (d := .string) (k := .string key) Tryd.underlying9 (by simp [MapKept.IsKey]) es.isEmpty 9999
  have h2 := MapKept.run_findKey (P := Tryd.prog) (w := W) (kt := 9) (d := .string) (k := .string key) (l := es.toList) Tryd.underlying9 hf
  simp [Instr.lookup, run_underlying Tryd.underlying48, MapKept.run_getObj_map hb, h1, h2, Result.andThen]
theorem look_not {W : World} {r n : Nat} {es : Array MapEntry} (key : ByteArray) (hb : W.heap[r]? = some (.map es n)) (hf : Instr.findNow .string (.string key) es.toList 0 = some none) :
    (Instr.lookup 48 (.map (some r)) (.string key) true).run Tryd.prog W = .ok (.tuple #[.nilFunc, .bool false]) W := by
  have h1 := MapKept.run_checkKey (P := Tryd.prog) (w := W) (kt := 9) (d := .string) (k := .string key) Tryd.underlying9 (by simp [MapKept.IsKey]) es.isEmpty 9999
  have h2 := MapKept.run_findKey (P := Tryd.prog) (w := W) (kt := 9) (d := .string) (k := .string key) (l := es.toList) Tryd.underlying9 hf
  have hz : (zeroValue 82).run Tryd.prog W = .ok .nilFunc W := by kernel_rfl
  simp [Instr.lookup, run_underlying Tryd.underlying48, MapKept.run_getObj_map hb, h1, h2, hz, Result.andThen]
/-- The words and their readers. -/
def fnV (f R : Nat) : Value := .func (.func f) #[.pointer (some ⟨R, 0, none⟩)] #[]
def bPost : ByteArray := ⟨#[112, 111, 115, 116]⟩
def bPub : ByteArray := ⟨#[112, 117, 98, 108, 105, 115, 104]⟩
def bTick : ByteArray := ⟨#[116, 105, 99, 107]⟩
def bRun : ByteArray := ⟨#[114, 117, 110]⟩
def rdMap (R : Nat) : Array MapEntry := #[{ key := .string bPost, val := fnV 24 R, born := 0 }, { key := .string bPub, val := fnV 25 R, born := 1 }, { key := .string bTick, val := fnV 26 R, born := 2 }, { key := .string bRun, val := fnV 27 R, born := 3 }]
theorem beq_no {a b : ByteArray} (h : ¬ a = b) : (a == b) = false := by
  cases hx : (a == b) with
  | false => rfl
  | true => exact absurd ((MapKept.bytes_beq a b).1 hx) h
theorem find_not (R : Nat) (s : ByteArray) (h1 : ¬ s = bPost) (h2 : ¬ s = bPub) (h3 : ¬ s = bTick) (h4 : ¬ s = bRun) : Instr.findNow .string (.string s) (rdMap R).toList 0 = some none := by
  simp [rdMap, Instr.findNow, Instr.sameNow, beq_no h1, beq_no h2, beq_no h3, beq_no h4]

set_option maxRecDepth 100000 in
set_option maxHeartbeats 800000 in
theorem readers_any (R : Nat) (w : World) : Calls Tryd.prog 18 #[.pointer (some ⟨R, 0, none⟩)] w fun e w' => e = .returned (.map (some w.heap.size)) ∧ w'.heap[w.heap.size]? = some (.map (rdMap R) 4) ∧ Below w.heap.size w w' := by
  have hmm := @run_makeMap Tryd.prog
  obtain ⟨W1, e1, m1, t1⟩ := put_new bPost (fnV 24 R) (MapKept.heap_alloc w (.map #[] 0)).1 rfl
  obtain ⟨W2, e2, m2, t2⟩ := put_new bPub (fnV 25 R) m1 (by rfl)
  obtain ⟨W3, e3, m3, t3⟩ := put_new bTick (fnV 26 R) m2 (by rfl)
  obtain ⟨W4, e4, m4, t4⟩ := put_new bRun (fnV 27 R) m3 (by rfl)
  have M4 := hid (show W4.heap[w.heap.size]? = some (.map (rdMap R) 4) from m4)
  have T4 := hid ((((t1.trans t2).trans t3).trans t4).below (B := w.heap.size) (by simp) (fun i hi => by omega))
  have B0 := hid ((Below.refl w.heap.size w).alloc (Nat.le_refl _) (.map #[] 0))
  clear m1 m2 m3 m4 t1 t2 t3 t4
  unfold fnV bPost at e1
  unfold fnV bPub at e2
  unfold fnV bTick at e3
  unfold fnV bRun at e4
  go_enter Tryd.func18, Tryd.ntmps18
  go_wp2
  go_ret
  exact ⟨rfl, M4.out, B0.out.trans T4.out⟩

/-- A line is an item where its reading has no fault and leaves nothing. -/
theorem post_is (r : List (List UInt8)) : itemP r = if (badAll false [1, 2, 3] r || !(restAll [1, 2, 3] r).isEmpty) = true then none else some ⟨1, rdN r, rdN r.tail, rdN r.tail.tail⟩ := by
  match r with
  | [] => simp [itemP, nums, badAll, okN, num_nil]
  | [a] => cases ha : num? a <;> simp [itemP, nums, badAll, okN, num_nil, ha]
  | [a, b] => cases ha : num? a <;> cases hb : num? b <;> simp [itemP, nums, badAll, okN, num_nil, ha, hb]
  | [a, b, c] => cases ha : num? a <;> cases hb : num? b <;> cases hc : num? c <;> simp [itemP, nums, badAll, restAll, okN, rdN, ha, hb, hc]
  | a :: b :: c :: d :: t =>
    have : itemP (a :: b :: c :: d :: t) = none := by
      unfold itemP
      split
      · rename_i e; have := nums_len e; simp at this
      · rfl
    rw [this]
    simp [restAll]
theorem pub_is (r : List (List UInt8)) : itemU r = if (badAll false [2, 3] r || !(restAll [2, 3] r).isEmpty) = true then none else some ⟨2, 0, rdN r, rdN r.tail⟩ := by
  match r with
  | [] => simp [itemU, nums, badAll, okN, num_nil]
  | [a] => cases ha : num? a <;> simp [itemU, nums, badAll, okN, num_nil, ha]
  | [a, b] => cases ha : num? a <;> cases hb : num? b <;> simp [itemU, nums, badAll, restAll, okN, rdN, ha, hb]
  | a :: b :: c :: t =>
    have : itemU (a :: b :: c :: t) = none := by
      unfold itemU
      split
      · rename_i e; have := nums_len e; simp at this
      · rfl
    rw [this]
    simp [restAll]
theorem tick_is (r : List (List UInt8)) : itemT r = if ((((false || !okN r) || !decide (1 ≤ rdN r ∧ rdN r ≤ 100)) || !r.tail.isEmpty)) = true then none else some ⟨3, 0, 0, rdN r⟩ := by
  match r with
  | [] => simp [itemT, nums, okN, num_nil]
  | [a] =>
    cases ha : num? a with
    | none => simp [itemT, nums, okN, ha]
    | some z => by_cases h : 1 ≤ z ∧ z ≤ 100 <;> simp [itemT, nums, okN, rdN, ha, h]
  | a :: b :: t =>
    have : itemT (a :: b :: t) = none := by
      unfold itemT
      split
      · rename_i e; have := nums_len e; simp at this
      · rfl
    rw [this]
    simp
theorem run_is (r : List (List UInt8)) : itemR r = if ((((false || !okN r) || !decide (0 ≤ rdN r ∧ rdN r ≤ 10000)) || !r.tail.isEmpty)) = true then none else some ⟨4, 0, 0, rdN r⟩ := by
  match r with
  | [] => simp [itemR, nums, okN, num_nil]
  | [a] =>
    cases ha : num? a with
    | none => simp [itemR, nums, okN, ha]
    | some z => by_cases h : 0 ≤ z ∧ z ≤ 10000 <;> simp [itemR, nums, okN, rdN, ha, h]
  | a :: b :: t =>
    have : itemR (a :: b :: t) = none := by
      unfold itemR
      split
      · rename_i e; have := nums_len e; simp at this
      · rfl
    rw [this]
    simp
end Go.Proofs.YtcdcjpejlhcdnaaDoor
