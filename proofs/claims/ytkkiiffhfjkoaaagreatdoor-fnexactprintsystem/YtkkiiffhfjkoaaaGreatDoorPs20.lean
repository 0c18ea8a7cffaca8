import Derived.Test.YtkkiiffhfjkoaaaGreatDoorPs19
import Derived.Test.YtkkiiffhfjkoaaaGreatDoorR6
import Derived.Test.YtkkiiffhfjkoaaaGreatDoorRows
import Derived.ProofKit
import Derived.LaidMore
import Derived.OpenShut
import Derived.Lib.LaidTab
import Derived.Deep.Strs
namespace Go.Proofs.YtkkiiffhfjkoaaaGreatDoor
open Go.ChangeShapes Go.WideShapes Go.ChangeAt Go.RowKit
set_option linter.unusedVariables false
set_option maxRecDepth 100000

section
variable {H : Type} {enc : TypeId × Value → H} {w : World} {base : Nat} {sp : Nat → Bool} {held : Bool} {fuel : Nat} {cs : List Value} {x : DataW H × List MemPlace}
theorem str_of (h : DataW.trod enc Tryz.prog w base sp held fuel 9 cs = some x) : ∃ s, cs = [.string s] ∧ x.1 = .lit (.string s.data.toList) := by
  cases fuel with
  | zero => simp [DataW.trod] at h
  | succ m =>
    unfold DataW.trod at h
    rw [Tryz.underlying9] at h
    split at h <;> simp_all
    obtain ⟨_, rfl⟩ := h
    rfl
theorem bool_of (h : DataW.trod enc Tryz.prog w base sp held fuel 4 cs = some x) : ∃ b, cs = [.bool b] ∧ x.1 = .lit (.bool b) := by
  cases fuel with
  | zero => simp [DataW.trod] at h
  | succ m =>
    unfold DataW.trod at h
    rw [Tryz.underlying4] at h
    split at h <;> simp_all
    subst h
    rfl
theorem int_of (h : DataW.trod enc Tryz.prog w base sp held fuel 3 cs = some x) : ∃ b, cs = [.int .i64 b] ∧ x.1 = .lit (.int .i64 b) := by
  obtain ⟨k, e1, e2, _⟩ := DataW.trod_int Tryz.underlying3 h
  exact ⟨k, e1, by rw [e2]⟩
end
def litV {H : Type} : DataW H → Value
  | .lit (.string s) => .string ⟨s.toArray⟩
  | .lit (.int k n) => .int k n
  | .lit (.bool b) => .bool b
  | _ => undef
def rowV {H : Type} : DataW H → List Value
  | .agg ds => ds.map litV
  | _ => []
def tabV {H : Type} : DataW H → List Value
  | .agg ds => (ds.map rowV).flatten
  | _ => []
theorem chunks : ∀ {rows : List (List Value)} {cs : List Value} {sz : Nat}, cs.length = rows.length * sz → (∀ i, i < rows.length → (cs.drop (i * sz)).take sz = rows.getD i []) → cs = rows.flatten
  | [], cs, sz, hl, _ => by simpa using hl
  | r :: rs, cs, sz, hl, h => by
    have h0 := h 0 (by simp)
    simp at h0
    have ih := chunks (rows := rs) (cs := cs.drop sz) (sz := sz) (by simp [hl, Nat.add_mul]) (fun i hi => by
      have := h (i + 1) (by simpa using hi)
      rw [List.drop_drop]
      rw [show sz + i * sz = (i + 1) * sz by rw [Nat.add_mul]; omega]
      simpa using this)
    rw [List.flatten_cons, ← ih, ← h0, List.take_append_drop]
theorem item_row {enc : TypeId × Value → Unit} {w : World} {base : Nat} {sp : Nat → Bool} {held : Bool} {fuel : Nat} {cs : List Value} {x : DataW Unit × List MemPlace} (h : DataW.trod enc Tryz.prog w base sp held fuel 170 cs = some x) : cs = rowV x.1 := by
  obtain ⟨xs, k, _, rfl, hl, hxl, hf⟩ := DataW.trod_struct Tryz.underlying170 h
  match xs, (show xs.length = 3 from hxl) with
  | [y0, y1, y2], _ =>
    have hl3 : cs.length = 3 := hl
    match cs, hl3 with
    | [c0, c1, c2], _ =>
      have g0 : DataW.trod enc Tryz.prog w base sp held k 9 [c0] = some y0 := hf 0 _ rfl
      have g1 : DataW.trod enc Tryz.prog w base sp held k 3 [c1] = some y1 := hf 1 _ rfl
      have g2 : DataW.trod enc Tryz.prog w base sp held k 3 [c2] = some y2 := hf 2 _ rfl
      obtain ⟨s0, e0, r0⟩ := str_of g0
      obtain ⟨s1, e1, r1⟩ := int_of g1
      obtain ⟨s2, e2, r2⟩ := int_of g2
      simp at e0 e1 e2
      simp [rowV, r0, r1, r2, litV, e0, e1, e2]
theorem form_row {enc : TypeId × Value → Unit} {w : World} {base : Nat} {sp : Nat → Bool} {held : Bool} {fuel : Nat} {cs : List Value} {x : DataW Unit × List MemPlace} (h : DataW.trod enc Tryz.prog w base sp held fuel 173 cs = some x) : cs = rowV x.1 := by
  obtain ⟨xs, k, _, rfl, hl, hxl, hf⟩ := DataW.trod_struct Tryz.underlying173 h
  match xs, (show xs.length = 5 from hxl) with
  | [y0, y1, y2, y3, y4], _ =>
    have hl3 : cs.length = 5 := hl
    match cs, hl3 with
    | [c0, c1, c2, c3, c4], _ =>
      have g0 : DataW.trod enc Tryz.prog w base sp held k 3 [c0] = some y0 := hf 0 _ rfl
      have g1 : DataW.trod enc Tryz.prog w base sp held k 9 [c1] = some y1 := hf 1 _ rfl
      have g2 : DataW.trod enc Tryz.prog w base sp held k 4 [c2] = some y2 := hf 2 _ rfl
      have g3 : DataW.trod enc Tryz.prog w base sp held k 4 [c3] = some y3 := hf 3 _ rfl
      have g4 : DataW.trod enc Tryz.prog w base sp held k 4 [c4] = some y4 := hf 4 _ rfl
      obtain ⟨s0, e0, r0⟩ := int_of g0
      obtain ⟨s1, e1, r1⟩ := str_of g1
      obtain ⟨s2, e2, r2⟩ := bool_of g2
      obtain ⟨s3, e3, r3⟩ := bool_of g3
      obtain ⟨s4, e4, r4⟩ := bool_of g4
      simp at e0 e1 e2 e3 e4
      simp [rowV, r0, r1, r2, r3, r4, litV, e0, e1, e2, e3, e4]
theorem table_of {enc : TypeId × Value → Unit} {w : World} {base : Nat} {sp : Nat → Bool} {held : Bool} {fuel : Nat} {cs : List Value} {d : DataW Unit} {p : List MemPlace} {t e : TypeId} {n sz : Nat} (ht : Tryz.prog.underlying t = some (.array n e)) (hce : Tryz.prog.cellsOf e = sz) (hct : Tryz.prog.cellsOf t = n * sz)
    (hrow : ∀ {fuel cs} {x : DataW Unit × List MemPlace}, DataW.trod enc Tryz.prog w base sp held fuel e cs = some x → cs = rowV x.1) (h : DataW.trod enc Tryz.prog w base sp held fuel t cs = some (d, p)) : cs = tabV d := by
  obtain ⟨xs, m, _, hx, hl, hn, hel⟩ := DataW.trod_array ht h
  simp only [Prod.mk.injEq] at hx
  obtain ⟨rfl, rfl⟩ := hx
  rw [hce] at hel
  show cs = ((xs.map (·.1)).map rowV).flatten
  refine chunks (sz := sz) (by simp [hl, hct, hn]) (fun i hi => ?_)
  have hi' : i < xs.length := by simpa using hi
  have h1 := hel i (by omega)
  rw [List.getElem?_eq_getElem hi'] at h1
  rw [hrow h1]
  simp [List.getD_eq_getElem?_getD, hi']

theorem gIt : Tryz.prog.globalNamed "loop.example/s0063/impl.itemWords" = some 0 := by kernel_rfl
theorem gFm : Tryz.prog.globalNamed "loop.example/s0063/impl.stmForms" = some 1 := by kernel_rfl
theorem tIt : (Tryz.prog.globals[0]?).map (·.type) = some 171 := by kernel_rfl
theorem tFm : (Tryz.prog.globals[1]?).map (·.type) = some 201 := by kernel_rfl
theorem tPw : (Tryz.prog.globals[2]?).map (·.type) = some 260 := by kernel_rfl
theorem words_is : tabV (H := Unit) Rows.laid_loop_example_s0063_impl_itemWords = wordsC.toList := by rfl
theorem forms_is : tabV (H := Unit) Rows.laid_loop_example_s0063_impl_stmForms = formsC.toList := by rfl
theorem block_of_var {W : World} {n : String} {g : Nat} {cs : Array Value} (hg : Tryz.prog.globalNamed n = some g) (hv : W.var? Tryz.prog n = some cs) : ∃ t fr, W.heap[g]? = some (.cells cs t fr) := by
  unfold World.var? at hv
  rw [hg] at hv
  simp only [Option.bind_some] at hv
  split at hv
  · rename_i c t fr hb
    simp at hv
    subst hv
    exact ⟨t, fr, hb⟩
  · cases hv
/-- What the condition on the tables gives the walks. -/
theorem tabs_of_laid {W : World} (h : laidMetH Tryz.prog Rows.fnExactPrintSystemRow.laid W) : Tabs W W.heap.size := by
  have h' : laidMet Tryz.prog Rows.fnExactPrintSystemRow.laid W := by
    rw [MakeChecks.laidMetH_plain _ _ _ (by kernel_rfl)] at h
    exact h
  obtain ⟨ps, ⟨g0, t0, cs0, f0, p0, q0, hg0, ht0, hv0, hd0, ⟨g1, t1, cs1, f1, p1, q1, hg1, ht1, hv1, hd1, ⟨g2, t2, cs2, f2, p2, q2, hg2, ht2, hv2, hd2, ⟨g3, t3, cs3, f3, p3, q3, hg3, ht3, hv3, hd3, ⟨g4, t4, cs4, f4, p4, q4, hg4, ht4, hv4, hd4, _, _⟩, _⟩, _⟩, _⟩, _⟩, _, _⟩ := h'
  obtain rfl := Option.some.inj (pow_g.symm.trans hg2)
  obtain rfl := Option.some.inj (gIt.symm.trans hg3)
  obtain rfl := Option.some.inj (gFm.symm.trans hg4)
  obtain rfl := Option.some.inj (tPw.symm.trans ht2)
  obtain rfl := Option.some.inj (tIt.symm.trans ht3)
  obtain rfl := Option.some.inj (tFm.symm.trans ht4)
  have c2 : cs2 = (Lib.pow10Tab.map fun z => Value.int .u64 z).toArray := by
    have := Lib.cells_of_tab (zs := Lib.pow10Tab) (k := .u64) Tryz.underlying260 Tryz.underlying237 (by kernel_rfl) (by kernel_rfl) hd2
    rw [← this]
  have c3 : cs3 = wordsC := by
    have := table_of (sz := 3) Tryz.underlying171 (by kernel_rfl) (by kernel_rfl) (fun h => item_row h) hd3
    rw [words_is] at this
    exact Array.toList_inj.1 this
  have c4 : cs4 = formsC := by
    have := table_of (sz := 5) Tryz.underlying201 (by kernel_rfl) (by kernel_rfl) (fun h => form_row h) hd4
    rw [forms_is] at this
    exact Array.toList_inj.1 this
  subst c3 c4
  obtain ⟨ta, fa, ba⟩ := block_of_var gIt hv3
  obtain ⟨tb, fb, bb⟩ := block_of_var gFm hv4
  obtain ⟨tc, fc, bc⟩ := block_of_var pow_g hv2
  refine ⟨by rw [c2] at hv2; exact hv2, ⟨_, _, ba⟩, ⟨_, _, bb⟩, ?_⟩
  have := lt_of_block bc
  omega
end Go.Proofs.YtkkiiffhfjkoaaaGreatDoor
