import Derived.Test.YtkdgkomnbjepdaaGreatDoorFm5
import Derived.Test.YtkdgkomnbjepdaaGreatDoorRows
import Derived.ProofKit
import Derived.LaidMore
import Derived.LaidHandle
import Derived.OpenShut
import Derived.OpenVars
import Derived.Lib.LaidTab
import Derived.Stop.LaidTwo
import Derived.Deep.Strs
namespace Go.Proofs.YtkdgkomnbjepdaaGreatDoor
open Go.ChangeShapes Go.WideShapes Go.ChangeAt Go.RowKit
set_option linter.unusedVariables false
set_option maxRecDepth 100000
theorem own : ownKnob Tryz.prog.godebug = none := by kernel_rfl
theorem laidOut : laidOutB Tryz.prog = true := by kernel_rfl
theorem gETyp : Tryz.prog.globalNamed "errors.errorType" = some 2 := by kernel_rfl
theorem rtE : (Tryz.prog.cutTypes.find? (·.1 == "internal/reflectlite.rtype")).map (·.2) = some 182 := by kernel_rfl
theorem oneRowE : ((List.range Tryz.prog.types.size).filter fun t => Tryz.prog.rowNamed t [101,114,114,111,114]) = [53] := by kernel_rfl
theorem handle_of {l : List (String × DataW Unit)} {W : World} (h : handlesMet Tryz.prog l W) (hm : ("errors.errorType", Rows.laid_errors_errorType) ∈ l) : ErrT W := by
 obtain ⟨name,u,ty,e1,e2,e3,e4,e5⟩ := h _ hm
 have en : name = [101,114,114,111,114] := (Option.some.inj e1).symm
 subst en
 obtain rfl := Option.some.inj (rtE.symm.trans e2)
 have hmm : ty ∈ (List.range Tryz.prog.types.size).filter fun t => Tryz.prog.rowNamed t [101,114,114,111,114] := List.mem_filter.2 ⟨List.mem_range.2 e3,e4⟩
 rw [oneRowE] at hmm
 obtain rfl := List.mem_singleton.1 hmm
 have hh : typeHandle Tryz.prog 53 = .pointer (some ⟨15,53,none⟩) := by kernel_rfl
 rw [hh] at e5
 simpa using World.var?_cell gETyp e5 0
theorem laid_tail {x : String × DataW Unit} {r : List (String × DataW Unit)} {W : World} (h : laidMet Tryz.prog (x :: r) W) : laidMet Tryz.prog r W := by
 obtain ⟨ps,hl,hnd,hrows⟩ := h
 obtain ⟨n,d⟩ := x
 obtain ⟨g,t,cs,f,p,q,h1,h2,h3,h4,h5,rfl⟩ := hl
 exact ⟨q,h5,(List.nodup_append.1 hnd).2.1,fun b off hb => hrows b off (by simp [hb])⟩
theorem starE : "*" ++ "errors.errorString" = "*errors.errorString" := by decide
theorem rowE (u : TypeId) (h : Tryz.prog.typeName? 3 u = some "*errors.errorString") : u = 325 :=
 typeName_ptr_named (nm := "errors.errorString") (by rw [starE]; kernel_rfl) (by kernel_rfl) (by decide) u (by rw [starE]; exact h)
theorem cellsE : Tryz.prog.cellsOf 327 = 1 := by kernel_rfl
theorem cellsS : Tryz.prog.cellsOf 9 = 1 := by kernel_rfl
theorem gTooLong : Tryz.prog.globalNamed "loop.example/s0063/impl.errTooLong" = some 0 := by kernel_rfl
theorem yTooLong : (Tryz.prog.globals[0]?).map (·.type) = some 53 := by kernel_rfl
theorem gNoSignals : Tryz.prog.globalNamed "loop.example/s0063/impl.errNoSignals" = some 1 := by kernel_rfl
theorem yNoSignals : (Tryz.prog.globals[1]?).map (·.type) = some 53 := by kernel_rfl
theorem gKeyword : Tryz.prog.globalNamed "loop.example/s0063/impl.errKeyword" = some 3 := by kernel_rfl
theorem yKeyword : (Tryz.prog.globals[3]?).map (·.type) = some 53 := by kernel_rfl
theorem gField : Tryz.prog.globalNamed "loop.example/s0063/impl.errField" = some 7 := by kernel_rfl
theorem yField : (Tryz.prog.globals[7]?).map (·.type) = some 53 := by kernel_rfl
theorem gFew : Tryz.prog.globalNamed "loop.example/s0063/impl.errFew" = some 9 := by kernel_rfl
theorem yFew : (Tryz.prog.globals[9]?).map (·.type) = some 53 := by kernel_rfl
theorem gMany : Tryz.prog.globalNamed "loop.example/s0063/impl.errMany" = some 6 := by kernel_rfl
theorem yMany : (Tryz.prog.globals[6]?).map (·.type) = some 53 := by kernel_rfl
theorem gPlace : Tryz.prog.globalNamed "loop.example/s0063/impl.errPlace" = some 4 := by kernel_rfl
theorem yPlace : (Tryz.prog.globals[4]?).map (·.type) = some 53 := by kernel_rfl
theorem gRange : Tryz.prog.globalNamed "strconv.ErrRange" = some 12 := by kernel_rfl
theorem yRange : (Tryz.prog.globals[12]?).map (·.type) = some 53 := by kernel_rfl
theorem gSyntax : Tryz.prog.globalNamed "strconv.ErrSyntax" = some 11 := by kernel_rfl
theorem ySyntax : (Tryz.prog.globals[11]?).map (·.type) = some 53 := by kernel_rfl
theorem sent {n : String} {text : List UInt8} {r : List (String × DataW Unit)} {W : World} {g : Nat} (h : laidMet Tryz.prog ((n, .iface "*errors.errorString" (.ptr (.agg [.lit (.string text)]))) :: r) W) (hg : Tryz.prog.globalNamed n = some g) (ht : (Tryz.prog.globals[g]?).map (·.type) = some 53) : EC W g := by
 obtain ⟨a,s,hv,_⟩ := laid_sentinel h hg ht Tryz.underlying53 rowE Tryz.underlying325 Tryz.underlying327 rfl rfl Tryz.underlying9 cellsE cellsS
 exact ⟨_,_,by simpa using World.var?_cell hg hv 0⟩
theorem sent2 {n0 n1 : String} {text0 text1 : List UInt8} {r : List (String × DataW Unit)} {W : World} {g0 g1 : Nat} (h : laidMet Tryz.prog ((n0, .iface "*errors.errorString" (.ptr (.agg [.lit (.string text0)]))) :: (n1, .iface "*errors.errorString" (.ptr (.agg [.lit (.string text1)]))) :: r) W) (hg0 : Tryz.prog.globalNamed n0 = some g0) (ht0 : (Tryz.prog.globals[g0]?).map (·.type) = some 53) (hg1 : Tryz.prog.globalNamed n1 = some g1) (ht1 : (Tryz.prog.globals[g1]?).map (·.type) = some 53) : Two W g0 g1 := by
 obtain ⟨a0,a1,s0,s1,c0,c1,t0,t1,hv0,hv1,_,_,_,_,_,_,hne,hb0,hb1⟩ := laid_sentinels2 h hg0 ht0 hg1 ht1 Tryz.underlying53 rowE Tryz.underlying325 Tryz.underlying327 rfl rfl Tryz.underlying9 cellsE cellsS
 exact ⟨a0,a1,c0,c1,t0,t1,by simpa using World.var?_cell hg0 hv0 0,by simpa using World.var?_cell hg1 hv1 0,hne,hb0,hb1⟩
theorem tPw : (Tryz.prog.globals[10]?).map (·.type) = some 290 := by kernel_rfl
theorem pow_of {W : World} {r : List (String × DataW Unit)} (h : laidMet Tryz.prog (("internal/strconv.uint64pow10", Rows.laid_internal_strconv_uint64pow10) :: r) W) : Pow W := by
 obtain ⟨ps,⟨g2,t2,cs2,f2,p2,q2,hg2,ht2,hv2,hd2,_,_⟩,_,_⟩ := h
 obtain rfl := Option.some.inj (pow_g.symm.trans hg2)
 obtain rfl := Option.some.inj (tPw.symm.trans ht2)
 have c2 : cs2 = (Lib.pow10Tab.map fun z => Value.int .u64 z).toArray := by
  have := Lib.cells_of_tab (zs := Lib.pow10Tab) (k := .u64) Tryz.underlying290 Tryz.underlying268 (by kernel_rfl) (by kernel_rfl) hd2
  rw [← this]
 rw [c2] at hv2
 exact hv2
theorem last_lt {W : World} {x : String × DataW Unit} {r : List (String × DataW Unit)} {g : Nat} (h : laidMet Tryz.prog (x :: r) W) (hg : Tryz.prog.globalNamed x.1 = some g) : g < W.heap.size := by
 obtain ⟨ps,hl,_,_⟩ := h
 obtain ⟨n,d⟩ := x
 obtain ⟨g',t,cs,f,p,q,h1,h2,h3,h4,h5,rfl⟩ := hl
 obtain rfl := Option.some.inj (hg.symm.trans h1)
 unfold World.var? at h3
 rw [h1] at h3
 simp only [Option.bind_some] at h3
 split at h3
 ·rename_i c t fr hb; exact lt_of_block hb
 ·cases h3
theorem gTab : Tryz.prog.globalNamed "math/bits.deBruijn64tab" = some 14 := by kernel_rfl
section
variable {H : Type} {enc : TypeId × Value → H} {w : World} {base : Nat} {sp : Nat → Bool} {held : Bool} {fuel : Nat} {cs : List Value} {x : DataW H × List MemPlace}
theorem str_of (h : DataW.trod enc Tryz.prog w base sp held fuel 9 cs = some x) : ∃ s,cs = [.string s] ∧ x.1 = .lit (.string s.data.toList) := by
 cases fuel with
 | zero => simp [DataW.trod] at h
 | succ m =>
  unfold DataW.trod at h
  rw [Tryz.underlying9] at h
  split at h <;> simp_all
  obtain ⟨_,rfl⟩ := h
  rfl
theorem bool_of (h : DataW.trod enc Tryz.prog w base sp held fuel 4 cs = some x) : ∃ b,cs = [.bool b] ∧ x.1 = .lit (.bool b) := by
 cases fuel with
 | zero => simp [DataW.trod] at h
 | succ m =>
  unfold DataW.trod at h
  rw [Tryz.underlying4] at h
  split at h <;> simp_all
  subst h
  rfl
theorem int_of (h : DataW.trod enc Tryz.prog w base sp held fuel 3 cs = some x) : ∃ b,cs = [.int .i64 b] ∧ x.1 = .lit (.int .i64 b) := by
 obtain ⟨k,e1,e2,_⟩ := DataW.trod_int Tryz.underlying3 h
 exact ⟨k,e1,by rw [e2]⟩
end
def litV {H : Type} : DataW H → Value
 | .lit (.string s) => .string ⟨s.toArray⟩
 | .lit (.int k n) => .int k n
 | .lit (.bool b) => .bool b
 | _ => undef
def rowV {H : Type} : DataW H → List Value
 | .agg ds => ds.map litV
 | _ => []
def tabV {H : Type} : DataW H → List Value
 | .agg ds => (ds.map rowV).flatten
 | _ => []
theorem chunks : ∀ {rows : List (List Value)} {cs : List Value} {sz : Nat},cs.length = rows.length * sz → (∀ i,i < rows.length → (cs.drop (i * sz)).take sz = rows.getD i []) → cs = rows.flatten
 | [],cs,sz,hl,_ => by simpa using hl
 | r :: rs,cs,sz,hl,h => by
  have h0 := h 0 (by simp)
  simp at h0
  have ih := chunks (rows := rs) (cs := cs.drop sz) (sz := sz) (by simp [hl,Nat.add_mul]) (fun i hi => by
   have := h (i + 1) (by simpa using hi)
   rw [List.drop_drop]
   rw [show sz + i * sz = (i + 1) * sz by rw [Nat.add_mul]; omega]
   simpa using this)
  rw [List.flatten_cons,← ih,← h0,List.take_append_drop]
theorem item_row {enc : TypeId × Value → Unit} {w : World} {base : Nat} {sp : Nat → Bool} {held : Bool} {fuel : Nat} {cs : List Value} {x : DataW Unit × List MemPlace} (h : DataW.trod enc Tryz.prog w base sp held fuel 211 cs = some x) : cs = rowV x.1 := by
 obtain ⟨xs,k,_,rfl,hl,hxl,hf⟩ := DataW.trod_struct Tryz.underlying211 h
 match xs,(show xs.length = 3 from hxl) with
 | [y0,y1,y2],_ =>
  have hl3 : cs.length = 3 := hl
  match cs,hl3 with
  | [c0,c1,c2],_ =>
   have g0 : DataW.trod enc Tryz.prog w base sp held k 9 [c0] = some y0 := hf 0 _ rfl
   have g1 : DataW.trod enc Tryz.prog w base sp held k 3 [c1] = some y1 := hf 1 _ rfl
   have g2 : DataW.trod enc Tryz.prog w base sp held k 3 [c2] = some y2 := hf 2 _ rfl
   obtain ⟨s0,e0,r0⟩ := str_of g0
   obtain ⟨s1,e1,r1⟩ := int_of g1
   obtain ⟨s2,e2,r2⟩ := int_of g2
   simp at e0 e1 e2
   simp [rowV,r0,r1,r2,litV,e0,e1,e2]
theorem form_row {enc : TypeId × Value → Unit} {w : World} {base : Nat} {sp : Nat → Bool} {held : Bool} {fuel : Nat} {cs : List Value} {x : DataW Unit × List MemPlace} (h : DataW.trod enc Tryz.prog w base sp held fuel 214 cs = some x) : cs = rowV x.1 := by
 obtain ⟨xs,k,_,rfl,hl,hxl,hf⟩ := DataW.trod_struct Tryz.underlying214 h
 match xs,(show xs.length = 5 from hxl) with
 | [y0,y1,y2,y3,y4],_ =>
  have hl3 : cs.length = 5 := hl
  match cs,hl3 with
  | [c0,c1,c2,c3,c4],_ =>
   have g0 : DataW.trod enc Tryz.prog w base sp held k 3 [c0] = some y0 := hf 0 _ rfl
   have g1 : DataW.trod enc Tryz.prog w base sp held k 9 [c1] = some y1 := hf 1 _ rfl
   have g2 : DataW.trod enc Tryz.prog w base sp held k 4 [c2] = some y2 := hf 2 _ rfl
   have g3 : DataW.trod enc Tryz.prog w base sp held k 4 [c3] = some y3 := hf 3 _ rfl
   have g4 : DataW.trod enc Tryz.prog w base sp held k 4 [c4] = some y4 := hf 4 _ rfl
   obtain ⟨s0,e0,r0⟩ := int_of g0
   obtain ⟨s1,e1,r1⟩ := str_of g1
   obtain ⟨s2,e2,r2⟩ := bool_of g2
   obtain ⟨s3,e3,r3⟩ := bool_of g3
   obtain ⟨s4,e4,r4⟩ := bool_of g4
   simp at e0 e1 e2 e3 e4
   simp [rowV,r0,r1,r2,r3,r4,litV,e0,e1,e2,e3,e4]
theorem table_of {enc : TypeId × Value → Unit} {w : World} {base : Nat} {sp : Nat → Bool} {held : Bool} {fuel : Nat} {cs : List Value} {d : DataW Unit} {p : List MemPlace} {t e : TypeId} {n sz : Nat} (ht : Tryz.prog.underlying t = some (.array n e)) (hce : Tryz.prog.cellsOf e = sz) (hct : Tryz.prog.cellsOf t = n * sz)
  (hrow : ∀ {fuel cs} {x : DataW Unit × List MemPlace},DataW.trod enc Tryz.prog w base sp held fuel e cs = some x → cs = rowV x.1) (h : DataW.trod enc Tryz.prog w base sp held fuel t cs = some (d,p)) : cs = tabV d := by
 obtain ⟨xs,m,_,hx,hl,hn,hel⟩ := DataW.trod_array ht h
 simp only [Prod.mk.injEq] at hx
 obtain ⟨rfl,rfl⟩ := hx
 rw [hce] at hel
 show cs = ((xs.map (·.1)).map rowV).flatten
 refine chunks (sz := sz) (by simp [hl,hct,hn]) (fun i hi => ?_)
 have hi' : i < xs.length := by simpa using hi
 have h1 := hel i (by omega)
 rw [List.getElem?_eq_getElem hi'] at h1
 rw [hrow h1]
 simp [List.getD_eq_getElem?_getD,hi']
theorem block_of_var {W : World} {n : String} {g : Nat} {cs : Array Value} (hg : Tryz.prog.globalNamed n = some g) (hv : W.var? Tryz.prog n = some cs) : ∃ t fr,W.heap[g]? = some (.cells cs t fr) := by
 unfold World.var? at hv
 rw [hg] at hv
 simp only [Option.bind_some] at hv
 split at hv
 ·rename_i c t fr hb
  simp at hv
  subst hv
  exact ⟨t,fr,hb⟩
 ·cases hv
theorem gIt : Tryz.prog.globalNamed "loop.example/s0063/impl.itemWords" = some 5 := by kernel_rfl
theorem gFm : Tryz.prog.globalNamed "loop.example/s0063/impl.stmForms" = some 8 := by kernel_rfl
theorem tIt : (Tryz.prog.globals[5]?).map (·.type) = some 212 := by kernel_rfl
theorem tFm : (Tryz.prog.globals[8]?).map (·.type) = some 238 := by kernel_rfl
theorem words_is : tabV (H := Unit) Rows.laid_loop_example_s0063_impl_itemWords = wordsC.toList := by rfl
theorem forms_is : tabV (H := Unit) Rows.laid_loop_example_s0063_impl_stmForms = formsC.toList := by rfl
theorem items_of {W : World} {r : List (String × DataW Unit)} (h : laidMet Tryz.prog (("loop.example/s0063/impl.itemWords", Rows.laid_loop_example_s0063_impl_itemWords) :: r) W) : ∃ t f, W.heap[5]? = some (.cells wordsC t f) := by
 obtain ⟨ps,⟨g2,t2,cs2,f2,p2,q2,hg2,ht2,hv2,hd2,_,_⟩,_,_⟩ := h
 obtain rfl := Option.some.inj (gIt.symm.trans hg2)
 obtain rfl := Option.some.inj (tIt.symm.trans ht2)
 have c2 := table_of (n := 23) (sz := 3) Tryz.underlying212 (by kernel_rfl) (by kernel_rfl) item_row hd2
 rw [words_is] at c2
 obtain ⟨t,fr,hb⟩ := block_of_var gIt hv2
 exact ⟨t,fr,by rw [hb,← Array.toArray_toList (xs := cs2),c2]⟩
theorem forms_of {W : World} {r : List (String × DataW Unit)} (h : laidMet Tryz.prog (("loop.example/s0063/impl.stmForms", Rows.laid_loop_example_s0063_impl_stmForms) :: r) W) : ∃ t f, W.heap[8]? = some (.cells formsC t f) := by
 obtain ⟨ps,⟨g2,t2,cs2,f2,p2,q2,hg2,ht2,hv2,hd2,_,_⟩,_,_⟩ := h
 obtain rfl := Option.some.inj (gFm.symm.trans hg2)
 obtain rfl := Option.some.inj (tFm.symm.trans ht2)
 have c2 := table_of (n := 9) (sz := 5) Tryz.underlying238 (by kernel_rfl) (by kernel_rfl) form_row hd2
 rw [forms_is] at c2
 obtain ⟨t,fr,hb⟩ := block_of_var gFm hv2
 exact ⟨t,fr,by rw [hb,← Array.toArray_toList (xs := cs2),c2]⟩
theorem vars_of_laid {W : World} (h : laidMetH Tryz.prog Rows.fnFormatRow.laid W) : VarsY W := by
 have h' : laidMet Tryz.prog [("math/bits.deBruijn32tab", Rows.laid_math_bits_deBruijn32tab), ("math/bits.deBruijn64tab", Rows.laid_math_bits_deBruijn64tab), ("internal/strconv.uint64pow10", Rows.laid_internal_strconv_uint64pow10), ("strconv.ErrRange", Rows.laid_strconv_ErrRange), ("strconv.ErrSyntax", Rows.laid_strconv_ErrSyntax), ("loop.example/s0063/impl.errTooLong", Rows.laid_loop_example_s0063_impl_errTooLong), ("loop.example/s0063/impl.errNoSignals", Rows.laid_loop_example_s0063_impl_errNoSignals), ("loop.example/s0063/impl.errKeyword", Rows.laid_loop_example_s0063_impl_errKeyword), ("loop.example/s0063/impl.errField", Rows.laid_loop_example_s0063_impl_errField), ("loop.example/s0063/impl.errFew", Rows.laid_loop_example_s0063_impl_errFew), ("loop.example/s0063/impl.errMany", Rows.laid_loop_example_s0063_impl_errMany), ("loop.example/s0063/impl.errPlace", Rows.laid_loop_example_s0063_impl_errPlace), ("loop.example/s0063/impl.itemWords", Rows.laid_loop_example_s0063_impl_itemWords), ("loop.example/s0063/impl.stmForms", Rows.laid_loop_example_s0063_impl_stmForms)] W ∧ handlesMet Tryz.prog [("errors.errorType", Rows.laid_errors_errorType)] W := h
 obtain ⟨l0,hh⟩ := h'
 have l1 := laid_tail l0
 have l2 := laid_tail l1
 have l3 := laid_tail l2
 have l4 := laid_tail l3
 have l5 := laid_tail l4
 have l6 := laid_tail l5
 have l7 := laid_tail l6
 have l8 := laid_tail l7
 have l9 := laid_tail l8
 have l10 := laid_tail l9
 have l11 := laid_tail l10
 have l12 := laid_tail l11
 have l13 := laid_tail l12
 exact ⟨⟨⟨sent l8 gField yField,sent l9 gFew yFew,sent l10 gMany yMany,sent l11 gPlace yPlace,sent l7 gKeyword yKeyword,sent l4 gSyntax ySyntax,sent l3 gRange yRange,pow_of l2⟩,items_of l12,forms_of l13⟩,handle_of hh (List.mem_singleton.2 rfl),sent2 l5 gTooLong yTooLong gNoSignals yNoSignals,Nat.lt_of_le_of_lt (by decide) (last_lt l1 gTab)⟩
end Go.Proofs.YtkdgkomnbjepdaaGreatDoor
