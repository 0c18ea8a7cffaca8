import Derived.Test.YtcdcjpejlhcdnaaDoorSr23
import Derived.Test.YtcdcjpejlhcdnaaDoorRows
import Derived.ProofKit
import Derived.LaidMore
import Derived.LaidHandle
import Derived.OpenShut
import Derived.OpenVars
import Derived.Lib.LaidTab
import Derived.Stop.LaidTwo
namespace Go.Proofs.YtcdcjpejlhcdnaaDoor
open Go.ChangeShapes Go.WideShapes Go.ChangeAt Go.RowKit
set_option linter.unusedVariables false
set_option maxRecDepth 100000

theorem own : ownKnob Tryd.prog.godebug = none := by kernel_rfl
theorem laidOut : laidOutB Tryd.prog = true := by kernel_rfl
theorem gETyp : Tryd.prog.globalNamed "errors.errorType" = some 2 := by kernel_rfl
theorem rtE : (Tryd.prog.cutTypes.find? (·.1 == "internal/reflectlite.rtype")).map (·.2) = some 94 := by kernel_rfl
theorem oneRowE : ((List.range Tryd.prog.types.size).filter fun t => Tryd.prog.rowNamed t [101, 114, 114, 111, 114]) = [38] := by kernel_rfl
theorem handle_of {l : List (String × DataW Unit)} {W : World} (h : handlesMet Tryd.prog l W) (hm : ("errors.errorType", Rows.laid_errors_errorType) ∈ l) : ErrT W := by
  obtain ⟨name, u, ty, e1, e2, e3, e4, e5⟩ := h _ hm
  have en : name = [101, 114, 114, 111, 114] := (Option.some.inj e1).symm
  subst en
  obtain rfl := Option.some.inj (rtE.symm.trans e2)
  have hmm : ty ∈ (List.range Tryd.prog.types.size).filter fun t => Tryd.prog.rowNamed t [101, 114, 114, 111, 114] := List.mem_filter.2 ⟨List.mem_range.2 e3, e4⟩
  rw [oneRowE] at hmm
  obtain rfl := List.mem_singleton.1 hmm
  have hh : typeHandle Tryd.prog 38 = .pointer (some ⟨13, 38, none⟩) := by kernel_rfl
  rw [hh] at e5
  simpa using World.var?_cell gETyp e5 0
theorem laid_tail {x : String × DataW Unit} {r : List (String × DataW Unit)} {W : World} (h : laidMet Tryd.prog (x :: r) W) : laidMet Tryd.prog r W := by
  obtain ⟨ps, hl, hnd, hrows⟩ := h
  obtain ⟨n, d⟩ := x
  obtain ⟨g, t, cs, f, p, q, h1, h2, h3, h4, h5, rfl⟩ := hl
  exact ⟨q, h5, (List.nodup_append.1 hnd).2.1, fun b off hb => hrows b off (by simp [hb])⟩
theorem starE : "*" ++ "errors.errorString" = "*errors.errorString" := by decide
theorem rowE (u : TypeId) (h : Tryd.prog.typeName? 3 u = some "*errors.errorString") : u = 137 :=
  typeName_ptr_named (nm := "errors.errorString") (by rw [starE]; kernel_rfl) (by kernel_rfl) (by decide) u (by rw [starE]; exact h)
theorem cellsE : Tryd.prog.cellsOf 139 = 1 := by kernel_rfl
theorem cellsS : Tryd.prog.cellsOf 9 = 1 := by kernel_rfl
theorem gTooLong : Tryd.prog.globalNamed "loop.example/s0063/impl.errTooLong" = some 0 := by kernel_rfl
theorem yTooLong : (Tryd.prog.globals[0]?).map (·.type) = some 38 := by kernel_rfl
theorem gNoSignals : Tryd.prog.globalNamed "loop.example/s0063/impl.errNoSignals" = some 1 := by kernel_rfl
theorem yNoSignals : (Tryd.prog.globals[1]?).map (·.type) = some 38 := by kernel_rfl
theorem gKeyword : Tryd.prog.globalNamed "loop.example/s0063/impl.errKeyword" = some 3 := by kernel_rfl
theorem yKeyword : (Tryd.prog.globals[3]?).map (·.type) = some 38 := by kernel_rfl
theorem gField : Tryd.prog.globalNamed "loop.example/s0063/impl.errField" = some 4 := by kernel_rfl
theorem yField : (Tryd.prog.globals[4]?).map (·.type) = some 38 := by kernel_rfl
theorem gFew : Tryd.prog.globalNamed "loop.example/s0063/impl.errFew" = some 7 := by kernel_rfl
theorem yFew : (Tryd.prog.globals[7]?).map (·.type) = some 38 := by kernel_rfl
theorem gMany : Tryd.prog.globalNamed "loop.example/s0063/impl.errMany" = some 5 := by kernel_rfl
theorem yMany : (Tryd.prog.globals[5]?).map (·.type) = some 38 := by kernel_rfl
theorem gPlace : Tryd.prog.globalNamed "loop.example/s0063/impl.errPlace" = some 6 := by kernel_rfl
theorem yPlace : (Tryd.prog.globals[6]?).map (·.type) = some 38 := by kernel_rfl
theorem gRange : Tryd.prog.globalNamed "strconv.ErrRange" = some 9 := by kernel_rfl
theorem yRange : (Tryd.prog.globals[9]?).map (·.type) = some 38 := by kernel_rfl
theorem gSyntax : Tryd.prog.globalNamed "strconv.ErrSyntax" = some 8 := by kernel_rfl
theorem ySyntax : (Tryd.prog.globals[8]?).map (·.type) = some 38 := by kernel_rfl
theorem sent {n : String} {text : List UInt8} {r : List (String × DataW Unit)} {W : World} {g : Nat} (h : laidMet Tryd.prog ((n, .iface "*errors.errorString" (.ptr (.agg [.lit (.string text)]))) :: r) W) (hg : Tryd.prog.globalNamed n = some g) (ht : (Tryd.prog.globals[g]?).map (·.type) = some 38) : EC W g := by
  obtain ⟨a, s, hv, _⟩ := laid_sentinel h hg ht Tryd.underlying38 rowE Tryd.underlying137 Tryd.underlying139 rfl rfl Tryd.underlying9 cellsE cellsS
  exact ⟨_, _, by simpa using World.var?_cell hg hv 0⟩
theorem sent2 {n0 n1 : String} {text0 text1 : List UInt8} {r : List (String × DataW Unit)} {W : World} {g0 g1 : Nat} (h : laidMet Tryd.prog ((n0, .iface "*errors.errorString" (.ptr (.agg [.lit (.string text0)]))) :: (n1, .iface "*errors.errorString" (.ptr (.agg [.lit (.string text1)]))) :: r) W) (hg0 : Tryd.prog.globalNamed n0 = some g0) (ht0 : (Tryd.prog.globals[g0]?).map (·.type) = some 38) (hg1 : Tryd.prog.globalNamed n1 = some g1) (ht1 : (Tryd.prog.globals[g1]?).map (·.type) = some 38) : Two W g0 g1 := by
  obtain ⟨a0, a1, s0, s1, c0, c1, t0, t1, hv0, hv1, _, _, _, _, _, _, hne, hb0, hb1⟩ := laid_sentinels2 h hg0 ht0 hg1 ht1 Tryd.underlying38 rowE Tryd.underlying137 Tryd.underlying139 rfl rfl Tryd.underlying9 cellsE cellsS
  exact ⟨a0, a1, c0, c1, t0, t1, by simpa using World.var?_cell hg0 hv0 0, by simpa using World.var?_cell hg1 hv1 0, hne, hb0, hb1⟩
theorem tPw : (Tryd.prog.globals[10]?).map (·.type) = some 142 := by kernel_rfl
theorem pow_of {W : World} {r : List (String × DataW Unit)} (h : laidMet Tryd.prog (("internal/strconv.uint64pow10", Rows.laid_internal_strconv_uint64pow10) :: r) W) : Pow W := by
  obtain ⟨ps, ⟨g2, t2, cs2, f2, p2, q2, hg2, ht2, hv2, hd2, _, _⟩, _, _⟩ := h
  obtain rfl := Option.some.inj (pow_g.symm.trans hg2)
  obtain rfl := Option.some.inj (tPw.symm.trans ht2)
  have c2 : cs2 = (Lib.pow10Tab.map fun z => Value.int .u64 z).toArray := by
    have := Lib.cells_of_tab (zs := Lib.pow10Tab) (k := .u64) Tryd.underlying142 Tryd.underlying123 (by kernel_rfl) (by kernel_rfl) hd2
    rw [← this]
  rw [c2] at hv2
  exact hv2
theorem last_lt {W : World} {x : String × DataW Unit} {r : List (String × DataW Unit)} {g : Nat} (h : laidMet Tryd.prog (x :: r) W) (hg : Tryd.prog.globalNamed x.1 = some g) : g < W.heap.size := by
  obtain ⟨ps, hl, _, _⟩ := h
  obtain ⟨n, d⟩ := x
  obtain ⟨g', t, cs, f, p, q, h1, h2, h3, h4, h5, rfl⟩ := hl
  obtain rfl := Option.some.inj (hg.symm.trans h1)
  unfold World.var? at h3
  rw [h1] at h3
  simp only [Option.bind_some] at h3
  split at h3
  · rename_i c t fr hb; exact lt_of_block hb
  · cases h3
theorem gTab : Tryd.prog.globalNamed "math/bits.deBruijn64tab" = some 12 := by kernel_rfl
/-- What the condition gives the walks. -/
theorem vars_of_laid {W : World} (h : laidMetH Tryd.prog Rows.fnExactParseScriptRow.laid W) : VarsS W := by
  have h' : laidMet Tryd.prog [("math/bits.deBruijn32tab", Rows.laid_math_bits_deBruijn32tab), ("math/bits.deBruijn64tab", Rows.laid_math_bits_deBruijn64tab), ("internal/strconv.uint64pow10", Rows.laid_internal_strconv_uint64pow10), ("strconv.ErrRange", Rows.laid_strconv_ErrRange), ("strconv.ErrSyntax", Rows.laid_strconv_ErrSyntax), ("loop.example/s0063/impl.errTooLong", Rows.laid_loop_example_s0063_impl_errTooLong), ("loop.example/s0063/impl.errNoSignals", Rows.laid_loop_example_s0063_impl_errNoSignals), ("loop.example/s0063/impl.errKeyword", Rows.laid_loop_example_s0063_impl_errKeyword), ("loop.example/s0063/impl.errField", Rows.laid_loop_example_s0063_impl_errField), ("loop.example/s0063/impl.errFew", Rows.laid_loop_example_s0063_impl_errFew), ("loop.example/s0063/impl.errMany", Rows.laid_loop_example_s0063_impl_errMany), ("loop.example/s0063/impl.errPlace", Rows.laid_loop_example_s0063_impl_errPlace)] W ∧ handlesMet Tryd.prog [("errors.errorType", Rows.laid_errors_errorType)] W := h
  obtain ⟨l0, hh⟩ := h'
  have l1 := laid_tail l0
  have l2 := laid_tail l1
  have l3 := laid_tail l2
  have l4 := laid_tail l3
  have l5 := laid_tail l4
  have l6 := laid_tail l5
  have l7 := laid_tail l6
  have l8 := laid_tail l7
  have l9 := laid_tail l8
  have l10 := laid_tail l9
  have l11 := laid_tail l10
  exact ⟨⟨sent l8 gField yField, sent l9 gFew yFew, sent l10 gMany yMany, sent l11 gPlace yPlace, sent l7 gKeyword yKeyword, sent l4 gSyntax ySyntax, sent l3 gRange yRange, pow_of l2⟩, handle_of hh (List.mem_singleton.2 rfl), sent2 l5 gTooLong yTooLong gNoSignals yNoSignals, last_lt l1 gTab⟩
end Go.Proofs.YtcdcjpejlhcdnaaDoor
