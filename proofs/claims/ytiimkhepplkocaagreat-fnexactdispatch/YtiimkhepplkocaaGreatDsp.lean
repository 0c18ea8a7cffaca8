import Derived.Test.YtiimkhepplkocaaGreatR2
import Derived.Test.YtiimkhepplkocaaGreatZ31
namespace Go.Proofs.YtiimkhepplkocaaGreat
open Go.ChangeShapes Go.WideShapes Go.ChangeAt Go.RowKit Go.Joins
set_option linter.unusedVariables false

set_option maxRecDepth 100000 in
theorem dispLifted (os : Os) (started : os.Started) (H : Type) (enc : TypeId × Value → H) :
    ReturnsInHanded {} Tryz.checked os 7 .any (Rows.fnExactDispatchSpec.pre6 enc Tryz.prog Tryz.f7 Rows.fnExactDispatchRow.domain false) (Rows.fnExactDispatchSpec.post enc Tryz.prog Tryz.f7 false true false false) := by
  refine returnsInHanded_of_change (C := Tryz.checked) own started (by kernel_rfl) Tryz.func7
    (ChangeSpec.witness6 (enc := enc) (C := Tryz.checked) false ⟨#[], #[.agg #[.slice none 0 0, .slice none 0 0], .agg #[.int .i64 0, .int .i64 0, .int .i64 0, .int .i64 0], .int .i64 0, .agg #[.slice none 0 0, .slice none 0 0], .agg #[.int .i64 0, .int .i64 0]], []⟩ 8 (by kernel_rfl) (by kernel_rfl) (by kernel_rfl) (by kernel_rfl)) ?_
  intro W base args ds gs before hval0 hW hcnd _
  have hval : ∀ (j : Nat) t v, Tryz.f7.params[j]? = some t → args[j]? = some v → Value.okWide Tryz.prog W .any base t v := hval0
  have hW' := hW
  obtain ⟨p, q, hA0, hV, rfl, hfz, hnd⟩ := hW
  have hA : DataW.TrodAll enc Tryz.prog W 0 (fun _ => true) true Tryz.f7.params.toList args.toList ds p := hA0
  rw [Tryz.params7] at hA hval
  obtain ⟨v0, vs0, d0, ds0, p0, q0, hargs, rfl, rfl, h0, r0⟩ := trodAll_cons hA
  obtain ⟨v1, vs1, d1, ds1, p1, q1, rfl, rfl, rfl, h1, r1⟩ := trodAll_cons r0
  obtain ⟨v2, vs2, d2, ds2, p2, q2, rfl, rfl, rfl, h2, r2⟩ := trodAll_cons r1
  obtain ⟨v3, vs3, d3, ds3, p3, q3, rfl, rfl, rfl, h3, r3⟩ := trodAll_cons r2
  obtain ⟨v4, vs4, d4, ds4, p4, q4, rfl, rfl, rfl, h4, r4⟩ := trodAll_cons r3
  obtain ⟨rfl, rfl, rfl⟩ := trodAll_nil r4
  obtain rfl : args = #[v0, v1, v2, v3, v4] := by cases args; simp_all
  obtain ⟨rfl, rfl⟩ := trodVars_none hV
  have k0 := h0
  have lt0 : ∀ x ∈ p0, x.block < W.heap.size := by obtain ⟨m, hm⟩ := k0; exact DataW.trod_lt m _ _ _ hm
  have k1 := h1
  have lt1 : ∀ x ∈ p1, x.block < W.heap.size := by obtain ⟨m, hm⟩ := k1; exact DataW.trod_lt m _ _ _ hm
  have k3 := h3
  have lt3 : ∀ x ∈ p3, x.block < W.heap.size := by obtain ⟨m, hm⟩ := k3; exact DataW.trod_lt m _ _ _ hm
  have k4 := h4
  have lt4 : ∀ x ∈ p4, x.block < W.heap.size := by obtain ⟨m, hm⟩ := k4; exact DataW.trod_lt m _ _ _ hm
  obtain ⟨a2, rfl, rfl, rfl, wlf⟩ := open_int Tryz.underlying3 (hval 2 3 v2 rfl rfl) h2
  obtain ⟨c0, c1, y0, y1, m, rfl, hd, hp, hy0, hy1⟩ := open_agg2 Tryz.underlying76 (by kernel_rfl) (by kernel_rfl) (hval 0 76 v0 rfl rfl) h0
  obtain ⟨eo, en, ec, es, rfl, hen, he⟩ := statesOf_trod hy0
  obtain ⟨xo, xn, xc, xs, rfl, hxn, hx⟩ := transOf_trod hy1
  obtain ⟨z0, z1, z2, z3, w0, w1, w2, w3, m2, rfl, hd2, hp2, g0, g1, g2, g3⟩ := open_agg4 Tryz.underlying77 (by kernel_rfl) (by kernel_rfl) (hval 1 77 v1 rfl rfl) h1
  obtain ⟨i0, e0, _, _⟩ := DataW.trod_int Tryz.underlying3 g0
  obtain ⟨i1, e1, _, _⟩ := DataW.trod_int Tryz.underlying3 g1
  obtain ⟨i2, e2, _, _⟩ := DataW.trod_int Tryz.underlying3 g2
  obtain ⟨i3, e3, _, _⟩ := DataW.trod_int Tryz.underlying3 g3
  simp at e0 e1 e2 e3
  subst e0 e1 e2 e3
  obtain ⟨b0, b1, y2, y3, m3, rfl, hd3, hp3, hy2, hy3⟩ := open_agg2 Tryz.underlying86 (by kernel_rfl) (by kernel_rfl) (hval 3 86 v3 rfl rfl) h3
  obtain ⟨ko, kn, kc, ks, rfl, hkn, hk⟩ := sliceOf_trod hy2
  obtain ⟨vo, vn, vc, vs, rfl, hvn, hvv, hbd⟩ := sliceOf_trod_bd hy3
  obtain ⟨f0, f1, u0, u1, m4, rfl, hd4, hp4, j0, j1⟩ := open_agg2 Tryz.underlying92 (by kernel_rfl) (by kernel_rfl) (hval 4 92 v4 rfl rfl) h4
  obtain ⟨j2, e4, _, _⟩ := DataW.trod_int Tryz.underlying3 j0
  obtain ⟨j3, e5, _, wj3⟩ := DataW.trod_int Tryz.underlying3 j1
  simp at e4 e5
  subst e4 e5
  clear hA0 hval0
  refine (lawDispatch eo xo en ec xn xc es xs i0 i1 i2 i3 a2 j2 j3 ko vo kn kc vn vc ks vs W hen hxn hkn hvn he hx hk hvv hbd (wf_I64 wj3)).mono fun e W' ⟨he, bel⟩ => ?_
  subst he
  exact ⟨_, rfl, _, _, _, [], _, [], hW', trodAll_mk1 (shut_bool Tryz.underlying4 _), (trodAll_cons_mk (Below.trod laidOut (by kernel_rfl) (of_decide_eq_true (by kernel_rfl)) k0 bel lt0) (trodAll_cons_mk (Below.trod laidOut (by kernel_rfl) (of_decide_eq_true (by kernel_rfl)) k1 bel lt1) (trodAll_cons_mk (shut_int Tryz.underlying3 wlf) (trodAll_cons_mk (Below.trod laidOut (by kernel_rfl) (of_decide_eq_true (by kernel_rfl)) k3 bel lt3) (trodAll_cons_mk (Below.trod laidOut (by kernel_rfl) (of_decide_eq_true (by kernel_rfl)) k4 bel lt4) trodAll_mk0))))), rfl, bel.frame _, fun h => by cases h⟩

theorem fnExactDispatch_over : Rows.fnExactDispatchRow.holds Tryz.pinned (OpenSpec.ofChange Rows.fnExactDispatchSpec) :=
  OpenClaim.holds_of_wide 7 Tryz.f7 rfl rfl rfl rfl rfl rfl rfl ⟨rfl, rfl, rfl, rfl, rfl⟩ rfl rfl rfl rfl rfl (by kernel_rfl) Tryz.func7 (by kernel_rfl)
    (of_decide_eq_true (by kernel_rfl)) (by unfold Func.isWrapper; first | (rw [if_pos (by decide +kernel)]; kernel_rfl) | (rw [if_neg (by decide +kernel)]; exact ⟨rfl, rfl⟩))
    (fun os started H enc _ => dispLifted os started H enc)

/-- THE STATEMENT -/
theorem fnExactDispatch_holds : Rows.FnExactDispatchSaid := fnExactDispatch_over
#print axioms fnExactDispatch_holds
end Go.Proofs.YtiimkhepplkocaaGreat
