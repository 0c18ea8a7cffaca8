import Derived.Test.YtkkiiffhfjkoaaaGreatDoorPs20
import Derived.Test.YtkkiiffhfjkoaaaGreatDoorTie
import Derived.Test.YtkkiiffhfjkoaaaGreatDoorCards
import Derived.SevenTiedAt
import Derived.Stop.Joined
namespace Go.Proofs.YtkkiiffhfjkoaaaGreatDoor
open Go.ChangeShapes Go.WideShapes Go.ChangeAt Go.WideMaps Go.WideElems Go.RowKit Go.Joins
set_option linter.unusedVariables false
set_option maxRecDepth 100000

theorem door_met (os : Os) (args : Array Value) : laidMetH Tryz.prog Rows.fnExactPrintSystemRow.laid ((World.doorLaid Tryz.prog 66 os).forCall (fun _ _ => 0) ⟨#[], args, []⟩).memory :=
  laidMetH_of_parts3 (fuel := 8) (laidMet_of_run' 8 (by kernel_rfl) (by kernel_rfl)) (by kernel_rfl) (by kernel_rfl)
theorem var_below {B g : Nat} {W W' : World} {n : String} {cs : Array Value} (h : Below B W W') (hg : Tryz.prog.globalNamed n = some g) (hgB : g < B) (hv : W.var? Tryz.prog n = some cs) : W'.var? Tryz.prog n = some cs := by
  unfold World.var? at *
  rw [hg] at hv ⊢
  simpa [h.block g hgB] using hv
theorem var_again {H : Type} {enc : TypeId × Value → H} {W W' : World} {t : TypeId} {fuel : Nat} {cs : Array Value} {d : DataW H} {p : List MemPlace} (hr : Tryz.prog.readableRec t = true) (ht : t < Tryz.prog.types.size) (hb : Below W.heap.size W W')
    (hd : DataW.trod enc Tryz.prog W 0 (fun _ => true) true fuel t cs.toList = some (d, p)) : ∃ m, DataW.trod enc Tryz.prog W' 0 (fun b => decide (b < W.heap.size)) true m t cs.toList = some (d, p) := by
  have k : DataW.Trod enc Tryz.prog W 0 (fun _ => true) true t (.agg cs) d p := ⟨fuel, hd⟩
  exact Below.trod laidOut hr ht k hb (DataW.trod_lt fuel _ _ _ hd)

theorem priLifted (os : Os) (started : os.Started) (H : Type) (enc : TypeId × Value → H) :
    ReturnsInHanded {} Tryz.checked os 3 .any (fun w args => (Rows.fnExactPrintSystemSpec.pre enc Tryz.prog Tryz.f3 [] false w args ∧ laidMetH Tryz.prog Rows.fnExactPrintSystemRow.laid w) ∧ sizedMet enc Tryz.prog Tryz.f3 (OpenSpec.ofChange Rows.fnExactPrintSystemSpec) false w args)
      (Rows.fnExactPrintSystemSpec.post enc Tryz.prog Tryz.f3 false true false false) := by
  refine returnsInHanded_of_change_and (C := Tryz.checked) (X := fun w _ => laidMetH Tryz.prog Rows.fnExactPrintSystemRow.laid w) (fun _ _ _ hh h => h.of_heap hh) own started (by kernel_rfl) Tryz.func3
    (ChangeSpec.witness_shaped (enc := enc) (C := Tryz.checked) (os := os) (X := fun w _ => laidMetH Tryz.prog Rows.fnExactPrintSystemRow.laid w) false (World.doorLaid Tryz.prog 66 os) #[.agg #[.int .i64 0, .slice none 0 0, .slice none 0 0]] 8 rfl (World.shaped_of_RefB (by kernel_rfl) (by kernel_rfl)) (by kernel_rfl) (by kernel_rfl) (by kernel_rfl) (door_met os _)) ?_
  intro W base args ds gs before hval0 hW _ _ hL _
  have hval : ∀ (j : Nat) t v, Tryz.f3.params[j]? = some t → args[j]? = some v → Value.okWide Tryz.prog W .any base t v := hval0
  have hW' := hW
  obtain ⟨p, q, hA0, hV0, rfl, hfz, hnd⟩ := hW
  have hA : DataW.TrodAll enc Tryz.prog W 0 (fun _ => true) true Tryz.f3.params.toList args.toList ds p := hA0
  have hV : DataW.TrodVars enc Tryz.prog W (fun _ => true) ["loop.example/s0063/impl.itemWords", "loop.example/s0063/impl.stmForms"] gs q := hV0
  rw [Tryz.params3] at hA hval
  obtain ⟨v0, vs0, d0, ds0, p0, q0, hargs, rfl, rfl, h0, r0⟩ := trodAll_cons hA
  obtain ⟨rfl, rfl, rfl⟩ := trodAll_nil r0
  obtain rfl : args = #[v0] := by cases args; simp_all
  obtain ⟨g0, t0, cs0, f0, e0, u0, g1, t1, cs1, f1, e1, u1, rfl, hg0, ht0, hv0, hd0, hg1, ht1, hv1, hd1, rfl⟩ := trodVars_two hV
  obtain rfl := Option.some.inj (gIt.symm.trans hg0)
  obtain rfl := Option.some.inj (gFm.symm.trans hg1)
  obtain rfl := Option.some.inj (tIt.symm.trans ht0)
  obtain rfl := Option.some.inj (tFm.symm.trans ht1)
  have TB := tabs_of_laid hL
  have k0 := h0
  have lt0 : ∀ x ∈ p0, x.block < W.heap.size := by obtain ⟨m, hm⟩ := k0; exact DataW.trod_lt m _ _ _ hm
  obtain ⟨c0, c1, c2, y0, y1, y2, m, rfl, hd, hp, hy0, hy1, hy2⟩ := open_agg3 Tryz.underlying25 (by kernel_rfl) (by kernel_rfl) (hval 0 25 v0 rfl rfl) h0
  obtain ⟨i0, z0, _, _⟩ := DataW.trod_int Tryz.underlying3 hy0
  obtain ⟨eo, en, ec, es, rfl, hen, he, hvi⟩ := obsI_trod hy1
  obtain ⟨xo, xn, xc, xs, rfl, hxn, hx⟩ := timersOf_trod hy2
  simp at z0
  subst z0
  clear hA0 hV0 hval0
  have h3 := TB.lt
  refine (lawPrint i0 eo xo en ec xn xc es xs W hen hxn hvi TB he hx).mono fun e W' ⟨he, bel⟩ => ?_
  subst he
  obtain ⟨m0, n0⟩ := var_again (by kernel_rfl) (of_decide_eq_true (by kernel_rfl)) bel hd0
  obtain ⟨m1, n1⟩ := var_again (by kernel_rfl) (of_decide_eq_true (by kernel_rfl)) bel hd1
  have hvars : DataW.TrodVars enc Tryz.prog W' (fun b => decide (b < W.heap.size)) ["loop.example/s0063/impl.itemWords", "loop.example/s0063/impl.stmForms"] [e0, e1] (MemPlace.row ⟨0, 0, none⟩ cs0.size ++ u0 ++ (MemPlace.row ⟨1, 0, none⟩ cs1.size ++ u1)) :=
    ⟨0, _, cs0, m0, u0, _, gIt, tIt, var_below bel gIt (by omega) hv0, n0, trodVars_mk1 gFm tFm (var_below bel gFm (by omega) hv1) n1, rfl⟩
  exact ⟨_, rfl, _, _, _, [], _, _, hW', trodAll_mk1 (shut_bool Tryz.underlying4 _), (trodAll_cons_mk (Below.trod laidOut (by kernel_rfl) (of_decide_eq_true (by kernel_rfl)) k0 bel lt0) trodAll_mk0), hvars, bel.frame _, fun h => by cases h⟩

theorem fnExactPrintSystem_over : Rows.FnExactPrintSystemSaid :=
  OpenClaim.holds_of_wide 3 Tryz.f3 rfl rfl rfl rfl rfl rfl rfl ⟨rfl, rfl, rfl, rfl, rfl⟩ rfl rfl rfl rfl rfl (by kernel_rfl) Tryz.func3 (by kernel_rfl)
    (of_decide_eq_true (by kernel_rfl)) (by unfold Func.isWrapper; first | (rw [if_pos (by decide +kernel)]; kernel_rfl) | (rw [if_neg (by decide +kernel)]; exact ⟨rfl, rfl⟩))
    (fun os started H enc _ => priLifted os started H enc)
end Go.Proofs.YtkkiiffhfjkoaaaGreatDoor
