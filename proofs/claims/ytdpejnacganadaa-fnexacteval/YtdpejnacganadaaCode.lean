import Derived.Test.YtdpejnacganadaaBank
import Derived.Test.YtdpejnacganadaaC1
import Derived.Deep.SlicePairs
namespace Go.Proofs.Ytdpejnacganadaa
open Go.ChangeShapes Go.WideShapes Go.ChangeAt Go.RowKit Go.Joins Go.Deep
set_option linter.unusedVariables false

theorem addr_add (b off i : Nat) : (⟨b, off, none⟩ : Addr).add i = ⟨b, off + i, none⟩ := by
  by_cases h : i = 0
  · subst h; simp [Addr.add]
  · simp [Addr.add, h]

theorem itemsOf_trod {H : Type} {enc : TypeId × Value → H} {w : World} {base : Nat} {spare : Nat → Bool} {held : Bool} {fuel : Nat} {v : Value} {x : DataW H × List MemPlace}
    (h : DataW.trod enc Try.prog w base spare held fuel 39 [v] = some x) : ∃ ao n c its, v = .slice ao n c ∧ n ≤ 9223372036854775807 ∧ ItemsOf w ao n its := by
  rcases open_slice_pairs Try.underlying39 Try.underlying81 (by kernel_rfl) (by kernel_rfl) (by kernel_rfl) (by kernel_rfl) (by kernel_rfl) h with ⟨hcs, _⟩ | ⟨a, l, c, m, n, V0, V1, D0, D1, P0, P1, hcs, _, hl, hm, hmm, _, hx⟩
  · simp at hcs
    subst hcs
    exact ⟨none, 0, 0, [], rfl, by omega, rfl, fun h => absurd h (by omega)⟩
  · simp at hcs
    subst hcs
    have hlm : l ≤ m := by rw [hmm]; split <;> omega
    refine ⟨some a, l, c, (List.range l).map (fun i => (intOf (V0 i), intOf (V1 i))), rfl, by unfold maxLen at hm; omega, by simp, fun h0 => ?_⟩
    obtain ⟨b, off, spot⟩ := a
    have hc := (hx 0 (by omega)).1
    have hspot : spot = none := by simpa [Addr.add] using World.cell?_spot hc
    subst hspot
    refine ⟨b, off, rfl, block_lt_of_cell hc, fun i hi => ?_⟩
    obtain ⟨h1, h2, h3, h4⟩ := hx i (by omega)
    obtain ⟨p, e0, _, _⟩ := DataW.trod_int Try.underlying3 h3
    obtain ⟨q, e1, _, _⟩ := DataW.trod_int Try.underlying3 h4
    simp at e0 e1
    rw [addr_add] at h1 h2
    have eg : ((List.range l).map (fun i => (intOf (V0 i), intOf (V1 i)))).getD i (0, 0) = (p, q) := by
      simp [List.getD_eq_getElem?_getD, hi, e0, e1, intOf]
    rw [eg]
    rw [e0] at h1
    rw [e1] at h2
    exact ⟨h1, by rw [show off + i * 2 + 1 = off + (i * 2 + 1) by omega]; exact h2⟩

set_option maxRecDepth 100000 in
theorem codeLifted (os : Os) (started : os.Started) (H : Type) (enc : TypeId × Value → H) :
    ReturnsInHanded {} Try.checked os 4 .any (Rows.fnExactCodeOKSpec.pre6 enc Try.prog Try.f4 Rows.fnExactCodeOKRow.domain false) (Rows.fnExactCodeOKSpec.post enc Try.prog Try.f4 false true false false) := by
  refine returnsInHanded_of_change (C := Try.checked) own started (by kernel_rfl) Try.func4
    (ChangeSpec.witness6 (enc := enc) (C := Try.checked) false ⟨#[], #[.slice none 0 0, .int .i64 0], []⟩ 8 (by kernel_rfl) (by kernel_rfl) (by kernel_rfl) (by kernel_rfl)) ?_
  intro W base args ds gs before hval0 hW hcnd _
  have hval : ∀ (j : Nat) t v, Try.f4.params[j]? = some t → args[j]? = some v → Value.okWide Try.prog W .any base t v := hval0
  have hW' := hW
  obtain ⟨p, q, hA0, hV, rfl, hfz, hnd⟩ := hW
  have hA : DataW.TrodAll enc Try.prog W 0 (fun _ => true) true Try.f4.params.toList args.toList ds p := hA0
  rw [Try.params4] at hA hval
  obtain ⟨v0, vs0, d0, ds0, p0, q0, hargs, rfl, rfl, h0, r0⟩ := trodAll_cons hA
  obtain ⟨v1, vs1, d1, ds1, p1, q1, rfl, rfl, rfl, h1, r1⟩ := trodAll_cons r0
  obtain ⟨rfl, rfl, rfl⟩ := trodAll_nil r1
  obtain rfl : args = #[v0, v1] := by cases args; simp_all
  obtain ⟨rfl, rfl⟩ := trodVars_none hV
  obtain ⟨a0, len0, cap0, rfl⟩ := okWide_slice Try.underlying39 (hval 0 39 v0 rfl rfl)
  have k0 := h0
  have lt0 : ∀ x ∈ p0, x.block < W.heap.size := by obtain ⟨m, hm⟩ := k0; exact DataW.trod_lt m _ _ _ hm
  obtain ⟨ao, n, c, its, hv, hn, hs⟩ : ∃ ao n c its, Value.slice a0 len0 cap0 = .slice ao n c ∧ n ≤ 9223372036854775807 ∧ ItemsOf W ao n its := by
    obtain ⟨fuel, hf⟩ := h0
    exact itemsOf_trod hf
  simp at hv
  obtain ⟨rfl, rfl, rfl⟩ := hv
  obtain ⟨a1, rfl, rfl, rfl, w1⟩ := open_int Try.underlying3 (hval 1 3 v1 rfl rfl) h1
  clear hA0 hval0
  refine (lawCode a0 len0 cap0 its a1 W hn hs).mono fun e W' ⟨he, bel⟩ => ?_
  subst he
  exact ⟨_, rfl, _, _, _, [], _, [], hW', trodAll_mk1 (shut_bool Try.underlying4 _), (trodAll_cons_mk (Below.trod laidOut (by kernel_rfl) (of_decide_eq_true (by kernel_rfl)) k0 bel lt0) (trodAll_cons_mk (shut_int Try.underlying3 w1) trodAll_mk0)), rfl, bel.frame _, fun h => by cases h⟩

theorem fnExactCodeOK_over : Rows.fnExactCodeOKRow.holds Try.pinned (OpenSpec.ofChange Rows.fnExactCodeOKSpec) :=
  OpenClaim.holds_of_wide 4 Try.f4 rfl rfl rfl rfl rfl rfl rfl ⟨rfl, rfl, rfl, rfl, rfl⟩ rfl rfl rfl rfl rfl (by kernel_rfl) Try.func4 (by kernel_rfl)
    (of_decide_eq_true (by kernel_rfl)) (by unfold Func.isWrapper; first | (rw [if_pos (by decide +kernel)]; kernel_rfl) | (rw [if_neg (by decide +kernel)]; exact ⟨rfl, rfl⟩))
    (fun os started H enc _ => codeLifted os started H enc)

/-- THE STATEMENT -/
theorem fnExactCodeOK_holds : Rows.FnExactCodeOKSaid := fnExactCodeOK_over
#print axioms fnExactCodeOK_holds
end Go.Proofs.Ytdpejnacganadaa
