import Derived.Test.YtdpejnacganadaaCode
import Derived.Test.YtdpejnacganadaaE1
namespace Go.Proofs.Ytdpejnacganadaa
open Go.ChangeShapes Go.WideShapes Go.ChangeAt Go.RowKit Go.Joins
open Go.Deep (open_slice choose_lt)
set_option linter.unusedVariables false

theorem list4 {α : Type} {l : List α} (h : l.length = 4) : ∃ a b c d, l = [a, b, c, d] := by
  match l, h with
  | [a, b, c, d], _ => exact ⟨a, b, c, d, rfl⟩

set_option maxRecDepth 100000 in
theorem stmsOf_trod {H : Type} {enc : TypeId × Value → H} {w : World} {base : Nat} {spare : Nat → Bool} {held : Bool} {fuel : Nat} {v : Value} {x : DataW H × List MemPlace}
    (h : DataW.trod enc Try.prog w base spare held fuel 45 [v] = some x) : ∃ ao n c ss, v = .slice ao n c ∧ n ≤ 9223372036854775807 ∧ StmsOf w ao n ss := by
  rcases open_slice Try.underlying45 h with ⟨hcs, _⟩ | ⟨a, l, c, m, n, D, Pl, hcs, _, hl, hm, hmm, _, hx⟩
  · simp at hcs
    subst hcs
    exact ⟨none, 0, 0, [], rfl, by omega, rfl, fun h => absurd h (by omega)⟩
  · simp at hcs
    subst hcs
    have hlm : l ≤ m := by rw [hmm]; split <;> omega
    have ce : Try.prog.cellsOf 85 = 4 := by kernel_rfl
    rw [ce] at hx
    obtain ⟨b, off, spot⟩ := a
    have hspot : 0 < l → spot = none := by
      intro h0
      obtain ⟨cs', h1, _⟩ := hx 0 (by omega)
      obtain ⟨_, hlen, hcell⟩ := World.cells?_some h1
      obtain ⟨z0, z1, z2, z3, rfl⟩ := list4 hlen
      have : w.cell? ((({ block := b, off := off, spot := spot } : Addr).add (0 * 4)).add 0) = some z0 := hcell 0 (by omega)
      simpa [Addr.add] using World.cell?_spot this
    have each : ∀ i, i < l → ∃ s : StmD, b < w.heap.size ∧ StmAt w b (off + i * 4) s := by
      intro i hi
      have hsp := hspot (by omega)
      subst hsp
      obtain ⟨cs', h1, h2⟩ := hx i (by omega)
      obtain ⟨_, hlen, hcell⟩ := World.cells?_some h1
      obtain ⟨xs, k, hk, hxy, _, hxl, hf⟩ := DataW.trod_struct Try.underlying85 h2
      obtain ⟨v0, v1, v2, v3, rfl⟩ := list4 hlen
      obtain ⟨y0, y1, y2, y3, rfl⟩ := list4 (show xs.length = 4 from hxl)
      have e0 : w.cell? (((⟨b, off, none⟩ : Addr).add (i * 4)).add 0) = some v0 := hcell 0 (by omega)
      have e1 : w.cell? (((⟨b, off, none⟩ : Addr).add (i * 4)).add 1) = some v1 := hcell 1 (by omega)
      have e2 : w.cell? (((⟨b, off, none⟩ : Addr).add (i * 4)).add 2) = some v2 := hcell 2 (by omega)
      have e3 : w.cell? (((⟨b, off, none⟩ : Addr).add (i * 4)).add 3) = some v3 := hcell 3 (by omega)
      have g0 : DataW.trod enc Try.prog w base spare held k 3 [v0] = some y0 := hf 0 _ rfl
      have g1 : DataW.trod enc Try.prog w base spare held k 3 [v1] = some y1 := hf 1 _ rfl
      have g2 : DataW.trod enc Try.prog w base spare held k 3 [v2] = some y2 := hf 2 _ rfl
      have g3 : DataW.trod enc Try.prog w base spare held k 39 [v3] = some y3 := hf 3 _ rfl
      rw [addr_add, addr_add] at e0 e1 e2 e3
      obtain ⟨p0, r0, _, _⟩ := DataW.trod_int Try.underlying3 g0
      obtain ⟨p1, r1, _, _⟩ := DataW.trod_int Try.underlying3 g1
      obtain ⟨p2, r2, _, _⟩ := DataW.trod_int Try.underlying3 g2
      obtain ⟨co, cn, cc, its, r3, hcn, hit⟩ := itemsOf_trod g3
      simp at r0 r1 r2
      subst r0 r1 r2 r3
      exact ⟨⟨p0, p1, p2, its⟩, block_lt_of_cell e0, by simpa using e0, by simpa using e1, by simpa using e2, co, cn, cc, by simpa using e3, hcn, hit⟩
    obtain ⟨f, hf⟩ := @choose_lt StmD ⟨stm0⟩ _ _ each
    refine ⟨some ⟨b, off, spot⟩, l, c, (List.range l).map f, rfl, by unfold maxLen at hm; omega, by simp, fun h0 => ?_⟩
    have hsp := hspot h0
    subst hsp
    refine ⟨b, off, rfl, (hf 0 h0).1, fun i hi => ?_⟩
    have eg : ((List.range l).map f).getD i stm0 = f i := by simp [List.getD_eq_getElem?_getD, hi]
    rw [eg]
    exact (hf i hi).2

set_option maxRecDepth 100000 in
theorem stmsLifted (os : Os) (started : os.Started) (H : Type) (enc : TypeId × Value → H) :
    ReturnsInHanded {} Try.checked os 5 .any (Rows.fnExactStmsOKSpec.pre6 enc Try.prog Try.f5 Rows.fnExactStmsOKRow.domain false) (Rows.fnExactStmsOKSpec.post enc Try.prog Try.f5 false true false false) := by
  refine returnsInHanded_of_change (C := Try.checked) own started (by kernel_rfl) Try.func5
    (ChangeSpec.witness6 (enc := enc) (C := Try.checked) false ⟨#[], #[.slice none 0 0, .agg #[.int .i64 0, .int .i64 0, .int .i64 0, .int .i64 0]], []⟩ 8 (by kernel_rfl) (by kernel_rfl) (by kernel_rfl) (by kernel_rfl)) ?_
  intro W base args ds gs before hval0 hW hcnd _
  have hval : ∀ (j : Nat) t v, Try.f5.params[j]? = some t → args[j]? = some v → Value.okWide Try.prog W .any base t v := hval0
  have hW' := hW
  obtain ⟨p, q, hA0, hV, rfl, hfz, hnd⟩ := hW
  have hA : DataW.TrodAll enc Try.prog W 0 (fun _ => true) true Try.f5.params.toList args.toList ds p := hA0
  rw [Try.params5] at hA hval
  obtain ⟨v0, vs0, d0, ds0, p0, q0, hargs, rfl, rfl, h0, r0⟩ := trodAll_cons hA
  obtain ⟨v1, vs1, d1, ds1, p1, q1, rfl, rfl, rfl, h1, r1⟩ := trodAll_cons r0
  obtain ⟨rfl, rfl, rfl⟩ := trodAll_nil r1
  obtain rfl : args = #[v0, v1] := by cases args; simp_all
  obtain ⟨rfl, rfl⟩ := trodVars_none hV
  obtain ⟨a0, len0, cap0, rfl⟩ := okWide_slice Try.underlying45 (hval 0 45 v0 rfl rfl)
  have k0 := h0
  have lt0 : ∀ x ∈ p0, x.block < W.heap.size := by obtain ⟨m, hm⟩ := k0; exact DataW.trod_lt m _ _ _ hm
  have k1 := h1
  have lt1 : ∀ x ∈ p1, x.block < W.heap.size := by obtain ⟨m, hm⟩ := k1; exact DataW.trod_lt m _ _ _ hm
  obtain ⟨ao, n, c, ss, hv, hn, hs⟩ : ∃ ao n c ss, Value.slice a0 len0 cap0 = .slice ao n c ∧ n ≤ 9223372036854775807 ∧ StmsOf W ao n ss := by
    obtain ⟨fuel, hf⟩ := h0
    exact stmsOf_trod hf
  simp at hv
  obtain ⟨rfl, rfl, rfl⟩ := hv
  obtain ⟨c0, c1, c2, c3, y0, y1, y2, y3, m, rfl, hd, hp, g0, g1, g2, g3⟩ := open_agg4 Try.underlying47 (by kernel_rfl) (by kernel_rfl) (hval 1 47 v1 rfl rfl) h1
  obtain ⟨i0, e0, _, _⟩ := DataW.trod_int Try.underlying3 g0
  obtain ⟨i1, e1, _, _⟩ := DataW.trod_int Try.underlying3 g1
  obtain ⟨i2, e2, _, _⟩ := DataW.trod_int Try.underlying3 g2
  obtain ⟨i3, e3, _, _⟩ := DataW.trod_int Try.underlying3 g3
  simp at e0 e1 e2 e3
  subst e0 e1 e2 e3
  clear hA0 hval0
  refine (lawStms a0 len0 cap0 ss i0 i1 i2 i3 W hn hs).mono fun e W' ⟨he, bel⟩ => ?_
  subst he
  exact ⟨_, rfl, _, _, _, [], _, [], hW', trodAll_mk1 (shut_bool Try.underlying4 _), (trodAll_cons_mk (Below.trod laidOut (by kernel_rfl) (of_decide_eq_true (by kernel_rfl)) k0 bel lt0) (trodAll_cons_mk (Below.trod laidOut (by kernel_rfl) (of_decide_eq_true (by kernel_rfl)) k1 bel lt1) trodAll_mk0)), rfl, bel.frame _, fun h => by cases h⟩

theorem fnExactStmsOK_over : Rows.fnExactStmsOKRow.holds Try.pinned (OpenSpec.ofChange Rows.fnExactStmsOKSpec) :=
  OpenClaim.holds_of_wide 5 Try.f5 rfl rfl rfl rfl rfl rfl rfl ⟨rfl, rfl, rfl, rfl, rfl⟩ rfl rfl rfl rfl rfl (by kernel_rfl) Try.func5 (by kernel_rfl)
    (of_decide_eq_true (by kernel_rfl)) (by unfold Func.isWrapper; first | (rw [if_pos (by decide +kernel)]; kernel_rfl) | (rw [if_neg (by decide +kernel)]; exact ⟨rfl, rfl⟩))
    (fun os started H enc _ => stmsLifted os started H enc)

/-- THE STATEMENT -/
theorem fnExactStmsOK_holds : Rows.FnExactStmsOKSaid := fnExactStmsOK_over
#print axioms fnExactStmsOK_holds
end Go.Proofs.Ytdpejnacganadaa
