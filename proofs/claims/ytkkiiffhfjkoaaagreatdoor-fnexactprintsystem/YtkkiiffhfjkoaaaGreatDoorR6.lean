import Derived.Test.YtkkiiffhfjkoaaaGreatDoorR3
import Derived.Test.YtkkiiffhfjkoaaaGreatDoorPs2
namespace Go.Proofs.YtkkiiffhfjkoaaaGreatDoor
open Go.ChangeShapes Go.WideShapes Go.ChangeAt Go.RowKit Go.Joins
open Go.Deep (open_slice choose_lt open_slice_pairs)
set_option linter.unusedVariables false

theorem lit_I64 {n : Int} (h : (Lit.int .i64 n).wf = true) : I64 n := by
  simp only [Lit.wf, Bool.and_eq_true, decide_eq_true_eq] at h
  have h1 : IntKind.i64.min = -9223372036854775808 := by decide
  have h2 : IntKind.i64.max = 9223372036854775807 := by decide
  rw [h1, h2] at h
  exact h
theorem sliceI_trod {H : Type} {enc : TypeId × Value → H} {w : World} {base : Nat} {spare : Nat → Bool} {held : Bool} {fuel : Nat} {v : Value} {x : DataW H × List MemPlace}
    (h : DataW.trod enc Tryz.prog w base spare held fuel 39 [v] = some x) : ∃ ao n c zs, v = .slice ao n c ∧ n ≤ 9223372036854775807 ∧ n ≤ c ∧ SliceOf w ao n zs ∧ ∀ i, i < n → I64 (zs.getD i 0) := by
  rcases open_ints Tryz.underlying39 Tryz.underlying3 (by kernel_rfl) h with ⟨hcs, _⟩ | ⟨a, l, c, zs, hcs, _, hl, hm, hz, _, hcell, hwz⟩
  · simp at hcs
    subst hcs
    exact ⟨none, 0, 0, [], rfl, by omega, Nat.le_refl _, ⟨rfl, fun h => absurd h (by omega)⟩, fun i hi => absurd hi (by omega)⟩
  · simp at hcs
    subst hcs
    have hlz : l ≤ zs.length := by rw [hz]; split <;> omega
    refine ⟨some a, l, c, zs.take l, rfl, by unfold maxLen at hm; omega, hl, ⟨by simp; omega, fun h0 => ?_⟩, fun i hi => ?_⟩
    · obtain ⟨b, off, spot⟩ := a
      have hc := hcell 0 (by omega)
      have hspot : spot = none := by simpa [Addr.add] using World.cell?_spot hc
      subst hspot
      refine ⟨b, off, rfl, block_lt_of_cell hc, fun i hi => ?_⟩
      have := hcell i (by omega)
      rw [addr_add] at this
      simpa [List.getD_eq_getElem?_getD, List.getElem?_take, hi] using this
    · have e : (zs.take l).getD i 0 = zs.getD i 0 := by simp [List.getD_eq_getElem?_getD, hi]
      rw [e]
      have hm : zs.getD i 0 ∈ zs := by
        rw [List.getD_eq_getElem?_getD, List.getElem?_eq_getElem (show i < zs.length by omega)]; simp
      exact lit_I64 (hwz _ hm)


set_option maxRecDepth 100000 in
theorem obsI_trod {H : Type} {enc : TypeId × Value → H} {w : World} {base : Nat} {spare : Nat → Bool} {held : Bool} {fuel : Nat} {v : Value} {x : DataW H × List MemPlace}
    (h : DataW.trod enc Tryz.prog w base spare held fuel 22 [v] = some x) : ∃ ao n c ss, v = .slice ao n c ∧ n ≤ 9223372036854775807 ∧ ObsOf w ao n ss ∧ ∀ i, i < ss.length → ∀ j, j < (ss.getD i ob0).vals.length → I64 ((ss.getD i ob0).vals.getD j 0) := by
  rcases open_slice Tryz.underlying22 h with ⟨hcs, _⟩ | ⟨a, l, c, m, n, D, Pl, hcs, _, hl, hm, hmm, _, hx⟩
  · simp at hcs
    subst hcs
    exact ⟨none, 0, 0, [], rfl, by omega, ⟨rfl, fun h => absurd h (by omega)⟩, fun i hi => absurd hi (by simp)⟩
  · simp at hcs
    subst hcs
    have hlm : l ≤ m := by rw [hmm]; split <;> omega
    have ce : Tryz.prog.cellsOf 81 = 8 := by kernel_rfl
    rw [ce] at hx
    obtain ⟨b, off, spot⟩ := a
    have hspot : 0 < l → spot = none := by
      intro h0
      obtain ⟨cs', h1, _⟩ := hx 0 (by omega)
      obtain ⟨_, hlen, hcell⟩ := World.cells?_some h1
      obtain ⟨z0, z1, z2, z3, z4, z5, z6, z7, rfl⟩ := list8 hlen
      have : w.cell? ((({ block := b, off := off, spot := spot } : Addr).add (0 * 8)).add 0) = some z0 := hcell 0 (by omega)
      simpa [Addr.add] using World.cell?_spot this
    have each : ∀ i, i < l → ∃ s : ObD, (b < w.heap.size ∧ ObAt w b (off + i * 8) s) ∧ ∀ j, j < s.vals.length → I64 (s.vals.getD j 0) := by
      intro i hi
      have hsp := hspot (by omega)
      subst hsp
      obtain ⟨cs', h1, h2⟩ := hx i (by omega)
      obtain ⟨_, hlen, hcell⟩ := World.cells?_some h1
      obtain ⟨xs, k, hk, hxy, _, hxl, hf⟩ := DataW.trod_struct Tryz.underlying81 h2
      obtain ⟨v0, v1, v2, v3, v4, v5, v6, v7, rfl⟩ := list8 hlen
      obtain ⟨y0, y1, y2, y3, y4, y5, rfl⟩ := list6 (show xs.length = 6 from hxl)
      have e0 : w.cell? (((⟨b, off, none⟩ : Addr).add (i * 8)).add 0) = some v0 := hcell 0 (by omega)
      have e1 : w.cell? (((⟨b, off, none⟩ : Addr).add (i * 8)).add 1) = some v1 := hcell 1 (by omega)
      have e2 : w.cell? (((⟨b, off, none⟩ : Addr).add (i * 8)).add 2) = some v2 := hcell 2 (by omega)
      have e3 : w.cell? (((⟨b, off, none⟩ : Addr).add (i * 8)).add 3) = some v3 := hcell 3 (by omega)
      have e4 : w.cell? (((⟨b, off, none⟩ : Addr).add (i * 8)).add 4) = some v4 := hcell 4 (by omega)
      have e5 : w.cell? (((⟨b, off, none⟩ : Addr).add (i * 8)).add 5) = some v5 := hcell 5 (by omega)
      have e6 : w.cell? (((⟨b, off, none⟩ : Addr).add (i * 8)).add 6) = some v6 := hcell 6 (by omega)
      have e7 : w.cell? (((⟨b, off, none⟩ : Addr).add (i * 8)).add 7) = some v7 := hcell 7 (by omega)
      have g0 : DataW.trod enc Tryz.prog w base spare held k 3 [v0] = some y0 := hf 0 _ rfl
      have g1 : DataW.trod enc Tryz.prog w base spare held k 3 [v1] = some y1 := hf 1 _ rfl
      have g2 : DataW.trod enc Tryz.prog w base spare held k 3 [v2] = some y2 := hf 2 _ rfl
      have g3 : DataW.trod enc Tryz.prog w base spare held k 75 [v3, v4] = some y3 := hf 3 _ rfl
      have g4 : DataW.trod enc Tryz.prog w base spare held k 39 [v5] = some y4 := hf 4 _ rfl
      have g5 : DataW.trod enc Tryz.prog w base spare held k 79 [v6, v7] = some y5 := hf 5 _ rfl
      obtain ⟨xb, kb, _, _, _, hxbl, hfb⟩ := DataW.trod_struct Tryz.underlying75 g3
      obtain ⟨yb0, yb1, rfl⟩ := list2 (show xb.length = 2 from hxbl)
      have gb0 : DataW.trod enc Tryz.prog w base spare held kb 39 [v3] = some yb0 := hfb 0 _ rfl
      have gb1 : DataW.trod enc Tryz.prog w base spare held kb 39 [v4] = some yb1 := hfb 1 _ rfl
      obtain ⟨xh, kh, _, _, _, hxhl, hfh⟩ := DataW.trod_struct Tryz.underlying79 g5
      obtain ⟨yh0, yh1, rfl⟩ := list2 (show xh.length = 2 from hxhl)
      have gh0 : DataW.trod enc Tryz.prog w base spare held kh 76 [v6] = some yh0 := hfh 0 _ rfl
      have gh1 : DataW.trod enc Tryz.prog w base spare held kh 77 [v7] = some yh1 := hfh 1 _ rfl
      rw [addr_add, addr_add] at e0 e1 e2 e3 e4 e5 e6 e7
      obtain ⟨p0, r0, _, _⟩ := DataW.trod_int Tryz.underlying3 g0
      obtain ⟨p1, r1, _, _⟩ := DataW.trod_int Tryz.underlying3 g1
      obtain ⟨p2, r2, _, _⟩ := DataW.trod_int Tryz.underlying3 g2
      obtain ⟨ko, kn, kc, ks, r3, hkn, _, hks⟩ := sliceCap_trod gb0
      obtain ⟨vo, vn, vc, vs, r4, hvn, _, hvs, hvi⟩ := sliceI_trod gb1
      obtain ⟨uo, un, uc, us, r5, hun, huc, hus⟩ := sliceCap_trod g4
      obtain ⟨so, sn, sc, sts, r6, hsn, hst⟩ := statesOf_trod gh0
      obtain ⟨po, pn, pc, tts, r7, htn, htt⟩ := transOf_trod gh1
      simp at r0 r1 r2
      subst r0 r1 r2 r3 r4 r5 r6 r7
      exact ⟨⟨p0, p1, p2, ks, vs, us, sts, tts⟩, ⟨block_lt_of_cell e0, ⟨ko, kn, kc, vo, vn, vc, uo, un, uc, so, sn, sc, po, pn, pc⟩,
        ⟨by simpa using e0, by simpa using e1, by simpa using e2, by simpa using e3, by simpa using e4, by simpa using e5, by simpa using e6, by simpa using e7⟩, ⟨hkn, hvn, hun, hsn, htn, huc⟩, ⟨hks, hvs, hus, hst, htt⟩⟩, fun j hj => hvi j (by have h1 := hvs.1; dsimp only at hj h1; omega)⟩
    obtain ⟨f, hf⟩ := @choose_lt ObD ⟨ob0⟩ _ _ each
    refine ⟨some ⟨b, off, spot⟩, l, c, (List.range l).map f, rfl, by unfold maxLen at hm; omega, ⟨by simp, fun h0 => ?_⟩, fun i hi => ?_⟩
    · have hsp := hspot h0
      subst hsp
      refine ⟨b, off, rfl, (hf 0 h0).1.1, fun i hi => ?_⟩
      have eg : ((List.range l).map f).getD i ob0 = f i := by simp [List.getD_eq_getElem?_getD, hi]
      rw [eg]
      exact (hf i hi).1.2
    · have hi' : i < l := by simpa using hi
      have eg : ((List.range l).map f).getD i ob0 = f i := by simp [List.getD_eq_getElem?_getD, hi']
      rw [eg]
      exact (hf i hi').2
end Go.Proofs.YtkkiiffhfjkoaaaGreatDoor
