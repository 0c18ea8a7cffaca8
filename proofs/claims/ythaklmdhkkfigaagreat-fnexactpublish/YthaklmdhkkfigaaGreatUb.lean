import Derived.Test.YthaklmdhkkfigaaGreatU7
import Derived.Test.YthaklmdhkkfigaaGreatRa
import Derived.Test.YthaklmdhkkfigaaGreatU3
namespace Go.Proofs.YthaklmdhkkfigaaGreat
open Go.RowKit Go.Sort
set_option linter.unusedVariables false
attribute [local go_sem ↓] Go.wp_at_zero Go.wp_at_succ

/-- What stays of the law's two boxes. -/
structure LKBox (w wr : World) (c d : Array Value) : Prop where
  bel : Below w.heap.size w wr
  sy : wr.heap[w.heap.size]? = some (.cells c 25 (0, 0))
  ke : wr.heap[w.heap.size + 1]? = some (.cells d 30 (0, 0))
theorem LKBox.below {w wr w1 : World} {c d : Array Value} (h : LKBox w wr c d) (hb : Below wr.heap.size wr w1) : LKBox w w1 c d := ⟨h.bel.trans (hb.mono h.bel.size), block_below h.sy hb, block_below h.ke hb⟩
theorem lkbox_start (w : World) (c d : Array Value) : LKBox w ((w.alloc (.cells c 25)).alloc (.cells d 30)) c d :=
  ⟨below2 _ _ _, block_below (heap_alloc_new w _) (below1 _ _), by simpa using heap_alloc_new (w.alloc (.cells c 25)) (.cells d 30)⟩
theorem kerMax_cp {h : KerS} (m : KerMax h) (g1 g2 g3 g4 g5 g6 : Nat) : KerMax (cpK h g1 g2 g3 g4 g5 g6) := ⟨m.ml, m.mv, m.mq, m.mp, m.me, m.mf⟩
def cpP (es : List ObD) (xs : List (Int × Int)) (kd : KerD) (en xn : Nat) (a b : Nat) (h : KerS) (w : World) : Prop := ObsOf w (some ⟨a, 0, none⟩) en es ∧ ItemsOf w (some ⟨b, 0, none⟩) xn xs ∧ KerOf w h kd
theorem cpP_below {es : List ObD} {xs : List (Int × Int)} {kd : KerD} {en xn a b : Nat} {h : KerS} : ∀ u v, Below u.heap.size u v → cpP es xs kd en xn a b h u → cpP es xs kd en xn a b h v := fun _ _ hb p => ⟨p.1.below hb, p.2.1.below hb, p.2.2.below hb⟩

end Go.Proofs.YthaklmdhkkfigaaGreat
namespace Go.Proofs.YthaklmdhkkfigaaGreat
open Go.ChangeShapes Go.WideShapes Go.ChangeAt Go.RowKit Go.Joins
open Go.Deep (open_slice choose_lt open_slice_pairs)
set_option linter.unusedVariables false

theorem list1 {α : Type} {l : List α} (h : l.length = 1) : ∃ a, l = [a] := by
  match l, h with
  | [a], _ => exact ⟨a, rfl⟩
theorem array6 {α : Type} {l : Array α} (h : l.size = 6) : ∃ a b c d e f, l = #[a, b, c, d, e, f] := by
  obtain ⟨l⟩ := l
  obtain ⟨a, b, c, d, e, f, rfl⟩ := list6 h
  exact ⟨a, b, c, d, e, f, rfl⟩
theorem sliceI_trod {H : Type} {enc : TypeId × Value → H} {w : World} {base : Nat} {spare : Nat → Bool} {held : Bool} {fuel : Nat} {v : Value} {x : DataW H × List MemPlace}
    (h : DataW.trod enc Tryz.prog w base spare held fuel 26 [v] = some x) : ∃ ao n c zs, v = .slice ao n c ∧ n ≤ 9223372036854775807 ∧ SliceOf w ao n zs := by
  obtain ⟨ao, n, c, zs, h1, h2, _, h3⟩ := sliceCap_trod h
  exact ⟨ao, n, c, zs, h1, h2, h3⟩
theorem eventsOf_trod {H : Type} {enc : TypeId × Value → H} {w : World} {base : Nat} {spare : Nat → Bool} {held : Bool} {fuel : Nat} {v : Value} {x : DataW H × List MemPlace}
    (h : DataW.trod enc Tryz.prog w base spare held fuel 126 [v] = some x) : ∃ ao n c its, v = .slice ao n c ∧ n ≤ 9223372036854775807 ∧ ItemsOf w ao n its := by
  rcases open_slice_pairs Tryz.underlying126 Tryz.underlying178 (by kernel_rfl) (by kernel_rfl) (by kernel_rfl) (by kernel_rfl) (by kernel_rfl) h with ⟨hcs, _⟩ | ⟨a, l, c, m, n, V0, V1, D0, D1, P0, P1, hcs, _, hl, hm, hmm, _, hx⟩
  · simp at hcs
    subst hcs
    exact ⟨none, 0, 0, [], rfl, by omega, rfl, fun h => absurd h (by omega)⟩
  · simp at hcs
    subst hcs
    have hlm : l ≤ m := by rw [hmm]; split <;> omega
    refine ⟨some a, l, c, (List.range l).map (fun i => (intOf (V0 i), intOf (V1 i))), rfl, by unfold maxLen at hm; omega, by simp, fun h0 => ?_⟩
    obtain ⟨b, off, spot⟩ := a
    have hc := (hx 0 (by omega)).1
    have hspot : spot = none := by simpa [Addr.add] using World.cell?_spot hc
    subst hspot
    refine ⟨b, off, rfl, block_lt_of_cell hc, fun i hi => ?_⟩
    obtain ⟨h1, h2, h3, h4⟩ := hx i (by omega)
    obtain ⟨p, e0, _, _⟩ := DataW.trod_int Tryz.underlying3 h3
    obtain ⟨q, e1, _, _⟩ := DataW.trod_int Tryz.underlying3 h4
    simp at e0 e1
    rw [addr_add] at h1 h2
    have eg : ((List.range l).map (fun i => (intOf (V0 i), intOf (V1 i)))).getD i (0, 0) = (p, q) := by
      simp [List.getD_eq_getElem?_getD, hi, e0, e1, intOf]
    rw [eg]
    rw [e0] at h1
    rw [e1] at h2
    exact ⟨h1, by rw [show off + i * 2 + 1 = off + (i * 2 + 1) by omega]; exact h2⟩


theorem nestI_trod {H : Type} {enc : TypeId × Value → H} {w : World} {base : Nat} {spare : Nat → Bool} {held : Bool} {fuel : Nat} {v : Value} {x : DataW H × List MemPlace}
    (h : DataW.trod enc Tryz.prog w base spare held fuel 27 [v] = some x) : ∃ ao n c zss, v = .slice ao n c ∧ n ≤ 9223372036854775807 ∧ NestI w ao n zss := by
  rcases open_slice Tryz.underlying27 h with ⟨hcs, _⟩ | ⟨a, l, c, m, n, D, Pl, hcs, _, hl, hm, hmm, _, hx⟩
  · simp at hcs
    subst hcs
    exact ⟨none, 0, 0, [], rfl, by omega, rfl, fun h => absurd h (by omega)⟩
  · simp at hcs
    subst hcs
    have hlm : l ≤ m := by rw [hmm]; split <;> omega
    have ce : Tryz.prog.cellsOf 26 = 1 := by kernel_rfl
    rw [ce] at hx
    obtain ⟨b, off, spot⟩ := a
    have hspot : 0 < l → spot = none := by
      intro h0
      obtain ⟨cs', h1, _⟩ := hx 0 (by omega)
      obtain ⟨_, hlen, hcell⟩ := World.cells?_some h1
      obtain ⟨z0, rfl⟩ := list1 hlen
      have : w.cell? ((({ block := b, off := off, spot := spot } : Addr).add (0 * 1)).add 0) = some z0 := hcell 0 (by omega)
      simpa [Addr.add] using World.cell?_spot this
    have each : ∀ i, i < l → ∃ s : List Int, b < w.heap.size ∧ ∃ co cn cc, w.cell? ⟨b, off + i, none⟩ = some (.slice co cn cc) ∧ cn ≤ 9223372036854775807 ∧ SliceOf w co cn s := by
      intro i hi
      have hsp := hspot (by omega)
      subst hsp
      obtain ⟨cs', h1, h2⟩ := hx i (by omega)
      obtain ⟨_, hlen, hcell⟩ := World.cells?_some h1
      obtain ⟨v0, rfl⟩ := list1 hlen
      have e0 : w.cell? (((⟨b, off, none⟩ : Addr).add (i * 1)).add 0) = some v0 := hcell 0 (by omega)
      rw [addr_add, addr_add] at e0
      obtain ⟨co, cn, cc, its, r3, hcn, hit⟩ := sliceI_trod h2
      subst r3
      exact ⟨its, block_lt_of_cell e0, co, cn, cc, by simpa using e0, hcn, hit⟩
    obtain ⟨f, hf⟩ := @choose_lt (List Int) ⟨[]⟩ _ _ each
    refine ⟨some ⟨b, off, spot⟩, l, c, (List.range l).map f, rfl, by unfold maxLen at hm; omega, by simp, fun h0 => ?_⟩
    have hsp := hspot h0
    subst hsp
    refine ⟨b, off, rfl, (hf 0 h0).1, fun i hi => ?_⟩
    have eg : ((List.range l).map f).getD i [] = f i := by simp [List.getD_eq_getElem?_getD, hi]
    rw [eg]
    exact (hf i hi).2

theorem nestE_trod {H : Type} {enc : TypeId × Value → H} {w : World} {base : Nat} {spare : Nat → Bool} {held : Bool} {fuel : Nat} {v : Value} {x : DataW H × List MemPlace}
    (h : DataW.trod enc Tryz.prog w base spare held fuel 28 [v] = some x) : ∃ ao n c zss, v = .slice ao n c ∧ n ≤ 9223372036854775807 ∧ NestE w ao n zss := by
  rcases open_slice Tryz.underlying28 h with ⟨hcs, _⟩ | ⟨a, l, c, m, n, D, Pl, hcs, _, hl, hm, hmm, _, hx⟩
  · simp at hcs
    subst hcs
    exact ⟨none, 0, 0, [], rfl, by omega, rfl, fun h => absurd h (by omega)⟩
  · simp at hcs
    subst hcs
    have hlm : l ≤ m := by rw [hmm]; split <;> omega
    have ce : Tryz.prog.cellsOf 126 = 1 := by kernel_rfl
    rw [ce] at hx
    obtain ⟨b, off, spot⟩ := a
    have hspot : 0 < l → spot = none := by
      intro h0
      obtain ⟨cs', h1, _⟩ := hx 0 (by omega)
      obtain ⟨_, hlen, hcell⟩ := World.cells?_some h1
      obtain ⟨z0, rfl⟩ := list1 hlen
      have : w.cell? ((({ block := b, off := off, spot := spot } : Addr).add (0 * 1)).add 0) = some z0 := hcell 0 (by omega)
      simpa [Addr.add] using World.cell?_spot this
    have each : ∀ i, i < l → ∃ s : List (Int × Int), b < w.heap.size ∧ ∃ co cn cc, w.cell? ⟨b, off + i, none⟩ = some (.slice co cn cc) ∧ cn ≤ 9223372036854775807 ∧ ItemsOf w co cn s := by
      intro i hi
      have hsp := hspot (by omega)
      subst hsp
      obtain ⟨cs', h1, h2⟩ := hx i (by omega)
      obtain ⟨_, hlen, hcell⟩ := World.cells?_some h1
      obtain ⟨v0, rfl⟩ := list1 hlen
      have e0 : w.cell? (((⟨b, off, none⟩ : Addr).add (i * 1)).add 0) = some v0 := hcell 0 (by omega)
      rw [addr_add, addr_add] at e0
      obtain ⟨co, cn, cc, its, r3, hcn, hit⟩ := eventsOf_trod h2
      subst r3
      exact ⟨its, block_lt_of_cell e0, co, cn, cc, by simpa using e0, hcn, hit⟩
    obtain ⟨f, hf⟩ := @choose_lt (List (Int × Int)) ⟨[]⟩ _ _ each
    refine ⟨some ⟨b, off, spot⟩, l, c, (List.range l).map f, rfl, by unfold maxLen at hm; omega, by simp, fun h0 => ?_⟩
    have hsp := hspot h0
    subst hsp
    refine ⟨b, off, rfl, (hf 0 h0).1, fun i hi => ?_⟩
    have eg : ((List.range l).map f).getD i [] = f i := by simp [List.getD_eq_getElem?_getD, hi]
    rw [eg]
    exact (hf i hi).2

set_option maxRecDepth 100000 in
theorem kerOf_trod {H : Type} {enc : TypeId × Value → H} {w : World} {base b0 : Nat} {spare : Nat → Bool} {held : Bool} {r : Reach} {v : Value} {d : DataW H} {p : List MemPlace}
    (hv : Value.okWide Tryz.prog w r b0 30 v) (h : DataW.Trod enc Tryz.prog w base spare held 30 v d p) : ∃ ks kd, v = kerV ks ∧ KerMax ks ∧ KerOf w ks kd := by
  obtain ⟨cs, rfl, hsz⟩ := okWide_struct Tryz.underlying30 hv
  have ce : Tryz.prog.cellsOf 30 = 6 := by kernel_rfl
  obtain ⟨c0, c1, c2, c3, c4, c5, rfl⟩ := array6 (hsz.trans ce)
  obtain ⟨fuel, hf⟩ := h
  obtain ⟨xs, k, hk, hxy, _, hxl, hf⟩ := DataW.trod_struct Tryz.underlying30 hf
  obtain ⟨y0, y1, y2, y3, y4, y5, rfl⟩ := list6 (show xs.length = 6 from hxl)
  have g0 : DataW.trod enc Tryz.prog w base spare held k 26 [c0] = some y0 := hf 0 _ rfl
  have g1 : DataW.trod enc Tryz.prog w base spare held k 27 [c1] = some y1 := hf 1 _ rfl
  have g2 : DataW.trod enc Tryz.prog w base spare held k 28 [c2] = some y2 := hf 2 _ rfl
  have g3 : DataW.trod enc Tryz.prog w base spare held k 28 [c3] = some y3 := hf 3 _ rfl
  have g4 : DataW.trod enc Tryz.prog w base spare held k 26 [c4] = some y4 := hf 4 _ rfl
  have g5 : DataW.trod enc Tryz.prog w base spare held k 26 [c5] = some y5 := hf 5 _ rfl
  obtain ⟨lo, ln, lc, ls, rfl, hln, hls⟩ := sliceI_trod g0
  obtain ⟨vo, vn, vc, vs, rfl, hvn, hvs⟩ := nestI_trod g1
  obtain ⟨qo, qn, qc, qs, rfl, hqn, hqs⟩ := nestE_trod g2
  obtain ⟨po, pn, pc, ps, rfl, hpn, hps⟩ := nestE_trod g3
  obtain ⟨eo, en, ec, es, rfl, hen, hes⟩ := sliceI_trod g4
  obtain ⟨fo, fn, fc, fs, rfl, hfn, hfs⟩ := sliceI_trod g5
  exact ⟨⟨lo, ln, lc, vo, vn, vc, qo, qn, qc, po, pn, pc, eo, en, ec, fo, fn, fc⟩, ⟨ls, vs, qs, ps, es, fs⟩, rfl, ⟨hln, hvn, hqn, hpn, hen, hfn⟩, ⟨hls, hvs, hqs, hps, hes, hfs⟩⟩
end Go.Proofs.YthaklmdhkkfigaaGreat
