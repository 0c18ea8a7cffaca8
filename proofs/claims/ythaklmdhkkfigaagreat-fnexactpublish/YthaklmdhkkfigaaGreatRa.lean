import Derived.Test.YthaklmdhkkfigaaGreatRows
import Derived.Test.YthaklmdhkkfigaaGreatKa
import Derived.ProofKit
import Derived.OpenShut
import Derived.ShutString
import Derived.ChangeOld
import Derived.Below
import Derived.Lib.SmallJoins
import Derived.Deep.SlicePairs
import Derived.Test.YthaklmdhkkfigaaGreatT1
namespace Go.Proofs.YthaklmdhkkfigaaGreat
open Go.ChangeShapes Go.WideShapes Go.ChangeAt Go.RowKit Go.Joins
open Go.Deep (open_slice choose_lt open_slice_pairs)
set_option linter.unusedVariables false

theorem own : ownKnob Tryz.prog.godebug = none := by kernel_rfl
theorem laidOut : laidOutB Tryz.prog = true := by kernel_rfl
theorem addr_add (b off i : Nat) : (⟨b, off, none⟩ : Addr).add i = ⟨b, off + i, none⟩ := by
  by_cases h : i = 0
  · subst h; simp [Addr.add]
  · simp [Addr.add, h]

theorem itemsOf_trod {H : Type} {enc : TypeId × Value → H} {w : World} {base : Nat} {spare : Nat → Bool} {held : Bool} {fuel : Nat} {v : Value} {x : DataW H × List MemPlace}
    (h : DataW.trod enc Tryz.prog w base spare held fuel 231 [v] = some x) : ∃ ao n c its, v = .slice ao n c ∧ n ≤ 9223372036854775807 ∧ ItemsOf w ao n its := by
  rcases open_slice_pairs Tryz.underlying231 Tryz.underlying304 (by kernel_rfl) (by kernel_rfl) (by kernel_rfl) (by kernel_rfl) (by kernel_rfl) h with ⟨hcs, _⟩ | ⟨a, l, c, m, n, V0, V1, D0, D1, P0, P1, hcs, _, hl, hm, hmm, _, hx⟩
  · simp at hcs
    subst hcs
    exact ⟨none, 0, 0, [], rfl, by omega, rfl, fun h => absurd h (by omega)⟩
  · simp at hcs
    subst hcs
    have hlm : l ≤ m := by rw [hmm]; split <;> omega
    refine ⟨some a, l, c, (List.range l).map (fun i => (intOf (V0 i), intOf (V1 i))), rfl, by unfold maxLen at hm; omega, by simp, fun h0 => ?_⟩
    obtain ⟨b, off, spot⟩ := a
    have hc := (hx 0 (by omega)).1
    have hspot : spot = none := by simpa [Addr.add] using World.cell?_spot hc
    subst hspot
    refine ⟨b, off, rfl, block_lt_of_cell hc, fun i hi => ?_⟩
    obtain ⟨h1, h2, h3, h4⟩ := hx i (by omega)
    obtain ⟨p, e0, _, _⟩ := DataW.trod_int Tryz.underlying3 h3
    obtain ⟨q, e1, _, _⟩ := DataW.trod_int Tryz.underlying3 h4
    simp at e0 e1
    rw [addr_add] at h1 h2
    have eg : ((List.range l).map (fun i => (intOf (V0 i), intOf (V1 i)))).getD i (0, 0) = (p, q) := by
      simp [List.getD_eq_getElem?_getD, hi, e0, e1, intOf]
    rw [eg]
    rw [e0] at h1
    rw [e1] at h2
    exact ⟨h1, by rw [show off + i * 2 + 1 = off + (i * 2 + 1) by omega]; exact h2⟩

theorem list4 {α : Type} {l : List α} (h : l.length = 4) : ∃ a b c d, l = [a, b, c, d] := by
  match l, h with
  | [a, b, c, d], _ => exact ⟨a, b, c, d, rfl⟩
theorem list5 {α : Type} {l : List α} (h : l.length = 5) : ∃ a b c d e, l = [a, b, c, d, e] := by
  match l, h with
  | [a, b, c, d, e], _ => exact ⟨a, b, c, d, e, rfl⟩

set_option maxRecDepth 100000 in
theorem stmsOf_trod {H : Type} {enc : TypeId × Value → H} {w : World} {base : Nat} {spare : Nat → Bool} {held : Bool} {fuel : Nat} {v : Value} {x : DataW H × List MemPlace}
    (h : DataW.trod enc Tryz.prog w base spare held fuel 227 [v] = some x) : ∃ ao n c ss, v = .slice ao n c ∧ n ≤ 9223372036854775807 ∧ StmsOf w ao n ss := by
  rcases open_slice Tryz.underlying227 h with ⟨hcs, _⟩ | ⟨a, l, c, m, n, D, Pl, hcs, _, hl, hm, hmm, _, hx⟩
  · simp at hcs
    subst hcs
    exact ⟨none, 0, 0, [], rfl, by omega, rfl, fun h => absurd h (by omega)⟩
  · simp at hcs
    subst hcs
    have hlm : l ≤ m := by rw [hmm]; split <;> omega
    have ce : Tryz.prog.cellsOf 297 = 4 := by kernel_rfl
    rw [ce] at hx
    obtain ⟨b, off, spot⟩ := a
    have hspot : 0 < l → spot = none := by
      intro h0
      obtain ⟨cs', h1, _⟩ := hx 0 (by omega)
      obtain ⟨_, hlen, hcell⟩ := World.cells?_some h1
      obtain ⟨z0, z1, z2, z3, rfl⟩ := list4 hlen
      have : w.cell? ((({ block := b, off := off, spot := spot } : Addr).add (0 * 4)).add 0) = some z0 := hcell 0 (by omega)
      simpa [Addr.add] using World.cell?_spot this
    have each : ∀ i, i < l → ∃ s : StmD, b < w.heap.size ∧ StmAt w b (off + i * 4) s := by
      intro i hi
      have hsp := hspot (by omega)
      subst hsp
      obtain ⟨cs', h1, h2⟩ := hx i (by omega)
      obtain ⟨_, hlen, hcell⟩ := World.cells?_some h1
      obtain ⟨xs, k, hk, hxy, _, hxl, hf⟩ := DataW.trod_struct Tryz.underlying297 h2
      obtain ⟨v0, v1, v2, v3, rfl⟩ := list4 hlen
      obtain ⟨y0, y1, y2, y3, rfl⟩ := list4 (show xs.length = 4 from hxl)
      have e0 : w.cell? (((⟨b, off, none⟩ : Addr).add (i * 4)).add 0) = some v0 := hcell 0 (by omega)
      have e1 : w.cell? (((⟨b, off, none⟩ : Addr).add (i * 4)).add 1) = some v1 := hcell 1 (by omega)
      have e2 : w.cell? (((⟨b, off, none⟩ : Addr).add (i * 4)).add 2) = some v2 := hcell 2 (by omega)
      have e3 : w.cell? (((⟨b, off, none⟩ : Addr).add (i * 4)).add 3) = some v3 := hcell 3 (by omega)
      have g0 : DataW.trod enc Tryz.prog w base spare held k 3 [v0] = some y0 := hf 0 _ rfl
      have g1 : DataW.trod enc Tryz.prog w base spare held k 3 [v1] = some y1 := hf 1 _ rfl
      have g2 : DataW.trod enc Tryz.prog w base spare held k 3 [v2] = some y2 := hf 2 _ rfl
      have g3 : DataW.trod enc Tryz.prog w base spare held k 231 [v3] = some y3 := hf 3 _ rfl
      rw [addr_add, addr_add] at e0 e1 e2 e3
      obtain ⟨p0, r0, _, _⟩ := DataW.trod_int Tryz.underlying3 g0
      obtain ⟨p1, r1, _, _⟩ := DataW.trod_int Tryz.underlying3 g1
      obtain ⟨p2, r2, _, _⟩ := DataW.trod_int Tryz.underlying3 g2
      obtain ⟨co, cn, cc, its, r3, hcn, hit⟩ := itemsOf_trod g3
      simp at r0 r1 r2
      subst r0 r1 r2 r3
      exact ⟨⟨p0, p1, p2, its⟩, block_lt_of_cell e0, by simpa using e0, by simpa using e1, by simpa using e2, co, cn, cc, by simpa using e3, hcn, hit⟩
    obtain ⟨f, hf⟩ := @choose_lt StmD ⟨stm0⟩ _ _ each
    refine ⟨some ⟨b, off, spot⟩, l, c, (List.range l).map f, rfl, by unfold maxLen at hm; omega, by simp, fun h0 => ?_⟩
    have hsp := hspot h0
    subst hsp
    refine ⟨b, off, rfl, (hf 0 h0).1, fun i hi => ?_⟩
    have eg : ((List.range l).map f).getD i stm0 = f i := by simp [List.getD_eq_getElem?_getD, hi]
    rw [eg]
    exact (hf i hi).2

set_option maxRecDepth 100000 in
theorem statesOf_trod {H : Type} {enc : TypeId × Value → H} {w : World} {base : Nat} {spare : Nat → Bool} {held : Bool} {fuel : Nat} {v : Value} {x : DataW H × List MemPlace}
    (h : DataW.trod enc Tryz.prog w base spare held fuel 119 [v] = some x) : ∃ ao n c ss, v = .slice ao n c ∧ n ≤ 9223372036854775807 ∧ StatesOf w ao n ss := by
  rcases open_slice Tryz.underlying119 h with ⟨hcs, _⟩ | ⟨a, l, c, m, n, D, Pl, hcs, _, hl, hm, hmm, _, hx⟩
  · simp at hcs
    subst hcs
    exact ⟨none, 0, 0, [], rfl, by omega, rfl, fun h => absurd h (by omega)⟩
  · simp at hcs
    subst hcs
    have hlm : l ≤ m := by rw [hmm]; split <;> omega
    have ce : Tryz.prog.cellsOf 229 = 4 := by kernel_rfl
    rw [ce] at hx
    obtain ⟨b, off, spot⟩ := a
    have hspot : 0 < l → spot = none := by
      intro h0
      obtain ⟨cs', h1, _⟩ := hx 0 (by omega)
      obtain ⟨_, hlen, hcell⟩ := World.cells?_some h1
      obtain ⟨z0, z1, z2, z3, rfl⟩ := list4 hlen
      have : w.cell? ((({ block := b, off := off, spot := spot } : Addr).add (0 * 4)).add 0) = some z0 := hcell 0 (by omega)
      simpa [Addr.add] using World.cell?_spot this
    have each : ∀ i, i < l → ∃ s : StD, b < w.heap.size ∧ StAt w b (off + i * 4) s := by
      intro i hi
      have hsp := hspot (by omega)
      subst hsp
      obtain ⟨cs', h1, h2⟩ := hx i (by omega)
      obtain ⟨_, hlen, hcell⟩ := World.cells?_some h1
      obtain ⟨xs, k, hk, hxy, _, hxl, hf⟩ := DataW.trod_struct Tryz.underlying229 h2
      obtain ⟨v0, v1, v2, v3, rfl⟩ := list4 hlen
      obtain ⟨y0, y1, y2, y3, rfl⟩ := list4 (show xs.length = 4 from hxl)
      have e0 : w.cell? (((⟨b, off, none⟩ : Addr).add (i * 4)).add 0) = some v0 := hcell 0 (by omega)
      have e1 : w.cell? (((⟨b, off, none⟩ : Addr).add (i * 4)).add 1) = some v1 := hcell 1 (by omega)
      have e2 : w.cell? (((⟨b, off, none⟩ : Addr).add (i * 4)).add 2) = some v2 := hcell 2 (by omega)
      have e3 : w.cell? (((⟨b, off, none⟩ : Addr).add (i * 4)).add 3) = some v3 := hcell 3 (by omega)
      have g0 : DataW.trod enc Tryz.prog w base spare held k 3 [v0] = some y0 := hf 0 _ rfl
      have g1 : DataW.trod enc Tryz.prog w base spare held k 3 [v1] = some y1 := hf 1 _ rfl
      have g2 : DataW.trod enc Tryz.prog w base spare held k 227 [v2] = some y2 := hf 2 _ rfl
      have g3 : DataW.trod enc Tryz.prog w base spare held k 227 [v3] = some y3 := hf 3 _ rfl
      rw [addr_add, addr_add] at e0 e1 e2 e3
      obtain ⟨p0, r0, _, _⟩ := DataW.trod_int Tryz.underlying3 g0
      obtain ⟨p1, r1, _, _⟩ := DataW.trod_int Tryz.underlying3 g1
      obtain ⟨co, cn, cc, ens, r2, hcn, hit⟩ := stmsOf_trod g2
      obtain ⟨do_, dn, dc, exs, r3, hdn, hit2⟩ := stmsOf_trod g3
      simp at r0 r1
      subst r0 r1 r2 r3
      exact ⟨⟨p0, p1, ens, exs⟩, block_lt_of_cell e0, by simpa using e0, by simpa using e1, ⟨co, cn, cc, by simpa using e2, hcn, hit⟩, ⟨do_, dn, dc, by simpa using e3, hdn, hit2⟩⟩
    obtain ⟨f, hf⟩ := @choose_lt StD ⟨st0⟩ _ _ each
    refine ⟨some ⟨b, off, spot⟩, l, c, (List.range l).map f, rfl, by unfold maxLen at hm; omega, by simp, fun h0 => ?_⟩
    have hsp := hspot h0
    subst hsp
    refine ⟨b, off, rfl, (hf 0 h0).1, fun i hi => ?_⟩
    have eg : ((List.range l).map f).getD i st0 = f i := by simp [List.getD_eq_getElem?_getD, hi]
    rw [eg]
    exact (hf i hi).2

set_option maxRecDepth 100000 in
theorem transOf_trod {H : Type} {enc : TypeId × Value → H} {w : World} {base : Nat} {spare : Nat → Bool} {held : Bool} {fuel : Nat} {v : Value} {x : DataW H × List MemPlace}
    (h : DataW.trod enc Tryz.prog w base spare held fuel 120 [v] = some x) : ∃ ao n c ss, v = .slice ao n c ∧ n ≤ 9223372036854775807 ∧ TransOf w ao n ss := by
  rcases open_slice Tryz.underlying120 h with ⟨hcs, _⟩ | ⟨a, l, c, m, n, D, Pl, hcs, _, hl, hm, hmm, _, hx⟩
  · simp at hcs
    subst hcs
    exact ⟨none, 0, 0, [], rfl, by omega, rfl, fun h => absurd h (by omega)⟩
  · simp at hcs
    subst hcs
    have hlm : l ≤ m := by rw [hmm]; split <;> omega
    have ce : Tryz.prog.cellsOf 233 = 5 := by kernel_rfl
    rw [ce] at hx
    obtain ⟨b, off, spot⟩ := a
    have hspot : 0 < l → spot = none := by
      intro h0
      obtain ⟨cs', h1, _⟩ := hx 0 (by omega)
      obtain ⟨_, hlen, hcell⟩ := World.cells?_some h1
      obtain ⟨z0, z1, z2, z3, z4, rfl⟩ := list5 hlen
      have : w.cell? ((({ block := b, off := off, spot := spot } : Addr).add (0 * 5)).add 0) = some z0 := hcell 0 (by omega)
      simpa [Addr.add] using World.cell?_spot this
    have each : ∀ i, i < l → ∃ s : TrD, b < w.heap.size ∧ TrAt w b (off + i * 5) s := by
      intro i hi
      have hsp := hspot (by omega)
      subst hsp
      obtain ⟨cs', h1, h2⟩ := hx i (by omega)
      obtain ⟨_, hlen, hcell⟩ := World.cells?_some h1
      obtain ⟨xs, k, hk, hxy, _, hxl, hf⟩ := DataW.trod_struct Tryz.underlying233 h2
      obtain ⟨v0, v1, v2, v3, v4, rfl⟩ := list5 hlen
      obtain ⟨y0, y1, y2, y3, y4, rfl⟩ := list5 (show xs.length = 5 from hxl)
      have e0 : w.cell? (((⟨b, off, none⟩ : Addr).add (i * 5)).add 0) = some v0 := hcell 0 (by omega)
      have e1 : w.cell? (((⟨b, off, none⟩ : Addr).add (i * 5)).add 1) = some v1 := hcell 1 (by omega)
      have e2 : w.cell? (((⟨b, off, none⟩ : Addr).add (i * 5)).add 2) = some v2 := hcell 2 (by omega)
      have e3 : w.cell? (((⟨b, off, none⟩ : Addr).add (i * 5)).add 3) = some v3 := hcell 3 (by omega)
      have e4 : w.cell? (((⟨b, off, none⟩ : Addr).add (i * 5)).add 4) = some v4 := hcell 4 (by omega)
      have g0 : DataW.trod enc Tryz.prog w base spare held k 3 [v0] = some y0 := hf 0 _ rfl
      have g1 : DataW.trod enc Tryz.prog w base spare held k 3 [v1] = some y1 := hf 1 _ rfl
      have g2 : DataW.trod enc Tryz.prog w base spare held k 231 [v2] = some y2 := hf 2 _ rfl
      have g3 : DataW.trod enc Tryz.prog w base spare held k 3 [v3] = some y3 := hf 3 _ rfl
      have g4 : DataW.trod enc Tryz.prog w base spare held k 227 [v4] = some y4 := hf 4 _ rfl
      rw [addr_add, addr_add] at e0 e1 e2 e3 e4
      obtain ⟨p0, r0, _, _⟩ := DataW.trod_int Tryz.underlying3 g0
      obtain ⟨p1, r1, _, _⟩ := DataW.trod_int Tryz.underlying3 g1
      obtain ⟨p3, r3, _, _⟩ := DataW.trod_int Tryz.underlying3 g3
      obtain ⟨co, cn, cc, its, r2, hcn, hit⟩ := itemsOf_trod g2
      obtain ⟨do_, dn, dc, exs, r4, hdn, hit2⟩ := stmsOf_trod g4
      simp at r0 r1 r3
      subst r0 r1 r2 r3 r4
      exact ⟨⟨p0, p1, its, p3, exs⟩, block_lt_of_cell e0, by simpa using e0, by simpa using e1, ⟨co, cn, cc, by simpa using e2, hcn, hit⟩, by simpa using e3, ⟨do_, dn, dc, by simpa using e4, hdn, hit2⟩⟩
    obtain ⟨f, hf⟩ := @choose_lt TrD ⟨tr0⟩ _ _ each
    refine ⟨some ⟨b, off, spot⟩, l, c, (List.range l).map f, rfl, by unfold maxLen at hm; omega, by simp, fun h0 => ?_⟩
    have hsp := hspot h0
    subst hsp
    refine ⟨b, off, rfl, (hf 0 h0).1, fun i hi => ?_⟩
    have eg : ((List.range l).map f).getD i tr0 = f i := by simp [List.getD_eq_getElem?_getD, hi]
    rw [eg]
    exact (hf i hi).2
end Go.Proofs.YthaklmdhkkfigaaGreat
namespace Go.Proofs.YthaklmdhkkfigaaGreat
open Go.ChangeShapes Go.WideShapes Go.ChangeAt Go.RowKit Go.Joins
open Go.Deep (open_slice choose_lt open_slice_pairs)
set_option linter.unusedVariables false

theorem sliceCap_trod {H : Type} {enc : TypeId × Value → H} {w : World} {base : Nat} {spare : Nat → Bool} {held : Bool} {fuel : Nat} {v : Value} {x : DataW H × List MemPlace}
    (h : DataW.trod enc Tryz.prog w base spare held fuel 26 [v] = some x) : ∃ ao n c zs, v = .slice ao n c ∧ n ≤ 9223372036854775807 ∧ n ≤ c ∧ SliceOf w ao n zs := by
  rcases open_ints Tryz.underlying26 Tryz.underlying3 (by kernel_rfl) h with ⟨hcs, _⟩ | ⟨a, l, c, zs, hcs, _, hl, hm, hz, _, hcell, hwz⟩
  · simp at hcs
    subst hcs
    exact ⟨none, 0, 0, [], rfl, by omega, Nat.le_refl _, rfl, fun h => absurd h (by omega)⟩
  · simp at hcs
    subst hcs
    have hlz : l ≤ zs.length := by rw [hz]; split <;> omega
    refine ⟨some a, l, c, zs.take l, rfl, by unfold maxLen at hm; omega, hl, by simp; omega, fun h0 => ?_⟩
    obtain ⟨b, off, spot⟩ := a
    have hc := hcell 0 (by omega)
    have hspot : spot = none := by simpa [Addr.add] using World.cell?_spot hc
    subst hspot
    refine ⟨b, off, rfl, block_lt_of_cell hc, fun i hi => ?_⟩
    have := hcell i (by omega)
    rw [addr_add] at this
    simpa [List.getD_eq_getElem?_getD, List.getElem?_take, hi] using this

theorem timersOf_trod {H : Type} {enc : TypeId × Value → H} {w : World} {base : Nat} {spare : Nat → Bool} {held : Bool} {fuel : Nat} {v : Value} {x : DataW H × List MemPlace}
    (h : DataW.trod enc Tryz.prog w base spare held fuel 23 [v] = some x) : ∃ ao n c its, v = .slice ao n c ∧ n ≤ 9223372036854775807 ∧ ItemsOf w ao n its := by
  rcases open_slice_pairs Tryz.underlying23 Tryz.underlying142 (by kernel_rfl) (by kernel_rfl) (by kernel_rfl) (by kernel_rfl) (by kernel_rfl) h with ⟨hcs, _⟩ | ⟨a, l, c, m, n, V0, V1, D0, D1, P0, P1, hcs, _, hl, hm, hmm, _, hx⟩
  · simp at hcs
    subst hcs
    exact ⟨none, 0, 0, [], rfl, by omega, rfl, fun h => absurd h (by omega)⟩
  · simp at hcs
    subst hcs
    have hlm : l ≤ m := by rw [hmm]; split <;> omega
    refine ⟨some a, l, c, (List.range l).map (fun i => (intOf (V0 i), intOf (V1 i))), rfl, by unfold maxLen at hm; omega, by simp, fun h0 => ?_⟩
    obtain ⟨b, off, spot⟩ := a
    have hc := (hx 0 (by omega)).1
    have hspot : spot = none := by simpa [Addr.add] using World.cell?_spot hc
    subst hspot
    refine ⟨b, off, rfl, block_lt_of_cell hc, fun i hi => ?_⟩
    obtain ⟨h1, h2, h3, h4⟩ := hx i (by omega)
    obtain ⟨p, e0, _, _⟩ := DataW.trod_int Tryz.underlying3 h3
    obtain ⟨q, e1, _, _⟩ := DataW.trod_int Tryz.underlying3 h4
    simp at e0 e1
    rw [addr_add] at h1 h2
    have eg : ((List.range l).map (fun i => (intOf (V0 i), intOf (V1 i)))).getD i (0, 0) = (p, q) := by
      simp [List.getD_eq_getElem?_getD, hi, e0, e1, intOf]
    rw [eg]
    rw [e0] at h1
    rw [e1] at h2
    exact ⟨h1, by rw [show off + i * 2 + 1 = off + (i * 2 + 1) by omega]; exact h2⟩

theorem list2 {α : Type} {l : List α} (h : l.length = 2) : ∃ a b, l = [a, b] := by
  match l, h with
  | [a, b], _ => exact ⟨a, b, rfl⟩
theorem list6 {α : Type} {l : List α} (h : l.length = 6) : ∃ a b c d e f, l = [a, b, c, d, e, f] := by
  match l, h with
  | [a, b, c, d, e, f], _ => exact ⟨a, b, c, d, e, f, rfl⟩
theorem list8 {α : Type} {l : List α} (h : l.length = 8) : ∃ a b c d e f g i, l = [a, b, c, d, e, f, g, i] := by
  match l, h with
  | [a, b, c, d, e, f, g, i], _ => exact ⟨a, b, c, d, e, f, g, i, rfl⟩

set_option maxRecDepth 100000 in
theorem obsOf_trod {H : Type} {enc : TypeId × Value → H} {w : World} {base : Nat} {spare : Nat → Bool} {held : Bool} {fuel : Nat} {v : Value} {x : DataW H × List MemPlace}
    (h : DataW.trod enc Tryz.prog w base spare held fuel 22 [v] = some x) : ∃ ao n c ss, v = .slice ao n c ∧ n ≤ 9223372036854775807 ∧ ObsOf w ao n ss := by
  rcases open_slice Tryz.underlying22 h with ⟨hcs, _⟩ | ⟨a, l, c, m, n, D, Pl, hcs, _, hl, hm, hmm, _, hx⟩
  · simp at hcs
    subst hcs
    exact ⟨none, 0, 0, [], rfl, by omega, rfl, fun h => absurd h (by omega)⟩
  · simp at hcs
    subst hcs
    have hlm : l ≤ m := by rw [hmm]; split <;> omega
    have ce : Tryz.prog.cellsOf 124 = 8 := by kernel_rfl
    rw [ce] at hx
    obtain ⟨b, off, spot⟩ := a
    have hspot : 0 < l → spot = none := by
      intro h0
      obtain ⟨cs', h1, _⟩ := hx 0 (by omega)
      obtain ⟨_, hlen, hcell⟩ := World.cells?_some h1
      obtain ⟨z0, z1, z2, z3, z4, z5, z6, z7, rfl⟩ := list8 hlen
      have : w.cell? ((({ block := b, off := off, spot := spot } : Addr).add (0 * 8)).add 0) = some z0 := hcell 0 (by omega)
      simpa [Addr.add] using World.cell?_spot this
    have each : ∀ i, i < l → ∃ s : ObD, b < w.heap.size ∧ ObAt w b (off + i * 8) s := by
      intro i hi
      have hsp := hspot (by omega)
      subst hsp
      obtain ⟨cs', h1, h2⟩ := hx i (by omega)
      obtain ⟨_, hlen, hcell⟩ := World.cells?_some h1
      obtain ⟨xs, k, hk, hxy, _, hxl, hf⟩ := DataW.trod_struct Tryz.underlying124 h2
      obtain ⟨v0, v1, v2, v3, v4, v5, v6, v7, rfl⟩ := list8 hlen
      obtain ⟨y0, y1, y2, y3, y4, y5, rfl⟩ := list6 (show xs.length = 6 from hxl)
      have e0 : w.cell? (((⟨b, off, none⟩ : Addr).add (i * 8)).add 0) = some v0 := hcell 0 (by omega)
      have e1 : w.cell? (((⟨b, off, none⟩ : Addr).add (i * 8)).add 1) = some v1 := hcell 1 (by omega)
      have e2 : w.cell? (((⟨b, off, none⟩ : Addr).add (i * 8)).add 2) = some v2 := hcell 2 (by omega)
      have e3 : w.cell? (((⟨b, off, none⟩ : Addr).add (i * 8)).add 3) = some v3 := hcell 3 (by omega)
      have e4 : w.cell? (((⟨b, off, none⟩ : Addr).add (i * 8)).add 4) = some v4 := hcell 4 (by omega)
      have e5 : w.cell? (((⟨b, off, none⟩ : Addr).add (i * 8)).add 5) = some v5 := hcell 5 (by omega)
      have e6 : w.cell? (((⟨b, off, none⟩ : Addr).add (i * 8)).add 6) = some v6 := hcell 6 (by omega)
      have e7 : w.cell? (((⟨b, off, none⟩ : Addr).add (i * 8)).add 7) = some v7 := hcell 7 (by omega)
      have g0 : DataW.trod enc Tryz.prog w base spare held k 3 [v0] = some y0 := hf 0 _ rfl
      have g1 : DataW.trod enc Tryz.prog w base spare held k 3 [v1] = some y1 := hf 1 _ rfl
      have g2 : DataW.trod enc Tryz.prog w base spare held k 3 [v2] = some y2 := hf 2 _ rfl
      have g3 : DataW.trod enc Tryz.prog w base spare held k 118 [v3, v4] = some y3 := hf 3 _ rfl
      have g4 : DataW.trod enc Tryz.prog w base spare held k 26 [v5] = some y4 := hf 4 _ rfl
      have g5 : DataW.trod enc Tryz.prog w base spare held k 122 [v6, v7] = some y5 := hf 5 _ rfl
      obtain ⟨xb, kb, _, _, _, hxbl, hfb⟩ := DataW.trod_struct Tryz.underlying118 g3
      obtain ⟨yb0, yb1, rfl⟩ := list2 (show xb.length = 2 from hxbl)
      have gb0 : DataW.trod enc Tryz.prog w base spare held kb 26 [v3] = some yb0 := hfb 0 _ rfl
      have gb1 : DataW.trod enc Tryz.prog w base spare held kb 26 [v4] = some yb1 := hfb 1 _ rfl
      obtain ⟨xh, kh, _, _, _, hxhl, hfh⟩ := DataW.trod_struct Tryz.underlying122 g5
      obtain ⟨yh0, yh1, rfl⟩ := list2 (show xh.length = 2 from hxhl)
      have gh0 : DataW.trod enc Tryz.prog w base spare held kh 119 [v6] = some yh0 := hfh 0 _ rfl
      have gh1 : DataW.trod enc Tryz.prog w base spare held kh 120 [v7] = some yh1 := hfh 1 _ rfl
      rw [addr_add, addr_add] at e0 e1 e2 e3 e4 e5 e6 e7
      obtain ⟨p0, r0, _, _⟩ := DataW.trod_int Tryz.underlying3 g0
      obtain ⟨p1, r1, _, _⟩ := DataW.trod_int Tryz.underlying3 g1
      obtain ⟨p2, r2, _, _⟩ := DataW.trod_int Tryz.underlying3 g2
      obtain ⟨ko, kn, kc, ks, r3, hkn, _, hks⟩ := sliceCap_trod gb0
      obtain ⟨vo, vn, vc, vs, r4, hvn, _, hvs⟩ := sliceCap_trod gb1
      obtain ⟨uo, un, uc, us, r5, hun, huc, hus⟩ := sliceCap_trod g4
      obtain ⟨so, sn, sc, sts, r6, hsn, hst⟩ := statesOf_trod gh0
      obtain ⟨po, pn, pc, tts, r7, htn, htt⟩ := transOf_trod gh1
      simp at r0 r1 r2
      subst r0 r1 r2 r3 r4 r5 r6 r7
      exact ⟨⟨p0, p1, p2, ks, vs, us, sts, tts⟩, block_lt_of_cell e0, ⟨ko, kn, kc, vo, vn, vc, uo, un, uc, so, sn, sc, po, pn, pc⟩,
        ⟨by simpa using e0, by simpa using e1, by simpa using e2, by simpa using e3, by simpa using e4, by simpa using e5, by simpa using e6, by simpa using e7⟩, ⟨hkn, hvn, hun, hsn, htn, huc⟩, ⟨hks, hvs, hus, hst, htt⟩⟩
    obtain ⟨f, hf⟩ := @choose_lt ObD ⟨ob0⟩ _ _ each
    refine ⟨some ⟨b, off, spot⟩, l, c, (List.range l).map f, rfl, by unfold maxLen at hm; omega, by simp, fun h0 => ?_⟩
    have hsp := hspot h0
    subst hsp
    refine ⟨b, off, rfl, (hf 0 h0).1, fun i hi => ?_⟩
    have eg : ((List.range l).map f).getD i ob0 = f i := by simp [List.getD_eq_getElem?_getD, hi]
    rw [eg]
    exact (hf i hi).2
end Go.Proofs.YthaklmdhkkfigaaGreat
