import Derived.Test.YtdpejnacganadaaA3
import Derived.Deep.RegionWith
import Derived.Deep.DrawnRows
namespace Go.Proofs.Ytdpejnacganadaa
open Go.RowKit Go.Sort

theorem below1 (w : World) (o1 : Obj) : Below w.heap.size w (w.alloc o1) := (Below.refl _ _).alloc (Nat.le_refl _) o1
theorem below2 (w : World) (o1 o2 : Obj) : Below w.heap.size w ((w.alloc o1).alloc o2) := (below1 w o1).alloc (by simp) o2
theorem below3 (w : World) (o1 o2 o3 : Obj) : Below w.heap.size w (((w.alloc o1).alloc o2).alloc o3) := (below2 w o1 o2).alloc (by simp; omega) o3

theorem hid {p : Prop} (h : p) : Hid p := h
theorem belowDraws {B : Nat} {w w' : World} (h : Below B w w') (n : Nat) : Below B w (w'.drewN n) := ⟨h.os, h.tape, h.output, h.size, h.block⟩

theorem bcell2 {W w1 : World} (hb : Below W.heap.size W w1) : (∀ b o, b < W.heap.size → w1.cell? ⟨b, o, none⟩ = W.cell? ⟨b, o, none⟩) ∧ (∀ b o, b < W.heap.size → w1.frozen? ⟨b, o, none⟩ = W.frozen? ⟨b, o, none⟩) :=
  ⟨fun b o h => hb.cell (p := ⟨b, o, none⟩) h, fun b o h => hb.frozen (p := ⟨b, o, none⟩) h⟩

def szB (left : Int) (n m : Nat) : Int := if left < n then -1 else if left - n < m then -1 else left - n - m

set_option maxHeartbeats 400000 in
theorem szBank_any (ao bo : Option Addr) (n m c d : Nat) (left : Int) (w : World) (hn : n ≤ 9223372036854775807) (hm : m ≤ 9223372036854775807) (h0 : 0 ≤ left) (h1 : left ≤ 1048576) :
    Calls Try.prog 23 #[.agg #[.slice ao n c, .slice bo m d], .int .i64 left] w fun e w' => e = .returned (.int .i64 (szB left n m)) ∧ Below w.heap.size w w' := by
  by_cases a1 : left < n
  · have H : Hid (szB left n m = -1) := hid (by simp [szB, a1])
    go_enter Try.func23, Try.ntmps23
    go_wp2_with (go_at_call 50; refine (szIntS_any _ _ _ _ _ (by omega) (by omega) (by omega)).mono ?_; rintro e w' ⟨rfl, rfl⟩)
    go_ret
    exact ⟨ret_int H.out.symm, below1 _ _⟩
  · by_cases a2 : left - n < m
    · have H : Hid (szB left n m = -1) := hid (by simp [szB, a1, a2])
      go_enter Try.func23, Try.ntmps23
      go_wp2_with (go_at_call 50; refine (szIntS_any _ _ _ _ _ (by omega) (by omega) (by omega)).mono ?_; rintro e w' ⟨rfl, rfl⟩)
      go_ret
      exact ⟨ret_int H.out.symm, below1 _ _⟩
    · have H : Hid (szB left n m = left - n - m) := hid (by simp [szB, a1, a2])
      go_enter Try.func23, Try.ntmps23
      go_wp2_with (go_at_call 50; refine (szIntS_any _ _ _ _ _ (by omega) (by omega) (by omega)).mono ?_; rintro e w' ⟨rfl, rfl⟩)
      go_ret
      exact ⟨ret_int H.out.symm, below1 _ _⟩

set_option maxHeartbeats 400000 in
theorem eqBank_any (ao bo ao' bo' : Option Addr) (n m c d n' m' c' d' : Nat) (xs ys xs' ys' : List Int) (w : World) (hn : n ≤ 1048576) (hm : m ≤ 1048576) (hn' : n' ≤ 1048576) (hm' : m' ≤ 1048576)
    (hx : SliceOf w ao n xs) (hy : SliceOf w bo m ys) (hx' : SliceOf w ao' n' xs') (hy' : SliceOf w bo' m' ys') :
    Calls Try.prog 27 #[.agg #[.slice ao n c, .slice bo m d], .agg #[.slice ao' n' c', .slice bo' m' d']] w fun e w' => e = .returned (.bool (decide (xs = xs' ∧ ys = ys'))) ∧ Below w.heap.size w w' := by
  have HX : Hid (∀ w', Below w.heap.size w w' → SliceOf w' ao n xs ∧ SliceOf w' bo m ys ∧ SliceOf w' ao' n' xs' ∧ SliceOf w' bo' m' ys') := fun w' h => ⟨hx.below h, hy.below h, hx'.below h, hy'.below h⟩
  clear hx hy hx' hy'
  by_cases e1 : xs = xs'
  · have d1 : decide (xs = xs') = true := by simpa using e1
    by_cases e2 : ys = ys'
    · have d2 : decide (ys = ys') = true := by simpa using e2
      have H : Hid (decide (xs = xs' ∧ ys = ys') = true) := hid (by rw [decide_eq_true_iff]; exact ⟨e1, e2⟩)
      clear e1 e2
      go_enter Try.func27, Try.ntmps27
      go_wp2_with (first | (go_at_call_of 55 (Value.slice ao n c); refine (eqIntS_any ao ao' n n' c c' xs xs' _ hn (by omega) (HX.out _ (below2 _ _ _)).1 (HX.out _ (below2 _ _ _)).2.2.1).mono ?_; rw [d1]; rintro e w' ⟨rfl, q, rfl⟩) | (go_at_call_of 55 (Value.slice bo m d); refine (eqIntS_any bo bo' m m' d d' ys ys' _ hm (by omega) (HX.out _ (belowDraws (below2 _ _ _) _)).2.1 (HX.out _ (belowDraws (below2 _ _ _) _)).2.2.2).mono ?_; rw [d2]; rintro e w' ⟨rfl, q2, rfl⟩))
      go_ret
      exact ⟨ret_bool H.out.symm, by first | exact belowDraws (belowDraws (below2 _ _ _) _) _ | exact belowDraws (below2 _ _ _) _⟩
    · have d2 : decide (ys = ys') = false := by simpa using e2
      have H : Hid (decide (xs = xs' ∧ ys = ys') = false) := hid (by rw [decide_eq_false_iff_not]; exact fun h => e2 h.2)
      clear e1 e2
      go_enter Try.func27, Try.ntmps27
      go_wp2_with (first | (go_at_call_of 55 (Value.slice ao n c); refine (eqIntS_any ao ao' n n' c c' xs xs' _ hn (by omega) (HX.out _ (below2 _ _ _)).1 (HX.out _ (below2 _ _ _)).2.2.1).mono ?_; rw [d1]; rintro e w' ⟨rfl, q, rfl⟩) | (go_at_call_of 55 (Value.slice bo m d); refine (eqIntS_any bo bo' m m' d d' ys ys' _ hm (by omega) (HX.out _ (belowDraws (below2 _ _ _) _)).2.1 (HX.out _ (belowDraws (below2 _ _ _) _)).2.2.2).mono ?_; rw [d2]; rintro e w' ⟨rfl, q2, rfl⟩))
      go_ret
      exact ⟨ret_bool H.out.symm, by first | exact belowDraws (belowDraws (below2 _ _ _) _) _ | exact belowDraws (below2 _ _ _) _⟩
  · have d1 : decide (xs = xs') = false := by simpa using e1
    have H : Hid (decide (xs = xs' ∧ ys = ys') = false) := hid (by rw [decide_eq_false_iff_not]; exact fun h => e1 h.1)
    clear e1
    go_enter Try.func27, Try.ntmps27
    go_wp2_with (first | (go_at_call_of 55 (Value.slice ao n c); refine (eqIntS_any ao ao' n n' c c' xs xs' _ hn (by omega) (HX.out _ (below2 _ _ _)).1 (HX.out _ (below2 _ _ _)).2.2.1).mono ?_; rw [d1]; rintro e w' ⟨rfl, q, rfl⟩))
    go_ret
    exact ⟨ret_bool H.out.symm, by first | exact belowDraws (belowDraws (below2 _ _ _) _) _ | exact belowDraws (below2 _ _ _) _⟩


theorem SliceOf.cut {w : World} {b n : Nat} {zs : List Int} (hz : zs.length = n) (h : w.rowIs b 3 n (fun i => .int .i64 (zs.getD i 0))) : SliceOf w (some ⟨b, 0, none⟩) n zs := SliceOf.row hz h

set_option maxHeartbeats 400000 in
theorem toBank_any (ao bo : Option Addr) (n m c d : Nat) (ks vs : List Int) (w : World) (hn : n ≤ 1048576) (hm : m ≤ 1048576) (hx : SliceOf w ao n ks) (hy : SliceOf w bo m vs) :
    Calls Try.prog 25 #[.agg #[.slice ao n c, .slice bo m d]] w fun e w' => ∃ g1 g2, e = .returned (.agg #[.slice (some ⟨g1, 0, none⟩) n n, .slice (some ⟨g2, 0, none⟩) m m]) ∧ SliceOf w' (some ⟨g1, 0, none⟩) n ks ∧ SliceOf w' (some ⟨g2, 0, none⟩) m vs ∧ Below w.heap.size w w' := by
  have HX : Hid (∀ w', Below w.heap.size w w' → SliceOf w' ao n ks ∧ SliceOf w' bo m vs) := fun w' h => ⟨hx.below h, hy.below h⟩
  have HL : Hid (ks.length = n ∧ vs.length = m) := ⟨hx.1, hy.1⟩
  clear hx hy
  go_enter Try.func25, Try.ntmps25
  go_wp2_with (first | (go_at_call_of 52 (Value.slice ao n c); (refine (toIntS_any ao n c ks _ hn (HX.out _ (below3 _ _ _ _)).1).mono ?_; rintro e w1 ⟨rfl, hrow, hb1⟩; have hz := hrow.lt; simp only [World.size_alloc] at hz; have hza : w.heap.size + 1 + 1 < w1.heap.size := (by omega); have hzb : w.heap.size + 1 < w1.heap.size := (by omega); have hzc : w.heap.size < w1.heap.size := (by omega); obtain ⟨hc, hf⟩ := bcell2 hb1; have R1 := hid hrow; have B1 := hid hb1; clear hrow hb1)) | (go_at_call_of 52 (Value.slice bo m d); refine (toIntS_any bo m d vs _ hm (HX.out _ (((below3 _ _ _ _).trans (B1.out.mono (by simp; omega))).setCell (by simp; omega) _)).2).mono ?_; rintro e w2 ⟨rfl, hrow2, hb2⟩; have hz2 := hrow2.lt; obtain ⟨hc2, hf2⟩ := bcell2 hb2; have R2 := hid hrow2; have B2 := hid hb2; clear hrow2 hb2))
  refine bodyPost_ret (v := .agg #[.slice (some ⟨w.heap.size + 1 + 1 + 1, 0, none⟩) n n, .slice (some ⟨w1.heap.size, 0, none⟩) m m]) (by simp [results, Try.results25, go_sem, hc, hc2, hzb]) rfl ?_
  have r1 := R1.out
  simp only [World.size_alloc] at r1
  have r2 := R2.out
  simp only [World.size_setCell] at r2
  have b2 := B2.out
  simp only [World.size_setCell] at b2
  have r1' := ((((r1.setOther (a := ⟨w.heap.size + 1 + 1, 0, none⟩) (by simp) (Value.slice (some ⟨w.heap.size + 1 + 1 + 1, 0, none⟩) n n)).of_block (b2.block _ hz)).setOther (a := ⟨w.heap.size + 1 + 1, 1, none⟩) (by simp) (Value.slice (some ⟨w1.heap.size, 0, none⟩) m m)).setOther (a := ⟨w.heap.size + 1, 0, none⟩) (by simp; omega) (Value.slice (some ⟨w.heap.size + 1 + 1 + 1, 0, none⟩) n n)).setOther (a := ⟨w.heap.size + 1, 1, none⟩) (by simp; omega) (Value.slice (some ⟨w1.heap.size, 0, none⟩) m m)
  have r2' := ((r2.setOther (a := ⟨w.heap.size + 1 + 1, 1, none⟩) (by simp; omega) (Value.slice (some ⟨w1.heap.size, 0, none⟩) m m)).setOther (a := ⟨w.heap.size + 1, 0, none⟩) (by simp; omega) (Value.slice (some ⟨w.heap.size + 1 + 1 + 1, 0, none⟩) n n)).setOther (a := ⟨w.heap.size + 1, 1, none⟩) (by simp; omega) (Value.slice (some ⟨w1.heap.size, 0, none⟩) m m)
  have b1 := B1.out
  simp only [World.size_alloc] at b1
  exact ⟨_, _, rfl, SliceOf.row HL.out.1 r1', SliceOf.row HL.out.2 r2', ((((((below3 _ _ _ _).trans (b1.mono (by omega))).setCell (by simp; omega) _).trans (b2.mono (by omega))).setCell (by simp; omega) _).setCell (by simp) _).setCell (by simp) _⟩

end Go.Proofs.Ytdpejnacganadaa
