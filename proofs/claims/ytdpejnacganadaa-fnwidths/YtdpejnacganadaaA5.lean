import Derived.Test.YtdpejnacganadaaA4
namespace Go.Proofs.Ytdpejnacganadaa
open Go.RowKit Go.Sort
attribute [local go_sem ↓] Go.wp_at_zero Go.wp_at_succ

/-- What stays of the call's own first block, and of what was there. -/
theorem carry {w W w' : World} {H : Nat} {a b : Value} (hH : H < W.heap.size) (hb : Below w.heap.size w W) (h0 : W.cell? ⟨H, 0, none⟩ = some a) (h1 : W.cell? ⟨H, 1, none⟩ = some b) (hw : Below W.heap.size W w') (hs : w.heap.size ≤ W.heap.size) :
    Below w.heap.size w w' ∧ w'.cell? ⟨H, 0, none⟩ = some a ∧ w'.cell? ⟨H, 1, none⟩ = some b ∧ H < w'.heap.size ∧ w.heap.size ≤ w'.heap.size :=
  ⟨hb.trans (hw.mono hs), (hw.cell (p := ⟨H, 0, none⟩) hH).trans h0, (hw.cell (p := ⟨H, 1, none⟩) hH).trans h1, Nat.lt_of_lt_of_le hH hw.size, Nat.le_trans hs hw.size⟩

theorem eqBank_same (ao bo ao' bo' : Option Addr) (n m c d c' d' : Nat) (xs ys : List Int) (w : World) (hn : n ≤ 1048576) (hm : m ≤ 1048576)
    (hx : SliceOf w ao n xs) (hy : SliceOf w bo m ys) (hx' : SliceOf w ao' n xs) (hy' : SliceOf w bo' m ys) :
    Calls Try.prog 27 #[.agg #[.slice ao n c, .slice bo m d], .agg #[.slice ao' n c', .slice bo' m d']] w fun e w' => e = .returned (.bool true) ∧ Below w.heap.size w w' :=
  (eqBank_any ao bo ao' bo' n m c d n m c' d' xs ys xs ys w hn hm hn hm hx hy hx' hy').mono fun e w' ⟨h1, h2⟩ => ⟨by rw [h1]; simp, h2⟩

set_option maxHeartbeats 1000000 in
theorem lawBank (ao bo : Option Addr) (n m c d : Nat) (ks vs : List Int) (w : World) (hn : n ≤ 9223372036854775807) (hm : m ≤ 9223372036854775807) (hx : SliceOf w ao n ks) (hy : SliceOf w bo m vs) :
    Calls Try.prog 6 #[.agg #[.slice ao n c, .slice bo m d]] w fun e w' => e = .returned (.bool true) ∧ Below w.heap.size w w' := by
  have HX : Hid (∀ w', Below w.heap.size w w' → SliceOf w' ao n ks ∧ SliceOf w' bo m vs) := fun w' h => ⟨hx.below h, hy.below h⟩
  clear hx hy
  by_cases hs : szB 1048576 n m < 0
  · go_enter Try.func6, Try.ntmps6
    go_wp2_with (go_at_call 23; refine (szBank_any _ _ _ _ _ _ _ _ hn hm (by omega) (by omega)).mono ?_; rintro e w1 ⟨rfl, hb1⟩)
    go_ret
    exact ⟨rfl, (below1 _ _).trans (hb1.mono (by simp))⟩
  · have hn' : n ≤ 1048576 := by unfold szB at hs; split at hs <;> first | omega | (split at hs <;> omega)
    have hm' : m ≤ 1048576 := by unfold szB at hs; split at hs <;> first | omega | (split at hs <;> omega)
    go_enter Try.func6, Try.ntmps6
    go_wp2_with (go_at_call 23; refine (szBank_any _ _ _ _ _ _ _ _ hn hm (by omega) (by omega)).mono ?_; rintro e w1 ⟨rfl, hb1⟩; obtain ⟨b1, p1, q1, z1, s1⟩ := carry (H := w.heap.size) (a := .slice ao n c) (b := .slice bo m d) (by simp) (below1 w _) (by simp) (by simp) hb1 (by simp); have B1 := hid b1; clear hb1 b1)
    go_wp2_with (go_at_call 25; refine (toBank_any ao bo n m c d ks vs _ hn' hm' (HX.out _ B1.out).1 (HX.out _ B1.out).2).mono ?_; rintro e w2 ⟨g1, g2, rfl, sk2, sv2, hb2⟩; obtain ⟨b2, p2, q2, z2, s2⟩ := carry z1 B1.out p1 q1 hb2 s1; have B2 := hid b2; clear hb2 b2)
    go_wp2_with (go_at_call 24; refine (specBankOK_any _ _ _ _ _ _ ks vs _ hn hm sk2 sv2).mono ?_; rintro e w3 ⟨rfl, hb3⟩; obtain ⟨b3, p3, q3, z3, s3⟩ := carry z2 B2.out p2 q2 hb3 s2; have B3 := hid b3; clear hb3 b3)
    go_wp2_with (go_at_call 25; refine (toBank_any ao bo n m c d ks vs _ hn' hm' (HX.out _ B3.out).1 (HX.out _ B3.out).2).mono ?_; rintro e w4 ⟨g3, g4, rfl, sk4, sv4, hb4⟩; obtain ⟨b4, p4, q4, z4, s4⟩ := carry z3 B3.out p3 q3 hb4 s3; have B4 := hid b4; clear hb4 b4)
    go_wp2_with (go_at_call 26; refine (implBankOK_any _ _ _ _ _ _ ks vs _ hn hm (sk4.below (below1 _ _)) (sv4.below (below1 _ _))).mono ?_; rintro e w5 ⟨rfl, hb5⟩; have B5 := hid hb5; clear hb5)
    obtain ⟨b5, p5, q5, z5, s5⟩ := carry (H := w.heap.size) (a := .slice ao n c) (b := .slice bo m d) (by simp; omega) (B4.out.alloc (by omega) _) (by simp [go_sem, z4, p4]) (by simp [go_sem, z4, q4]) B5.out (by simp; omega)
    obtain ⟨_, x5, y5, t5, _⟩ := carry (w := w) (H := w4.heap.size) (a := .slice (some ⟨g3, 0, none⟩) n n) (b := .slice (some ⟨g4, 0, none⟩) m m) (by simp) (B4.out.alloc (by omega) _) (by simp) (by simp) B5.out (by simp; omega)
    have K5 : Hid (SliceOf w5.drew (some ⟨g3, 0, none⟩) n ks ∧ SliceOf w5.drew (some ⟨g4, 0, none⟩) m vs) := ⟨(sk4.below (below1 _ _)).below B5.out.drew, (sv4.below (below1 _ _)).below B5.out.drew⟩
    have D5 : Hid (Below w.heap.size w w5.drew) := b5.drew
    clear b5
    go_region_with (first | (go_at_call 25; refine (toBank_any ao bo n m c d ks vs _ hn' hm' (HX.out _ D5.out).1 (HX.out _ D5.out).2).mono ?_; rintro e w6 ⟨g5, g6, rfl, sk6, sv6, hb6⟩; have x6 := (hb6.cell (p := ⟨w4.heap.size, 0, none⟩) t5).trans x5; have y6 := (hb6.cell (p := ⟨w4.heap.size, 1, none⟩) t5).trans y5; have B6 := hid hb6; clear hb6) | (go_at_call 27; (refine (eqBank_same _ _ _ _ _ _ _ _ _ _ ks vs _ hn' hm' (K5.out.1.below B6.out) (K5.out.2.below B6.out) sk6 sv6).mono ?_; rintro e w7 ⟨rfl, hb7⟩; have B7 := hid hb7; clear hb7)))
    all_goals
      go_wp2
      go_ret
      exact ⟨rfl, (D5.out.trans (B6.out.mono s5)).trans (B7.out.mono (Nat.le_trans s5 B6.out.size))⟩
end Go.Proofs.Ytdpejnacganadaa
