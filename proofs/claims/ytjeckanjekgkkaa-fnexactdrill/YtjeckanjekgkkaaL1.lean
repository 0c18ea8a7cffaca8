import Derived.Test.YtjeckanjekgkkaaI7
namespace Go.Proofs.Ytjeckanjekgkkaa
open Go.RowKit Go.Sort
attribute [local go_sem ↓] Go.wp_at_zero Go.wp_at_succ

theorem toChart_of (eo xo : Option Addr) (en ec xn xc : Nat) (es : List StD) (xs : List TrD) (w : World) (fe : FitsSt es) (fx : FitsTr xs) (he : StatesOf w eo en es) (hx : TransOf w xo xn xs) :
    Calls Try.prog 8 #[.agg #[.slice eo en ec, .slice xo xn xc]] w fun e w' => ∃ g1 g2, e = .returned (.agg #[.slice (some ⟨g1, 0, none⟩) en en, .slice (some ⟨g2, 0, none⟩) xn xn]) ∧
      (StatesOf w' (some ⟨g1, 0, none⟩) en es ∧ TransOf w' (some ⟨g2, 0, none⟩) xn xs) ∧ Below w.heap.size w w' :=
  (toChart_any eo xo en ec xn xc es xs w fe fx he hx).mono (by
    rintro e w' ⟨g1, g2, rfl, h1, h2, hb⟩
    obtain ⟨q1, e1, s1⟩ := h1.states fe
    obtain ⟨q2, e2, s2⟩ := h2.trans fx
    simp at e1 e2
    obtain ⟨rfl, rfl, _⟩ := e1
    obtain ⟨rfl, rfl, _⟩ := e2
    exact ⟨g1, g2, rfl, ⟨s1, s2⟩, hb⟩)

set_option maxHeartbeats 2000000 in
theorem lawDomain (eo xo : Option Addr) (en ec xn xc : Nat) (es : List StD) (xs : List TrD) (f t : Int) (w : World) (hen : en ≤ 9223372036854775807) (hxn : xn ≤ 9223372036854775807) (he : StatesOf w eo en es) (hx : TransOf w xo xn xs) :
    Calls Try.prog 4 #[.agg #[.slice eo en ec, .slice xo xn xc], .int .i64 f, .int .i64 t] w fun e w' => e = .returned (.bool true) ∧ Below w.heap.size w w' := by
  have HX : Hid (∀ w', Below w.heap.size w w' → StatesOf w' eo en es ∧ TransOf w' xo xn xs) := fun w' h => ⟨he.below h, hx.below h⟩
  have C := hid (szChart_any eo xo en ec xn xc es xs (w.alloc (.cells #[.slice eo en ec, .slice xo xn xc] 25)) hen hxn (he.below (below1 _ _)) (hx.below (below1 _ _)))
  by_cases hbig : (1048576 : Int) < ((wStates es + wTrans xs : Nat) : Int)
  · rw [szOut_no hbig] at C
    clear he hx hbig
    go_enter Try.func4, Try.ntmps4
    go_wp2_with (go_at_call 6; refine C.out.mono ?_; rintro e w1 ⟨rfl, hb1⟩; have B1 := hid (below_two hb1); clear hb1)
    go_ret
    exact ⟨rfl, B1.out.1⟩
  · obtain ⟨r, hr⟩ : ∃ r : Int, r = 1048576 - ((wStates es + wTrans xs : Nat) : Int) := ⟨_, rfl⟩
    rw [szOut_yes hbig, ← hr] at C
    have hr0 : ¬ r < 0 := by omega
    have fe : FitsSt es := fitsSt_of (by omega)
    have fx : FitsTr xs := fitsTr_of (by omega)
    have T := hid (fun w (h : StatesOf w eo en es ∧ TransOf w xo xn xs) => toChart_of eo xo en ec xn xc es xs w fe fx h.1 h.2)
    have K : Hid (∀ {w1 w2 : World}, Below w.heap.size w w1 ∧ w1.heap[w.heap.size]? = some (.cells #[.slice eo en ec, .slice xo xn xc] 25 (0, 0)) → Below w1.heap.size w1 w2 → Below w.heap.size w w2 ∧ w2.heap[w.heap.size]? = some (.cells #[.slice eo en ec, .slice xo xn xc] 25 (0, 0))) := hid (fun h hb => ⟨h.1.trans (hb.mono h.1.size), block_below h.2 hb⟩)
    have FE := hid fe
    have FX := hid fx
    clear he hx hbig hr fe fx
    go_enter Try.func4, Try.ntmps4
    go_wp2_with (go_at_call 6; refine C.out.mono ?_; rintro e w1 ⟨rfl, hb1⟩; have B1 := hid (below_two hb1); obtain ⟨q0, q1⟩ := two_cells B1.out.2; clear hb1)
    go_wp2_with (go_at_call 8; refine (T.out _ (HX.out _ B1.out.1)).mono ?_; rintro e w2 ⟨g1, g2, rfl, hs2, hb2⟩; have S2 := hid hs2; have B2 := hid (K.out B1.out hb2); obtain ⟨q20, q21⟩ := two_cells B2.out.2; clear hs2 hb2)
    go_wp2_with (go_at_call 15; refine (specDom_any _ _ _ _ _ _ es f t _ hen hxn S2.out.1).mono ?_; rintro e w3 ⟨rfl, hb3⟩; have B3 := hid (K.out B2.out hb3); obtain ⟨q30, q31⟩ := two_cells B3.out.2; clear hb3)
    go_wp2_with (go_at_call 8; refine (T.out _ (HX.out _ B3.out.1)).mono ?_; rintro e w4 ⟨g3, g4, rfl, hs4, hb4⟩; have S4 := hid hs4; have B4 := hid (K.out B3.out hb4); obtain ⟨q40, q41⟩ := two_cells B4.out.2; clear hs4 hb4)
    go_wp2_with (go_at_call 16; refine (implDom_any _ _ _ _ _ _ es f t _ hen hxn (S4.out.1.below (below1 _ _))).mono ?_; rintro e w5 ⟨rfl, hb5⟩; have B5 := hid (K.out (K.out B4.out (below1 _ _)) hb5); have S5 := hid (And.intro ((S4.out.1.below (below1 _ _)).below hb5) ((S4.out.2.below (below1 _ _)).below hb5)); have V5 := hid (block_below (heap_alloc_new w4 (.cells #[.slice (some ⟨g3, 0, none⟩) en en, .slice (some ⟨g4, 0, none⟩) xn xn] 32)) hb5); obtain ⟨q50, q51⟩ := two_cells B5.out.2; obtain ⟨v50, v51⟩ := two_cells V5.out; clear hb5)
    have D5 : Hid (Below w.heap.size w w5.drew ∧ w5.drew.heap[w.heap.size]? = some (.cells #[.slice eo en ec, .slice xo xn xc] 25 (0, 0))) := hid ⟨B5.out.1.drew, B5.out.2⟩
    have V5d : Hid (w5.drew.heap[w4.heap.size]? = some (.cells #[.slice (some ⟨g3, 0, none⟩) en en, .slice (some ⟨g4, 0, none⟩) xn xn] 32 (0, 0))) := hid V5.out
    have S5d : Hid (StatesOf w5.drew (some ⟨g3, 0, none⟩) en es ∧ TransOf w5.drew (some ⟨g4, 0, none⟩) xn xs) := hid ⟨S5.out.1.below ((Below.refl _ _).drew), S5.out.2.below ((Below.refl _ _).drew)⟩
    go_region_with (first | (go_at_call 8; refine (T.out _ (HX.out _ D5.out.1)).mono ?_; rintro e w6 ⟨g5, g6, rfl, hs6, hb6⟩; have S6 := hid hs6; have S6' := hid (And.intro (S5d.out.1.below hb6) (S5d.out.2.below hb6)); have B6 := hid (K.out D5.out hb6); obtain ⟨v60, v61⟩ := two_cells (block_below V5d.out hb6); clear hs6 hb6) | (go_at_call 11; refine (eqChart_same _ _ _ _ _ _ _ _ _ _ es xs _ FE.out FX.out S6'.out.1 S6'.out.2 S6.out.1 S6.out.2).mono ?_; rintro e w7 ⟨rfl, hb7⟩; have B7 := hid (K.out B6.out hb7); clear hb7))
    all_goals
      go_wp2
      go_ret
      exact ⟨rfl, B7.out.1⟩
end Go.Proofs.Ytjeckanjekgkkaa
