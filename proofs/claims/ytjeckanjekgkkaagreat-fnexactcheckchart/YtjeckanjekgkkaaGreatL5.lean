import Derived.Test.YtjeckanjekgkkaaGreatP2
namespace Go.Proofs.YtjeckanjekgkkaaGreat
open Go.RowKit Go.Sort
attribute [local go_sem ↓] Go.wp_at_zero Go.wp_at_succ

theorem toChart_of (eo xo : Option Addr) (en ec xn xc : Nat) (es : List StD) (xs : List TrD) (w : World) (fe : FitsSt es) (fx : FitsTr xs) (he : StatesOf w eo en es) (hx : TransOf w xo xn xs) :
    Calls Tryz.prog 6 #[.agg #[.slice eo en ec, .slice xo xn xc]] w fun e w' => ∃ g1 g2, e = .returned (.agg #[.slice (some ⟨g1, 0, none⟩) en en, .slice (some ⟨g2, 0, none⟩) xn xn]) ∧
      (StatesOf w' (some ⟨g1, 0, none⟩) en es ∧ TransOf w' (some ⟨g2, 0, none⟩) xn xs) ∧ Below w.heap.size w w' :=
  (toChart_any eo xo en ec xn xc es xs w fe fx he hx).mono (by
    rintro e w' ⟨g1, g2, rfl, h1, h2, hb⟩
    obtain ⟨q1, e1, s1⟩ := h1.states fe
    obtain ⟨q2, e2, s2⟩ := h2.trans fx
    simp at e1 e2
    obtain ⟨rfl, rfl, _⟩ := e1
    obtain ⟨rfl, rfl, _⟩ := e2
    exact ⟨g1, g2, rfl, ⟨s1, s2⟩, hb⟩)

theorem undrew' {B : Nat} {w w' : World} (h : Below B w.drew w') : Below B w w' := ⟨h.os, h.tape, h.output, h.size, h.block⟩
/-- What stays of the law's own two boxes. -/
structure Box (w wr : World) (c l : Array Value) : Prop where
  bel : Below w.heap.size w wr
  ch : wr.heap[w.heap.size]? = some (.cells c 25 (0, 0))
  li : wr.heap[w.heap.size + 1]? = some (.cells l 27 (0, 0))
theorem Box.below {w wr w1 : World} {c l : Array Value} (h : Box w wr c l) (hb : Below wr.heap.size wr w1) : Box w w1 c l := ⟨h.bel.trans (hb.mono h.bel.size), block_below h.ch hb, block_below h.li hb⟩
theorem box_start (w : World) (c l : Array Value) : Box w ((w.alloc (.cells c 25)).alloc (.cells l 27)) c l :=
  ⟨below2 _ _ _, block_below (heap_alloc_new w _) (below1 _ _), by simpa using heap_alloc_new (w.alloc (.cells c 25)) (.cells l 27)⟩

set_option maxHeartbeats 4000000 in
theorem lawCheck (eo xo : Option Addr) (en ec xn xc : Nat) (es : List StD) (xs : List TrD) (o s t v : Int) (w : World) (hen : en ≤ 9223372036854775807) (hxn : xn ≤ 9223372036854775807) (he : StatesOf w eo en es) (hx : TransOf w xo xn xs) :
    Calls Tryz.prog 3 #[.agg #[.slice eo en ec, .slice xo xn xc], .agg #[.int .i64 o, .int .i64 s, .int .i64 t, .int .i64 v]] w fun e w' => e = .returned (.bool true) ∧ Below w.heap.size w w' := by
  have HX : Hid (∀ w', Below w.heap.size w w' → StatesOf w' eo en es ∧ TransOf w' xo xn xs) := fun w' h => ⟨he.below h, hx.below h⟩
  have EN := hid (box_start w #[.slice eo en ec, .slice xo xn xc] #[.int .i64 o, .int .i64 s, .int .i64 t, .int .i64 v])
  have C := hid (szChart_any eo xo en ec xn xc es xs _ hen hxn (he.below EN.out.bel) (hx.below EN.out.bel))
  by_cases hbig : (1048576 : Int) < ((wStates es + wTrans xs : Nat) : Int)
  · rw [szOut_no hbig] at C
    clear he hx hbig
    go_enter Tryz.func3, Tryz.ntmps3
    go_wp2_with (go_at_call 4; refine C.out.mono ?_; rintro e w1 ⟨rfl, hb1⟩; have B1 := hid (EN.out.below hb1); clear hb1)
    go_ret
    exact ⟨rfl, B1.out.bel⟩
  · obtain ⟨r, hr⟩ : ∃ r : Int, r = 1048576 - ((wStates es + wTrans xs : Nat) : Int) := ⟨_, rfl⟩
    rw [szOut_yes hbig, ← hr] at C
    have hr0 : ¬ r < 0 := by omega
    have fe : FitsSt es := fitsSt_of (by omega)
    have fx : FitsTr xs := fitsTr_of (by omega)
    have T := hid (fun w (h : StatesOf w eo en es ∧ TransOf w xo xn xs) => toChart_of eo xo en ec xn xc es xs w fe fx h.1 h.2)
    have FE := hid fe
    have FX := hid fx
    obtain ⟨fc, hfc⟩ : ∃ x, x = (checkOf es xs ⟨o, s, t, v⟩).1 := ⟨_, rfl⟩
    obtain ⟨fp, hfp⟩ : ∃ x, x = (checkOf es xs ⟨o, s, t, v⟩).2 := ⟨_, rfl⟩
    have SC := hid (fun so to sc tc w (h : StatesOf w so en es) (h2 : TransOf w to xn xs) => specCheck_any so to en sc xn tc es xs o s t v w hen hxn h h2)
    have IC := hid (fun so to sc tc w (h : StatesOf w so en es) (h2 : TransOf w to xn xs) => implCheck_any so to en sc xn tc es xs o s t v w hen hxn h h2)
    rw [← hfc, ← hfp] at SC IC
    clear he hx hbig hr fe fx hfc hfp
    go_enter Tryz.func3, Tryz.ntmps3
    go_wp2_with (go_at_call 4; refine C.out.mono ?_; rintro e w1 ⟨rfl, hb1⟩; have B1 := hid (EN.out.below hb1); obtain ⟨q0, q1⟩ := two_cells B1.out.ch; obtain ⟨u0, u1, u2, u3⟩ := quad_cells B1.out.li; clear hb1)
    have D1 := hid (B1.out.below ((Below.refl _ _).drew))
    go_region_with (first | (go_at_call 6; refine (T.out _ (HX.out _ D1.out.bel)).mono ?_; rintro e w2 ⟨g1, g2, rfl, hs2, hb2⟩; have S2 := hid hs2; have B2 := hid (D1.out.below hb2); obtain ⟨q20, q21⟩ := two_cells B2.out.ch; obtain ⟨u20, u21, u22, u23⟩ := quad_cells B2.out.li; clear hs2 hb2) | (go_at_call 7; refine (toLimits_any o s t v _).mono ?_; rintro e w3 ⟨rfl, hb3⟩; have S3 := hid (And.intro (S2.out.1.below hb3) (S2.out.2.below hb3)); have B3 := hid (B2.out.below hb3); clear hb3) | (go_at_call 5; refine (SC.out _ _ _ _ _ S3.out.1 S3.out.2).mono ?_; rintro e w4 ⟨rfl, hb4⟩; have B4 := hid (B3.out.below hb4); obtain ⟨q40, q41⟩ := two_cells B4.out.ch; obtain ⟨u40, u41, u42, u43⟩ := quad_cells B4.out.li; clear hb4))
    all_goals
      go_wp2_with (go_at_call 6; refine (T.out _ (HX.out _ B4.out.bel)).mono ?_; rintro e w5 ⟨g3, g4, rfl, hs5, hb5⟩; have S5 := hid hs5; have B5 := hid (B4.out.below hb5); clear hs5 hb5)
      have B5a := hid (B5.out.below (below1 w5 (.cells #[.slice (some ⟨g3, 0, none⟩) en en, .slice (some ⟨g4, 0, none⟩) xn xn] 34)))
      have V5 := hid (heap_alloc_new w5 (.cells #[.slice (some ⟨g3, 0, none⟩) en en, .slice (some ⟨g4, 0, none⟩) xn xn] 34))
      have S5a := hid (And.intro (S5.out.1.below (below1 w5 (.cells #[.slice (some ⟨g3, 0, none⟩) en en, .slice (some ⟨g4, 0, none⟩) xn xn] 34))) (S5.out.2.below (below1 w5 (.cells #[.slice (some ⟨g3, 0, none⟩) en en, .slice (some ⟨g4, 0, none⟩) xn xn] 34))))
      obtain ⟨u50, u51, u52, u53⟩ := quad_cells B5a.out.li
      obtain ⟨v50, v51⟩ := two_cells V5.out
      have D5 := hid (B5a.out.below ((Below.refl _ _).drew))
      go_region_with (first | (go_at_call 7; refine (toLimits_any o s t v _).mono ?_; rintro e w6 ⟨rfl, hb6⟩; have S6 := hid (And.intro (S5a.out.1.below (undrew' hb6)) (S5a.out.2.below (undrew' hb6))); have V6 := hid (block_below V5.out (undrew' hb6)); have B6 := hid (D5.out.below hb6); obtain ⟨v60, v61⟩ := two_cells V6.out; clear hb6) | (go_at_call 8; refine (IC.out _ _ _ _ _ S6.out.1 S6.out.2).mono ?_; rintro e w7 ⟨rfl, hb7⟩; have S7 := hid (And.intro (S6.out.1.below hb7) (S6.out.2.below hb7)); have V7 := hid (block_below V6.out hb7); have B7 := hid (B6.out.below hb7); obtain ⟨v70, v71⟩ := two_cells V7.out; obtain ⟨q70, q71⟩ := two_cells B7.out.ch; clear hb7))
      all_goals
        go_wp2_with fail
        have D7 := hid (B7.out.below ((Below.refl _ _).drew))
        have V7d : Hid (w7.drew.heap[w5.heap.size]? = some (.cells #[.slice (some ⟨g3, 0, none⟩) en en, .slice (some ⟨g4, 0, none⟩) xn xn] 34 (0, 0))) := hid V7.out
        have S7d : Hid (StatesOf w7.drew (some ⟨g3, 0, none⟩) en es ∧ TransOf w7.drew (some ⟨g4, 0, none⟩) xn xs) := hid ⟨S7.out.1.below ((Below.refl _ _).drew), S7.out.2.below ((Below.refl _ _).drew)⟩
        go_region_with (first | (go_at_call 6; refine (T.out _ (HX.out _ D7.out.bel)).mono ?_; rintro e w8 ⟨g5, g6, rfl, hs8, hb8⟩; have S8 := hid hs8; have S8' := hid (And.intro (S7d.out.1.below hb8) (S7d.out.2.below hb8)); have B8 := hid (D7.out.below hb8); obtain ⟨v80, v81⟩ := two_cells (block_below V7d.out hb8); clear hs8 hb8) | (go_at_call 9; refine (eqChart_same _ _ _ _ _ _ _ _ _ _ es xs _ FE.out FX.out S8'.out.1 S8'.out.2 S8.out.1 S8.out.2).mono ?_; rintro e w9 ⟨rfl, hb9⟩; have B9 := hid (B8.out.below hb9); clear hb9))
        all_goals
          go_wp2
          go_ret
          exact ⟨rfl, B9.out.bel⟩
end Go.Proofs.YtjeckanjekgkkaaGreat
