import Derived.Test.YtjeckanjekgkkaaL2
namespace Go.Proofs.Ytjeckanjekgkkaa
open Go.RowKit Go.Sort
attribute [local go_sem ↓] Go.wp_at_zero Go.wp_at_succ

theorem mkBun {w w4 w5 : World} {bx : Array Value} {v1 v2 vs vi : Value} {l : List Nat} {es : List StD} {xs : List TrD} (B4 : Below w.heap.size w w4 ∧ w4.heap[w.heap.size]? = some (.cells bx 25 (0, 0))) (O4 : w4.ownsRow 0 3 1 vs l.length (ints l)) (TT4 : TT w4 w.heap.size v1 es ∧ TR w4 w.heap.size v2 xs)
    (ho5 : OwnI (w4.alloc (.cells #[v1, v2] 32)) w5 vi l) (hb5 : Below (w4.alloc (.cells #[v1, v2] 32)).heap.size (w4.alloc (.cells #[v1, v2] 32)) w5) : Bun w w5 bx w4.heap.size v1 v2 vs vi l es xs := by
  have h1 : Below w4.heap.size w4 w5 := (below1 _ _).trans (hb5.mono (by simp))
  exact ⟨B4.1.trans (h1.mono B4.1.size), block_below B4.2 h1, block_below (heap_alloc_new w4 _) hb5, ownsRow_below O4 h1, own_zero ho5, TT4.1.of_below h1, TT4.2.of_below h1⟩
theorem after_mark {w w10 w11 : World} {bx : Array Value} {H gi gs m cs : Nat} {v1 v2 vi : Value} {l : List Nat} {es : List StD} {xs : List TrD} (h : Bun w w10 bx H v1 v2 (.slice (some ⟨gs, 0, none⟩) m cs) vi l es xs) (hne : gs ≠ gi) (hgi : w.heap.size < gi)
    (hsz : w11.heap.size = w10.heap.size) (hos : w11.os = w10.os ∧ w11.tape = w10.tape ∧ w11.output = w10.output) (hfr : ∀ q, q ≠ gi → w11.heap[q]? = w10.heap[q]?) :
    (Below w.heap.size w w11 ∧ w11.heap[w.heap.size]? = some (.cells bx 25 (0, 0))) ∧ w11.ownsRow 0 3 1 (.slice (some ⟨gs, 0, none⟩) m cs) l.length (ints l) := by
  have hb : Below w.heap.size w10 w11 := ⟨hos.1, hos.2.1, hos.2.2, Nat.le_of_eq hsz.symm, fun k hk => hfr k (by omega)⟩
  refine ⟨⟨h.bel.trans hb, (hfr _ (by omega)).trans h.box⟩, ownsRow_of h.os (fun b e => hfr b ?_)⟩
  simp [Value.ownBlock] at e
  omega
theorem gs_lt {w4 w5 : World} {o : Obj} {gs gi m cs ci : Nat} {l : List Nat} (O4 : w4.ownsRow 0 3 1 (.slice (some ⟨gs, 0, none⟩) m cs) l.length (ints l)) (ho5 : OwnI (w4.alloc o) w5 (.slice (some ⟨gi, 0, none⟩) m ci) l) : gs ≠ gi ∧ w4.heap.size < gi := by
  have h1 := (O4.lt gs rfl).2
  have h2 := (World.ownsRow.lt ho5 gi rfl).1
  simp at h2
  omega

set_option maxHeartbeats 4000000 in
theorem lawAncestors (eo xo : Option Addr) (en ec xn xc : Nat) (es : List StD) (xs : List TrD) (t : Int) (w : World) (hen : en ≤ 9223372036854775807) (hxn : xn ≤ 9223372036854775807) (he : StatesOf w eo en es) (hx : TransOf w xo xn xs) :
    Calls Try.prog 3 #[.agg #[.slice eo en ec, .slice xo xn xc], .int .i64 t] w fun e w' => e = .returned (.bool true) ∧ Below w.heap.size w w' := by
  have HX : Hid (∀ w', Below w.heap.size w w' → StatesOf w' eo en es ∧ TransOf w' xo xn xs) := fun w' h => ⟨he.below h, hx.below h⟩
  have C := hid (szChart_any eo xo en ec xn xc es xs (w.alloc (.cells #[.slice eo en ec, .slice xo xn xc] 25)) hen hxn (he.below (below1 _ _)) (hx.below (below1 _ _)))
  by_cases hbig : (1048576 : Int) < ((wStates es + wTrans xs : Nat) : Int)
  · rw [szOut_no hbig] at C
    clear he hx hbig
    go_enter Try.func3, Try.ntmps3
    go_wp2_with (go_at_call 6; refine C.out.mono ?_; rintro e w1 ⟨rfl, hb1⟩; have B1 := hid (below_two hb1); clear hb1)
    go_ret
    exact ⟨rfl, B1.out.1⟩
  · obtain ⟨r, hr⟩ : ∃ r : Int, r = 1048576 - ((wStates es + wTrans xs : Nat) : Int) := ⟨_, rfl⟩
    rw [szOut_yes hbig, ← hr] at C
    have hr0 : ¬ r < 0 := by omega
    have HWT : Hid (wStates es + wTrans xs ≤ 1048576) := hid (by omega)
    have fe : FitsSt es := fitsSt_of (by omega)
    have fx : FitsTr xs := fitsTr_of (by omega)
    have T := hid (fun w (h : StatesOf w eo en es ∧ TransOf w xo xn xs) => toChart_of eo xo en ec xn xc es xs w fe fx h.1 h.2)
    have T2 := hid (fun w' (hL : w.heap.size ≤ w'.heap.size) (h : StatesOf w' eo en es ∧ TransOf w' xo xn xs) => toChart_full eo xo en ec xn xc es xs w.heap.size w' hL fe fx h.1 h.2)
    have K : Hid (∀ {w1 w2 : World}, Below w.heap.size w w1 ∧ w1.heap[w.heap.size]? = some (.cells #[.slice eo en ec, .slice xo xn xc] 25 (0, 0)) → Below w1.heap.size w1 w2 → Below w.heap.size w w2 ∧ w2.heap[w.heap.size]? = some (.cells #[.slice eo en ec, .slice xo xn xc] 25 (0, 0))) := hid (fun h hb => ⟨h.1.trans (hb.mono h.1.size), block_below h.2 hb⟩)
    have FE := hid fe
    have FX := hid fx
    obtain ⟨l, hl⟩ : ∃ l, l = ansA es xn t := ⟨_, rfl⟩
    have SA := hid (fun so to sc tc w (h : StatesOf w so en es) => specAnc_any so to en sc xn tc es t w hen hxn h)
    have IA := hid (fun so to sc tc w (h : StatesOf w so en es) => implAnc_any so to en sc xn tc es t w hen hxn h)
    have hl2 := ansA_len es xn t
    rw [← hl] at SA IA hl2
    obtain ⟨m, hm⟩ : ∃ m, m = l.length := ⟨_, rfl⟩
    have HM := hid hm
    rw [← hm] at SA IA hl2
    have m1 : m ≤ 1048576 := by omega
    have m2 : (m : Int) ≤ 1000 := by omega
    clear he hx hbig hr fe fx hl hm
    go_enter Try.func3, Try.ntmps3
    go_wp2_with (go_at_call 6; refine C.out.mono ?_; rintro e w1 ⟨rfl, hb1⟩; have B1 := hid (below_two hb1); obtain ⟨q0, q1⟩ := two_cells B1.out.2; clear hb1)
    go_wp2_with (go_at_call 8; refine (T.out _ (HX.out _ B1.out.1)).mono ?_; rintro e w2 ⟨g1, g2, rfl, hs2, hb2⟩; have S2 := hid hs2; have B2 := hid (K.out B1.out hb2); obtain ⟨q20, q21⟩ := two_cells B2.out.2; clear hs2 hb2)
    go_wp2_with (go_at_call 7; refine (SA.out _ _ _ _ _ S2.out.1).mono ?_; rintro e w3 ⟨gs, cs, rfl, ho3, hb3⟩; have O3 := hid (own_zero ho3); have B3 := hid (K.out B2.out hb3); obtain ⟨q30, q31⟩ := two_cells B3.out.2; clear ho3 hb3)
    go_wp2_with (go_at_call 8; refine (T2.out _ B3.out.1.size (HX.out _ B3.out.1)).mono ?_; rintro e w4 ⟨g3, g4, rfl, hs4, ht4, hb4⟩; have S4 := hid hs4; have TT4 := hid ht4; have O4 := hid (ownsRow_below O3.out hb4); have B4 := hid (K.out B3.out hb4); obtain ⟨q40, q41⟩ := two_cells B4.out.2; clear hs4 ht4 hb4)
    go_wp2_with (go_at_call 9; refine (IA.out _ _ _ _ _ (S4.out.1.below (below1 _ _))).mono ?_; rintro e w5 ⟨gi, ci, rfl, ho5, hb5⟩; have NE := hid (gs_lt O4.out ho5); have U5 := hid (mkBun B4.out O4.out TT4.out ho5 hb5); have S5 := hid (And.intro ((S4.out.1.below (below1 _ _)).below hb5) ((S4.out.2.below (below1 _ _)).below hb5)); clear ho5 hb5)
    go_wp2_with (go_at_call 10; refine (eqIntS_yes _ _ _ _ _ _ _ m1 (own_slice U5.out.oi HM.out) (own_slice U5.out.os HM.out)).mono ?_; rintro e w6 ⟨rfl, hb6⟩; have U6 := hid (U5.out.below hb6); have S6 := hid (And.intro (S5.out.1.below hb6) (S5.out.2.below hb6)); obtain ⟨q60, q61⟩ := two_cells U6.out.box; obtain ⟨v60, v61⟩ := two_cells U6.out.var; clear hb6)
    have D6 := hid (U6.out.below ((Below.refl _ _).drew))
    have S6d : Hid (StatesOf w6.drew (some ⟨g3, 0, none⟩) en es ∧ TransOf w6.drew (some ⟨g4, 0, none⟩) xn xs) := hid ⟨S6.out.1.below ((Below.refl _ _).drew), S6.out.2.below ((Below.refl _ _).drew)⟩
    go_region_with (first | (go_at_call 8; refine (T.out _ (HX.out _ D6.out.bel)).mono ?_; rintro e w7 ⟨g5, g6, rfl, hs7, hb7⟩; have S7 := hid hs7; have S7' := hid (And.intro (S6d.out.1.below hb7) (S6d.out.2.below hb7)); have U7 := hid (D6.out.below hb7); obtain ⟨v70, v71⟩ := two_cells U7.out.var; clear hs7 hb7) | (go_at_call 11; refine (eqChart_same _ _ _ _ _ _ _ _ _ _ es xs _ FE.out FX.out S7'.out.1 S7'.out.2 S7.out.1 S7.out.2).mono ?_; rintro e w8 ⟨rfl, hb8⟩; have U8 := hid (U7.out.below hb8); obtain ⟨v80, v81⟩ := two_cells U8.out.var; clear hb8))
    all_goals
      go_wp2_with (go_at_call 12; refine (markChart_any w.heap.size _ _ es xs _ HWT.out U8.out.tt U8.out.tr).mono ?_; rintro e w9 ⟨k9, rfl, hk9, hm9⟩; have U9 := hid ((U8.out.below (below1 _ _)).mk' hm9); have kn : ¬ k9 < 0 := (by omega); have kn' : decide (k9 < 0) = false := (by simpa using kn); clear hm9 hk9)
      go_wp2_with (go_at_call 10; refine (eqIntS_yes _ _ _ _ _ _ _ m1 (own_slice U9.out.oi HM.out) (own_slice U9.out.os HM.out)).mono ?_; rintro e w10 ⟨rfl, hb10⟩; have U10 := hid (U9.out.below hb10); clear hb10)
      go_wp2_with (go_at_call 13; refine (markIntS_any gi m ci 1 _ (by omega) (by omega) (own_row U10.out.oi HM.out)).mono ?_; rintro e w11 ⟨rfl, hmk, hsz, hos, hfr⟩; have MK := hid hmk; have A11 := hid (after_mark U10.out NE.out.1 (by have := NE.out.2; have := B4.out.1.size; omega) hsz hos hfr); obtain ⟨q110, q111⟩ := two_cells A11.out.1.2; clear hmk hsz hos hfr)
      have p1 : ¬ (1 : Int) + (m : Int) < 0 := by omega
      go_wp2_with (go_at_call 14; refine (heldIntS_any gi m ci 1 _ (by omega) (by omega) MK.out).mono ?_; rintro e w12 ⟨rfl, hw⟩; obtain rfl := hw.symm)
      go_wp2_with (go_at_call 8; refine (T.out _ (HX.out _ A11.out.1.1)).mono ?_; rintro e w13 ⟨g7, g8, rfl, hs13, hb13⟩; have S13 := hid hs13; have B13 := hid (A11.out.1.1.trans (hb13.mono A11.out.1.1.size)); have O13 := hid (ownsRow_below A11.out.2 hb13); clear hs13 hb13)
      go_wp2_with (go_at_call 9; refine (IA.out _ _ _ _ _ S13.out.1).mono ?_; rintro e w14 ⟨gh, ch, rfl, ho14, hb14⟩; have O14 := hid (own_zero ho14); have O14' := hid (ownsRow_below O13.out hb14); have B14 := hid (B13.out.trans (hb14.mono B13.out.size)); clear ho14 hb14)
      go_wp2_with (go_at_call 10; refine (eqIntS_yes _ _ _ _ _ _ _ m1 (own_slice O14.out HM.out) (own_slice O14'.out HM.out)).mono ?_; rintro e w15 ⟨rfl, hb15⟩; have B15 := hid (B14.out.trans (hb15.mono B14.out.size)); clear hb15)
      go_ret
      exact ⟨rfl, B15.out⟩
end Go.Proofs.Ytjeckanjekgkkaa
