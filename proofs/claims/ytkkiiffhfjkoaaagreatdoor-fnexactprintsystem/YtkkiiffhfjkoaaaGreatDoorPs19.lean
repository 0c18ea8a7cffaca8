import Derived.Test.YtkkiiffhfjkoaaaGreatDoorPs18
namespace Go.Proofs.YtkkiiffhfjkoaaaGreatDoor
open Go.RowKit Go.Sort
set_option linter.unusedVariables false
attribute [local go_sem ↓] Go.wp_at_zero Go.wp_at_succ

set_option maxHeartbeats 4000000 in
theorem lawPrint (sg : Int) (eo xo : Option Addr) (en ec xn xc : Nat) (es : List ObD) (xs : List (Int × Int)) (w : World) (hen : en ≤ 9223372036854775807) (hxn : xn ≤ 9223372036854775807) (hv : ∀ i, i < es.length → ∀ j, j < (es.getD i ob0).vals.length → I64 ((es.getD i ob0).vals.getD j 0)) (hTb : Tabs w w.heap.size) (he : ObsOf w eo en es) (hx : ItemsOf w xo xn xs) :
    Calls Tryz.prog 3 #[.agg #[.int .i64 sg, .slice eo en ec, .slice xo xn xc]] w fun e w' => e = .returned (.bool true) ∧ Below w.heap.size w w' := by
  have HX : Hid (∀ w', Below w.heap.size w w' → ObsOf w' eo en es ∧ ItemsOf w' xo xn xs) := fun w' h => ⟨he.below h, hx.below h⟩
  have EN := hid (lbox_start w #[.int .i64 sg, .slice eo en ec, .slice xo xn xc])
  have C := hid (szSystem_any sg eo xo en ec xn xc es 1048576 _ hen hxn (by omega) (by omega) (he.below EN.out.bel))
  by_cases hbig : (1048576 : Int) < ((wObs es + xn : Nat) : Int)
  · rw [szOut_no hbig] at C
    clear he hx hbig hv hTb
    go_enter Tryz.func3, Tryz.ntmps3
    go_wp2_with (go_at_call 4; refine C.out.mono ?_; rintro e w1 ⟨rfl, hb1⟩; have B1 := hid (EN.out.below hb1); clear hb1)
    go_ret
    exact ⟨rfl, B1.out.bel⟩
  · obtain ⟨r, hr⟩ : ∃ r : Int, r = 1048576 - ((wObs es + xn : Nat) : Int) := ⟨_, rfl⟩
    rw [szOut_yes hbig, ← hr] at C
    have hr0 : ¬ r < 0 := by omega
    have fe : FitsObs es := fitsObs_of (by omega)
    have fx : xn ≤ 1048576 := by omega
    have hen' : en ≤ 1048576 := by have := fe.1; rw [he.1] at this; exact this
    have T := hid (fun w (h : ObsOf w eo en es ∧ ItemsOf w xo xn xs) => toSystem_any sg eo xo en ec xn xc es xs w fe fx h.1 h.2)
    have FE := hid fe
    have FX := hid fx
    have HTB := hid (fun W (h : Below w.heap.size w W) => (⟨(hTb.below h).pow, (hTb.below h).it, (hTb.below h).fm, Nat.le_trans hTb.lt h.size⟩ : Tabs W W.heap.size))
    obtain ⟨t0, ht0⟩ : ∃ t, t = prT sg es xs := ⟨_, rfl⟩
    have SC := hid (fun so tt w (h : ObsOf w so en es) (h2 : ItemsOf w tt xn xs) => specPrint_any sg so tt en en xn xn es xs w hen (Nat.le_refl _) hxn fe hv h h2)
    have IC := hid (fun so tt w (hT : Tabs w w.heap.size) (h : ObsOf w so en es) (h2 : ItemsOf w tt xn xs) => implPrint_any sg so tt en en xn xn es xs w hen (Nat.le_refl _) hxn fe hv h h2 hT)
    rw [← ht0] at SC IC
    clear he hx hbig hr fe fx ht0 hTb hv
    go_enter Tryz.func3, Tryz.ntmps3
    go_wp2_with (first
      | (go_at_call 4; refine C.out.mono ?_; rintro e w1 ⟨rfl, hb1⟩; have B1 := hid (EN.out.below hb1); obtain ⟨q0, q1, q2⟩ := three_cells B1.out.sy; clear hb1)
      | (go_at_call 6; refine (T.out _ (HX.out _ B3.out.bel)).mono ?_; rintro e w5 ⟨g3, g4, rfl, hs5, hb5⟩; have S5 := hid hs5; have B5 := hid (B3.out.below hb5); clear hs5 hb5)
      | (go_at_call 6; refine (T.out _ (HX.out _ B1.out.bel)).mono ?_; rintro e w2 ⟨g1, g2, rfl, hs2, hb2⟩; have S2 := hid hs2; have B2 := hid (B1.out.below hb2); clear hs2 hb2)
      | (go_at_call 5; refine (SC.out _ _ _ S2.out.1 S2.out.2).mono ?_; rintro e w3 ⟨rfl, hb3⟩; have B3 := hid (B2.out.below hb3); obtain ⟨q30, q31, q32⟩ := three_cells B3.out.sy; clear hb3)
      | (go_at_call 7; refine (IC.out _ _ _ (HTB.out _ (B5.out.below (below1 _ _)).bel) (S5.out.1.below (below1 _ _)) (S5.out.2.below (below1 _ _))).mono ?_; rintro e w7 ⟨rfl, hb7⟩; have B7 := hid ((B5.out.below (below1 _ _)).below hb7); have V7 := hid (block_below (heap_alloc_new w5 _) hb7); have S7 := hid (And.intro ((S5.out.1.below (below1 _ _)).below hb7) ((S5.out.2.below (below1 _ _)).below hb7)); obtain ⟨v70, v71, v72⟩ := three_cells V7.out; obtain ⟨q70, q71, q72⟩ := three_cells B7.out.sy; clear hb7))
    have D7 := hid (B7.out.below ((Below.refl _ _).drew))
    have V7d : Hid (w7.drew.heap[w5.heap.size]? = some (.cells #[.int .i64 sg, .slice (some ⟨g3, 0, none⟩) en en, .slice (some ⟨g4, 0, none⟩) xn xn] 31 (0, 0))) := hid V7.out
    have S7d : Hid (ObsOf w7.drew (some ⟨g3, 0, none⟩) en es ∧ ItemsOf w7.drew (some ⟨g4, 0, none⟩) xn xs) := hid ⟨S7.out.1.below ((Below.refl _ _).drew), S7.out.2.below ((Below.refl _ _).drew)⟩
    go_region_with (first
      | (go_at_call 6; refine (T.out _ (HX.out _ D7.out.bel)).mono ?_; rintro e w8 ⟨g5, g6, rfl, hs8, hb8⟩; have S8 := hid hs8; have S8' := hid (And.intro (S7d.out.1.below hb8) (S7d.out.2.below hb8)); have B8 := hid (D7.out.below hb8); obtain ⟨v80, v81, v82⟩ := three_cells (block_below V7d.out hb8); clear hs8 hb8)
      | (go_at_call 8; refine (eqSystem_same sg _ _ _ _ en _ xn _ _ _ es xs _ FE.out FX.out S8'.out.1 S8'.out.2 S8.out.1 S8.out.2).mono ?_; rintro e w9 ⟨rfl, hb9⟩; have B9 := hid (B8.out.below hb9); clear hb9))
    all_goals
      go_wp2
      go_ret
      exact ⟨rfl, B9.out.bel⟩
end Go.Proofs.YtkkiiffhfjkoaaaGreatDoor
