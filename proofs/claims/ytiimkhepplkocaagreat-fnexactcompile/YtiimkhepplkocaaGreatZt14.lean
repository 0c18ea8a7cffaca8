import Derived.Test.YtiimkhepplkocaaGreatTd
namespace Go.Proofs.YtiimkhepplkocaaGreat
open Go.RowKit Go.Sort
set_option linter.unusedVariables false
attribute [local go_sem ↓] Go.wp_at_zero Go.wp_at_succ

theorem lw2_start (w : World) (c l : Array Value) : Lw w [(w.heap.size, c, 76), (w.heap.size + 1, l, 77)] ((w.alloc (.cells c 76)).alloc (.cells l 77)) := by
  have h2 := heap_alloc_new (w.alloc (.cells c 76)) (.cells l 77)
  simp only [World.size_alloc] at h2
  refine ⟨below2 _ _ _, fun p hp => ?_⟩
  simp only [List.mem_cons, List.not_mem_nil, or_false] at hp
  rcases hp with rfl | rfl
  · exact block_below (heap_alloc_new w _) (below1 _ _)
  · exact h2
abbrev C6 (n m : Nat) (c0 c1 l0 l1 l2 l3 : Value) (X : World) : Prop := (X.cell? ⟨n, 0, none⟩ = some c0 ∧ X.cell? ⟨n, 1, none⟩ = some c1) ∧ (X.cell? ⟨m, 0, none⟩ = some l0 ∧ X.cell? ⟨m, 1, none⟩ = some l1 ∧ X.cell? ⟨m, 2, none⟩ = some l2 ∧ X.cell? ⟨m, 3, none⟩ = some l3)
theorem c6 {bs : BoxL} {X : World} (h : Boxes bs X) (i j : Nat) {n m : Nat} {c0 c1 l0 l1 l2 l3 : Value} {t1 t2 : TypeId} (e1 : bs[i]? = some (n, #[c0, c1], t1)) (e2 : bs[j]? = some (m, #[l0, l1, l2, l3], t2)) : C6 n m c0 c1 l0 l1 l2 l3 X := ⟨two_cells' (h.at i e1), quad_cells (h.at j e2)⟩
theorem mkLtB {w w2 w3 W X : World} {bs bs' : BoxL} {d : TbD} {lv sv rv bx bn l2 s2 r2 x2 n2 y1 y2 : Value} {R R2 : List (List Value)} {es : List StD} {xs : List TrD} (h : Lt w bs d lv sv rv bx bn R w2) (h3 : Below w2.heap.size w2 w3) (hT : TT w3 w.heap.size y1 es ∧ TR w3 w.heap.size y2 xs) (hW : Below w3.heap.size w3 W) (hI : Lt W bs' d l2 s2 r2 x2 n2 R2 X) : LtB w W bs' d lv sv rv bx bn R l2 s2 r2 x2 n2 R2 es xs y1 y2 X := by
  have b2 : Below w2.heap.size w2 W := h3.trans (hW.mono h3.size)
  exact ⟨(h.bel.trans (b2.mono h.bel.size)).trans (hI.bel.mono (Nat.le_trans h.bel.size b2.size)), hI.bx, (h.o.below b2).below hI.bel, hI.o, (hT.1.of_below hW).of_below hI.bel, (hT.2.of_below hW).of_below hI.bel, fun b e => Nat.lt_of_lt_of_le (h.o.lt b e).2 b2.size, Nat.le_trans h.bel.size b2.size⟩

set_option maxRecDepth 100000 in
set_option maxHeartbeats 16000000 in
theorem lawCompile (eo xo : Option Addr) (en ec xn xc : Nat) (es : List StD) (xs : List TrD) (o s t v : Int) (w : World) (hen : en ≤ 9223372036854775807) (hxn : xn ≤ 9223372036854775807) (he : StatesOf w eo en es) (hx : TransOf w xo xn xs) :
    Calls Tryz.prog 5 #[.agg #[.slice eo en ec, .slice xo xn xc], .agg #[.int .i64 o, .int .i64 s, .int .i64 t, .int .i64 v]] w fun e w' => e = .returned (.bool true) ∧ Below w.heap.size w w' := by
  have HX : Hid (∀ w', Below w.heap.size w w' → StatesOf w' eo en es ∧ TransOf w' xo xn xs) := fun w' h => ⟨he.below h, hx.below h⟩
  have EN := hid (lw2_start w #[.slice eo en ec, .slice xo xn xc] #[.int .i64 o, .int .i64 s, .int .i64 t, .int .i64 v])
  obtain ⟨bs, hbs⟩ : ∃ b : BoxL, b = [(w.heap.size, #[.slice eo en ec, .slice xo xn xc], 76), (w.heap.size + 1, #[.int .i64 o, .int .i64 s, .int .i64 t, .int .i64 v], 77)] := ⟨_, rfl⟩
  rw [← hbs] at EN
  have G0 : Hid (bs[0]? = some (w.heap.size, #[.slice eo en ec, .slice xo xn xc], 76)) := hid (by rw [hbs]; rfl)
  have G1 : Hid (bs[1]? = some (w.heap.size + 1, #[.int .i64 o, .int .i64 s, .int .i64 t, .int .i64 v], 77)) := hid (by rw [hbs]; rfl)
  have FB : Hid (FarT bs) := hid (by rw [hbs]; intro p hp; simp only [List.mem_cons, List.not_mem_nil, or_false] at hp; rcases hp with rfl | rfl <;> (dsimp only; decide))
  have KC : Hid (∀ {X : World}, Boxes bs X → C6 w.heap.size (w.heap.size + 1) (.slice eo en ec) (.slice xo xn xc) (.int .i64 o) (.int .i64 s) (.int .i64 t) (.int .i64 v) X) := hid (fun h => c6 h 0 1 G0.out G1.out)
  have C := hid (szChart_any eo xo en ec xn xc es xs _ hen hxn (he.below EN.out.bel) (hx.below EN.out.bel))
  clear he hx hbs
  by_cases hbig : (1048576 : Int) < ((wStates es + wTrans xs : Nat) : Int)
  · rw [szOut_no hbig] at C
    clear hbig
    go_enter Tryz.func5, Tryz.ntmps5
    go_wp2_with (go_at_call 24; refine C.out.mono ?_; rintro e w1 ⟨rfl, hb1⟩; have B1 := hid (EN.out.below hb1); clear hb1)
    go_ret
    exact ⟨rfl, B1.out.bel⟩
  · obtain ⟨r, hr⟩ : ∃ r : Int, r = 1048576 - ((wStates es + wTrans xs : Nat) : Int) := ⟨_, rfl⟩
    rw [szOut_yes hbig, ← hr] at C
    have hr0 : ¬ r < 0 := by omega
    have HWT : Hid (wStates es + wTrans xs ≤ 1048576) := hid (by omega)
    have fe : FitsSt es := fitsSt_of (by omega)
    have fx : FitsTr xs := fitsTr_of (by omega)
    have FE := hid fe
    have FX := hid fx
    obtain ⟨D, hD⟩ : ∃ d, d = tbC es xs ⟨o, s, t, v⟩ := ⟨_, rfl⟩
    have SP := hid (fun a b w' (h1 : StatesOf w' (some ⟨a, 0, none⟩) en es ∧ TransOf w' (some ⟨b, 0, none⟩) xn xs) => specCompile_any (some ⟨a, 0, none⟩) (some ⟨b, 0, none⟩) en en xn xn es xs o s t v w' hen hxn h1.1 h1.2)
    have IM := hid (fun a b w' (h1 : StatesOf w' (some ⟨a, 0, none⟩) en es ∧ TransOf w' (some ⟨b, 0, none⟩) xn xs) => implCompile_any (some ⟨a, 0, none⟩) (some ⟨b, 0, none⟩) en en xn xn es xs o s t v w' hen hxn h1.1 h1.2)
    have TF := hid (tbC_fits es xs ⟨o, s, t, v⟩)
    have MB := hid (mT_bd es xs ⟨o, s, t, v⟩)
    have mb0 : ¬ (mT (tbC es xs ⟨o, s, t, v⟩) < 0) := by have := MB.out.1; omega
    rw [← hD] at SP IM TF MB mb0
    have T := hid (fun w' (hL : w.heap.size ≤ w'.heap.size) (h : StatesOf w' eo en es ∧ TransOf w' xo xn xs) => toChart_full eo xo en ec xn xc es xs w.heap.size w' hL fe fx h.1 h.2)
    clear hbig hr fe fx hD
    go_enter Tryz.func5, Tryz.ntmps5
    go_upto_region 5 with (go_at_call 24; refine C.out.mono ?_; rintro e w2 ⟨rfl, hb⟩; have P2 := hid (EN.out.below hb); obtain ⟨⟨c0, c1⟩, ⟨u0, u1, u2, u3⟩⟩ := KC.out P2.out.bx; have cl := lt_of_block (P2.out.bx.at 0 G0.out); have ul := lt_of_block (P2.out.bx.at 1 G1.out); clear hb)
    go_cut [6] (fun s6 wx => ∃ H lv sv rv bx bn R, s6 = .pointer (some ⟨H, 0, none⟩) ∧ Lt w ((H, tbA D lv sv rv bx bn, 46) :: bs) D lv sv rv bx bn R wx)
    case first =>
      refine wp_region_inv_at (fun A l a X => ∃ s0 s1 s2 s3 s4 s5, a = ((((((A.put (some 18) s0).put (some 19) s1).put (some 20) s2).put (some 21) s3).put (some 22) s4).put (some 6) s5) ∧ (G7 w bs D en xn es xs (.agg #[.slice eo en ec, .slice xo xn xc]) (.agg #[.int .i64 o, .int .i64 s, .int .i64 t, .int .i64 v]) l s0 s1 s2 s3 s4 s5 X ∨ (l = Array.replicate 7 true ∧ ∃ H lv sv rv bx bn R, s5 = .pointer (some ⟨H, 0, none⟩) ∧ Lt w ((H, tbA D lv sv rv bx bn, 46) :: bs) D lv sv rv bx bn R X))) (by kernel_rfl) ?_ ?_ ?_
      · exact ⟨undef, undef, undef, undef, undef, undef, by simp only [Act.put, List.setIfInBounds_toArray, List.set_cons_zero, List.set_cons_succ], .inl (g7_start (P2.out.below ((Below.refl _ _).drew)))⟩
      · rintro l b X i ⟨s0, s1, s2, s3, s4, s5, rfl, hG | ⟨rfl, _⟩⟩ hi
        case inr => exact absurd hi (List.not_mem_nil (a := i))
        have hlt : i < 7 := ready_lt hi
        have HG := hid hG
        have un := ready_un hi
        obtain ⟨⟨e0, e1⟩, ⟨e2, e3, e4, e5⟩⟩ := KC.out hG.g.lw.bx
        have el := lt_of_block (hG.g.lw.bx.at 0 G0.out)
        have em := lt_of_block (hG.g.lw.bx.at 1 G1.out)
        clear hG c0 c1 u0 u1 u2 u3 cl ul
        rcases (show i = 0 ∨ i = 1 ∨ i = 2 ∨ i = 3 ∨ i = 4 ∨ i = 5 ∨ i = 6 by omega) with rfl | rfl | rfl | rfl | rfl | rfl | rfl
        · refine wpOp_is rfl (fun K hK => ?_)
          simp only [Act.put, List.setIfInBounds_toArray, List.set_cons_zero, List.set_cons_succ]
          go_simp
          refine hK _ _ ?_
          exact ⟨_, s1, s2, s3, s4, s5, by simp only [Act.put, List.setIfInBounds_toArray, List.set_cons_zero, List.set_cons_succ], .inl HG.out.t0⟩
        · have n0 := ready_needs hi (j := 0) (by kernel_rfl)
          obtain rfl := HG.out.a0 n0
          refine wpOp_is rfl (fun K hK => ?_)
          simp only [Act.put, List.setIfInBounds_toArray, List.set_cons_zero, List.set_cons_succ]
          go_simp
          refine (T.out _ HG.out.g.lw.bel.size (HX.out _ HG.out.g.lw.bel)).mono ?_
          rintro e w3 ⟨a, b, rfl, hs, _, hb⟩
          refine hK _ _ ?_
          exact ⟨_, .agg #[.slice (some ⟨a, 0, none⟩) en en, .slice (some ⟨b, 0, none⟩) xn xn], s2, s3, s4, s5, by simp only [Act.put, List.setIfInBounds_toArray, List.set_cons_zero, List.set_cons_succ], .inl (HG.out.t1 n0 hs hb)⟩
        · refine wpOp_is rfl (fun K hK => ?_)
          simp only [Act.put, List.setIfInBounds_toArray, List.set_cons_zero, List.set_cons_succ]
          go_simp
          refine hK _ _ ?_
          exact ⟨s0, s1, _, s3, s4, s5, by simp only [Act.put, List.setIfInBounds_toArray, List.set_cons_zero, List.set_cons_succ], .inl HG.out.t2⟩
        · have n2 := ready_needs hi (j := 2) (by kernel_rfl)
          obtain rfl := HG.out.a2 n2
          refine wpOp_is rfl (fun K hK => ?_)
          simp only [Act.put, List.setIfInBounds_toArray, List.set_cons_zero, List.set_cons_succ]
          go_simp
          refine (toLimits_any o s t v _).mono ?_
          rintro e w3 ⟨rfl, hb⟩
          refine hK _ _ ?_
          exact ⟨s0, s1, _, _, s4, s5, by simp only [Act.put, List.setIfInBounds_toArray, List.set_cons_zero, List.set_cons_succ], .inl (HG.out.t3 n2 hb)⟩
        · have n1 := ready_needs hi (j := 1) (by kernel_rfl)
          have n3 := ready_needs hi (j := 3) (by kernel_rfl)
          obtain rfl := HG.out.a3 n3
          obtain ⟨a, b, rfl, h1, h2⟩ := HG.out.g.c n1
          refine wpOp_is rfl (fun K hK => ?_)
          simp only [Act.put, List.setIfInBounds_toArray, List.set_cons_zero, List.set_cons_succ]
          go_simp
          refine (SP.out a b _ ⟨h1, h2⟩).mono ?_
          rintro e w3 ⟨lv, sv, rv, bx, bn, R, rfl, ho, hb⟩
          refine hK _ _ ?_
          exact ⟨s0, .agg #[.slice (some ⟨a, 0, none⟩) en en, .slice (some ⟨b, 0, none⟩) xn xn], s2, _, tabV D lv sv rv bx bn, s5, by simp only [Act.put, List.setIfInBounds_toArray, List.set_cons_zero, List.set_cons_succ], .inl (HG.out.t4 n1 n3 ho hb)⟩
        · refine wpOp_is rfl (fun K hK => ?_)
          simp only [Act.put, List.setIfInBounds_toArray, List.set_cons_zero, List.set_cons_succ]
          go_simp
          refine hK _ _ ?_
          exact ⟨s0, s1, s2, s3, s4, .pointer (some ⟨X.heap.size, 0, none⟩), by simp only [Act.put, List.setIfInBounds_toArray, List.set_cons_zero, List.set_cons_succ], .inl HG.out.t5⟩
        · have n4 := ready_needs hi (j := 4) (by kernel_rfl)
          have n5 := ready_needs hi (j := 5) (by kernel_rfl)
          obtain ⟨lv, sv, rv, bx, bn, R, rfl, ho⟩ := HG.out.g.t n4
          obtain ⟨H, rfl, hE⟩ := HG.out.g.b n5
          obtain ⟨la, lc, hl⟩ := own_any ho.l
          obtain ⟨sa, sc, hs⟩ := own_any ho.s
          obtain ⟨ra, rc, hr⟩ := own_any ho.ro
          obtain ⟨xa, xd, hx⟩ := own_any ho.x
          obtain ⟨na, nc, hn⟩ := own_any ho.n
          subst hl
          subst hs
          subst hr
          subst hx
          subst hn
          have LA := hid (HG.out.all n4 n5)
          have HT := hid (Lt.set HG.out.g.lw hE ho)
          obtain ⟨q0, q1, q2, q3, q4, q5, q6, q7⟩ := eight_cells hE.z
          have fz := six_fr hE.z
          have hbl := lt_of_block hE.z
          clear HG n4 n5 un hi ho hE e0 e1 e2 e3 e4 e5 el em
          refine wpOp_is rfl (fun K hK => ?_)
          simp only [Act.put, List.setIfInBounds_toArray, List.set_cons_zero, List.set_cons_succ]
          go_simp
          refine hK _ _ ?_
          exact ⟨s0, s1, s2, s3, tabV D (.slice la D.lv.length lc) (.slice sa D.st.length sc) (.slice ra D.rw.length rc) (.slice xa D.bt.ex.length xd) (.slice na D.bt.en.length nc), .pointer (some ⟨H, 0, none⟩), by simp only [Act.put, List.setIfInBounds_toArray, List.set_cons_zero, List.set_cons_succ], .inr ⟨LA.out, H, _, _, _, _, _, R, rfl, HT.out⟩⟩
      · rintro l b X ⟨s0, s1, s2, s3, s4, s5, rfl, hG | ⟨rfl, H, lv, sv, rv, bx, bn, R, rfl, hT⟩⟩ hr
        · have := all_up (by kernel_rfl) hG.z hr 6 (by decide)
          rw [hG.u] at this
          cases this
        · simp only [Act.put, List.setIfInBounds_toArray, List.set_cons_zero, List.set_cons_succ]
          go_wp2_with fail
          go_meet
          exact ⟨H, lv, sv, rv, bx, bn, R, rfl, hT⟩
    case rest =>
      obtain ⟨H, lv, sv, rv, bx, bn, R, rfl, hF⟩ := hcut
      have F0 := hid hF
      obtain ⟨⟨i0, i1⟩, _⟩ := KC.out hF.bx.tail
      clear hF c0 c1 u0 u1 u2 u3 cl ul
      go_upto_region 7 with (go_at_call 25; refine (T.out _ F0.out.bel.size (HX.out _ F0.out.bel)).mono ?_; rintro e w3 ⟨a3, b3, rfl, hs, ht, hb⟩; have F3 := hid (F0.out.below hb); have S3 := hid hs; have T3 := hid ht; have B3 := hid hb; clear hs ht hb)
      have hbW := below1 w3 (.cells #[.slice (some ⟨a3, 0, none⟩) en en, .slice (some ⟨b3, 0, none⟩) xn xn] 36)
      have F5 := hid ((Lt.lw F3.out).add #[.slice (some ⟨a3, 0, none⟩) en en, .slice (some ⟨b3, 0, none⟩) xn xn] 36)
      obtain ⟨W, hW⟩ : ∃ W, W = w3.alloc (.cells #[.slice (some ⟨a3, 0, none⟩) en en, .slice (some ⟨b3, 0, none⟩) xn xn] 36) := ⟨_, rfl⟩
      rw [← hW] at F5 hbW ⊢
      clear hW i0 i1
      have BW := hid hbW
      have SW : Hid (StatesOf W (some ⟨a3, 0, none⟩) en es ∧ TransOf W (some ⟨b3, 0, none⟩) xn xs) := hid ⟨S3.out.1.below hbW, S3.out.2.below hbW⟩
      obtain ⟨bs3, hbs3⟩ : ∃ b : BoxL, b = (w3.heap.size, #[.slice (some ⟨a3, 0, none⟩) en en, .slice (some ⟨b3, 0, none⟩) xn xn], 36) :: (H, tbA D lv sv rv bx bn, 46) :: bs := ⟨_, rfl⟩
      rw [← hbs3] at F5
      have I1 : Hid (bs3[0]? = some (w3.heap.size, #[.slice (some ⟨a3, 0, none⟩) en en, .slice (some ⟨b3, 0, none⟩) xn xn], 36)) := hid (by rw [hbs3]; rfl)
      have I2 : Hid (bs3[1]? = some (H, tbA D lv sv rv bx bn, 46)) := hid (by rw [hbs3]; rfl)
      have I3 : Hid (bs3[2]? = some (w.heap.size, #[.slice eo en ec, .slice xo xn xc], 76)) := hid (by rw [hbs3]; exact G0.out)
      have I4 : Hid (bs3[3]? = some (w.heap.size + 1, #[.int .i64 o, .int .i64 s, .int .i64 t, .int .i64 v], 77)) := hid (by rw [hbs3]; exact G1.out)
      have I9 : Hid (∀ X, Boxes bs3 X → Boxes bs X) := hid (fun X h => by rw [hbs3] at h; exact h.tail.tail)
      have FB3 : Hid (FarT bs3) := hid (by rw [hbs3]; exact (FB.out.add (by decide)).add (by decide))
      have L5 : Hid (Lw W bs3 W) := hid ⟨Below.refl _ _, F5.out.bx⟩
      have KC3 : Hid (∀ {X : World}, Boxes bs3 X → C6 w3.heap.size (w.heap.size + 1) (.slice (some ⟨a3, 0, none⟩) en en) (.slice (some ⟨b3, 0, none⟩) xn xn) (.int .i64 o) (.int .i64 s) (.int .i64 t) (.int .i64 v) X) := hid (fun h => c6 h 0 3 I1.out I4.out)
      obtain ⟨⟨c0, c1⟩, ⟨u0, u1, u2, u3⟩⟩ := KC3.out F5.out.bx
      have cl := lt_of_block (F5.out.bx.at 0 I1.out)
      have ul := lt_of_block (F5.out.bx.at 3 I4.out)
      clear hbs3 hbW
      go_cut [8] (fun s8 wx => ∃ HG l2 s2 r2 x2 n2 R2, s8 = .pointer (some ⟨HG, 0, none⟩) ∧ Lt W ((HG, tbA D l2 s2 r2 x2 n2, 46) :: bs3) D l2 s2 r2 x2 n2 R2 wx)
      case first =>
        refine wp_region_inv_at (fun A l a X => ∃ s0 s1 s2 s3 s4, a = (((((A.put (some 25) s0).put (some 26) s1).put (some 27) s2).put (some 28) s3).put (some 8) s4) ∧ (G6 W bs3 D en xn es xs (.agg #[.slice (some ⟨a3, 0, none⟩) en en, .slice (some ⟨b3, 0, none⟩) xn xn]) (.agg #[.int .i64 o, .int .i64 s, .int .i64 t, .int .i64 v]) l s0 s1 s2 s3 s4 X ∨ (l = Array.replicate 6 true ∧ ∃ H lv sv rv bx bn R, s4 = .pointer (some ⟨H, 0, none⟩) ∧ Lt W ((H, tbA D lv sv rv bx bn, 46) :: bs3) D lv sv rv bx bn R X))) (by kernel_rfl) ?_ ?_ ?_
        · exact ⟨u25, u26, u27, u28, undef, by simp only [Act.put, List.setIfInBounds_toArray, List.set_cons_zero, List.set_cons_succ], .inl (g6_start (L5.out.below ((Below.refl _ _).drew)))⟩
        · rintro l b X i ⟨s0, s1, s2, s3, s4, rfl, hG | ⟨rfl, _⟩⟩ hi
          case inr => exact absurd hi (List.not_mem_nil (a := i))
          have hlt : i < 6 := ready_lt hi
          have HG := hid hG
          have un := ready_un hi
          obtain ⟨⟨e0, e1⟩, ⟨e2, e3, e4, e5⟩⟩ := KC3.out hG.g.lw.bx
          have el := lt_of_block (hG.g.lw.bx.at 0 I1.out)
          have em := lt_of_block (hG.g.lw.bx.at 3 I4.out)
          clear hG c0 c1 u0 u1 u2 u3 cl ul
          rcases (show i = 0 ∨ i = 1 ∨ i = 2 ∨ i = 3 ∨ i = 4 ∨ i = 5 by omega) with rfl | rfl | rfl | rfl | rfl | rfl
          · refine wpOp_is rfl (fun K hK => ?_)
            simp only [Act.put, List.setIfInBounds_toArray, List.set_cons_zero, List.set_cons_succ]
            go_simp
            refine hK _ _ ?_
            exact ⟨_, s1, s2, s3, s4, by simp only [Act.put, List.setIfInBounds_toArray, List.set_cons_zero, List.set_cons_succ], .inl HG.out.t0⟩
          · refine wpOp_is rfl (fun K hK => ?_)
            simp only [Act.put, List.setIfInBounds_toArray, List.set_cons_zero, List.set_cons_succ]
            go_simp
            refine hK _ _ ?_
            exact ⟨s0, _, s2, s3, s4, by simp only [Act.put, List.setIfInBounds_toArray, List.set_cons_zero, List.set_cons_succ], .inl HG.out.t1⟩
          · have n1 := ready_needs hi (j := 1) (by kernel_rfl)
            obtain rfl := HG.out.a1 n1
            refine wpOp_is rfl (fun K hK => ?_)
            simp only [Act.put, List.setIfInBounds_toArray, List.set_cons_zero, List.set_cons_succ]
            go_simp
            refine (toLimits_any o s t v _).mono ?_
            rintro e y3 ⟨rfl, hb⟩
            refine hK _ _ ?_
            exact ⟨s0, _, _, s3, s4, by simp only [Act.put, List.setIfInBounds_toArray, List.set_cons_zero, List.set_cons_succ], .inl (HG.out.t2 n1 hb)⟩
          · have n0 := ready_needs hi (j := 0) (by kernel_rfl)
            have n2 := ready_needs hi (j := 2) (by kernel_rfl)
            obtain rfl := HG.out.a0 n0
            obtain rfl := HG.out.a2 n2
            refine wpOp_is rfl (fun K hK => ?_)
            simp only [Act.put, List.setIfInBounds_toArray, List.set_cons_zero, List.set_cons_succ]
            go_simp
            refine (IM.out a3 b3 _ ⟨SW.out.1.below HG.out.g.lw.bel, SW.out.2.below HG.out.g.lw.bel⟩).mono ?_
            rintro e y3 ⟨lv, sv, rv, bx, bn, R, rfl, ho, hb⟩
            refine hK _ _ ?_
            exact ⟨_, s1, _, tabV D lv sv rv bx bn, s4, by simp only [Act.put, List.setIfInBounds_toArray, List.set_cons_zero, List.set_cons_succ], .inl (HG.out.t3 n0 n2 ho hb)⟩
          · refine wpOp_is rfl (fun K hK => ?_)
            simp only [Act.put, List.setIfInBounds_toArray, List.set_cons_zero, List.set_cons_succ]
            go_simp
            refine hK _ _ ?_
            exact ⟨s0, s1, s2, s3, .pointer (some ⟨X.heap.size, 0, none⟩), by simp only [Act.put, List.setIfInBounds_toArray, List.set_cons_zero, List.set_cons_succ], .inl HG.out.t4⟩
          · have n4 := ready_needs hi (j := 3) (by kernel_rfl)
            have n5 := ready_needs hi (j := 4) (by kernel_rfl)
            obtain ⟨lv, sv, rv, bx, bn, R, rfl, ho⟩ := HG.out.g.t n4
            obtain ⟨H, rfl, hE⟩ := HG.out.g.b n5
            obtain ⟨la, lc, hl⟩ := own_any ho.l
            obtain ⟨sa, sc, hs⟩ := own_any ho.s
            obtain ⟨ra, rc, hr⟩ := own_any ho.ro
            obtain ⟨xa, xd, hx⟩ := own_any ho.x
            obtain ⟨na, nc, hn⟩ := own_any ho.n
            subst hl
            subst hs
            subst hr
            subst hx
            subst hn
            have LA := hid (HG.out.all n4 n5)
            have HT := hid (Lt.set HG.out.g.lw hE ho)
            obtain ⟨q0, q1, q2, q3, q4, q5, q6, q7⟩ := eight_cells hE.z
            have fz := six_fr hE.z
            have hbl := lt_of_block hE.z
            clear HG n4 n5 un hi ho hE e0 e1 e2 e3 e4 e5 el em
            refine wpOp_is rfl (fun K hK => ?_)
            simp only [Act.put, List.setIfInBounds_toArray, List.set_cons_zero, List.set_cons_succ]
            go_simp
            refine hK _ _ ?_
            exact ⟨s0, s1, s2, tabV D (.slice la D.lv.length lc) (.slice sa D.st.length sc) (.slice ra D.rw.length rc) (.slice xa D.bt.ex.length xd) (.slice na D.bt.en.length nc), .pointer (some ⟨H, 0, none⟩), by simp only [Act.put, List.setIfInBounds_toArray, List.set_cons_zero, List.set_cons_succ], .inr ⟨LA.out, H, _, _, _, _, _, R, rfl, HT.out⟩⟩
        · rintro l b X ⟨s0, s1, s2, s3, s4, rfl, hG | ⟨rfl, H, lv, sv, rv, bx, bn, R, rfl, hT⟩⟩ hr
          · have := all_up (by kernel_rfl) hG.z hr 5 (by decide)
            rw [hG.u] at this
            cases this
          · simp only [Act.put, List.setIfInBounds_toArray, List.set_cons_zero, List.set_cons_succ]
            go_wp2_with fail
            go_meet
            exact ⟨H, lv, sv, rv, bx, bn, R, rfl, hT⟩
      case rest =>
        obtain ⟨HG, l2, s2, r2, x2, n2, R2, rfl, hI⟩ := hcut
        have U5 := hid (mkLtB F0.out B3.out T3.out BW.out hI)
        have BX := hid hI.bel
        have FB4 : Hid (FarT ((HG, tbA D l2 s2 r2 x2 n2, 46) :: bs3)) := hid (FB3.out.add (by decide))
        obtain ⟨j0, j1, j2, j3, j4, j5, j6, j7⟩ := eight_cells (hI.bx.at 0 rfl)
        obtain ⟨k0, k1, k2, k3, k4, k5, k6, k7⟩ := eight_cells (hI.bx.at 2 I2.out)
        clear hI c0 c1 u0 u1 u2 u3 cl ul
        go_upto_region 10 with (go_at_call 27; refine (eqTable_same D _ _ _ _ _ _ _ _ _ _ _ _ _ TF.out.1 U5.out.oi.tab U5.out.os.tab).mono ?_; rintro e w7 ⟨rfl, hb⟩; have U7 := hid (U5.out.below hb); have BX7 := hid (BX.out.trans (hb.mono BX.out.size)); clear hb)
        have D7 := hid (U7.out.below ((Below.refl _ _).drew))
        have DX : Hid (Below W.heap.size W w7.drew) := hid (BX7.out.drew)
        have M7 : Hid (∀ {X : World}, Boxes ((HG, tbA D l2 s2 r2 x2 n2, 46) :: bs3) X → ((X.cell? ⟨w3.heap.size, 0, none⟩ = some (.slice (some ⟨a3, 0, none⟩) en en) ∧ X.cell? ⟨w3.heap.size, 1, none⟩ = some (.slice (some ⟨b3, 0, none⟩) xn xn)) ∧ (X.cell? ⟨w.heap.size, 0, none⟩ = some (.slice eo en ec) ∧ X.cell? ⟨w.heap.size, 1, none⟩ = some (.slice xo xn xc)))) := hid (fun h => ⟨two_cells' (h.at 1 I1.out), two_cells' (h.at 3 I3.out)⟩)
        obtain ⟨⟨c0, c1⟩, ⟨d0, d1⟩⟩ := M7.out U7.out.bx
        clear j0 j1 j2 j3 j4 j5 j6 j7 k0 k1 k2 k3 k4 k5 k6 k7
        go_region_held3 (fun X => (X.cell? ⟨w3.heap.size, 0, none⟩ = some (.slice (some ⟨a3, 0, none⟩) en en) ∧ X.cell? ⟨w3.heap.size, 1, none⟩ = some (.slice (some ⟨b3, 0, none⟩) xn xn)) ∧ (X.cell? ⟨w.heap.size, 0, none⟩ = some (.slice eo en ec) ∧ X.cell? ⟨w.heap.size, 1, none⟩ = some (.slice xo xn xc)))
          (first | with_reducible exact M7.out UB.out.bx | with_reducible exact M7.out UA.out.bx | with_reducible exact M7.out D7.out.bx)
          (first
          | (go_at_call 25; refine (T.out _ D7.out.bel.size (HX.out _ D7.out.bel)).mono ?_; rintro e wa ⟨ga, gb, rfl, hs, _, hb⟩; have UA := hid (D7.out.below hb); have SA := hid hs; have XA := hid (DX.out.trans (hb.mono DX.out.size)); clear hs hb)
          | (go_at_call 28; refine (eqChart_same _ _ _ _ _ _ _ _ _ _ es xs _ FE.out FX.out (SW.out.1.below XA.out) (SW.out.2.below XA.out) SA.out.1 SA.out.2).mono ?_; rintro e wb ⟨rfl, hb⟩; have UB := hid (UA.out.below hb); clear hb))
        all_goals
          clear c0 c1 d0 d1
          obtain ⟨c0, c1⟩ := two_cells' (UB.out.bx.at 1 I1.out)
          go_wp2_with (go_at_call 29; refine (markChart_bd w.heap.size _ _ es xs _ HWT.out UB.out.tt UB.out.tr).mono ?_; rintro e we ⟨kd, rfl, hkd, hm⟩; have UE := hid ((UB.out.below (below1 _ _)).mk' FB4.out hm); have ke0 : ¬ (kd : Int) < 0 := (by omega); have ke1 : decide ((kd : Int) < 0) = false := (by simpa using ke0); obtain ⟨j0, j1, j2, j3, j4, j5, j6, j7⟩ := eight_cells (UE.out.bx.at 0 rfl); obtain ⟨k0, k1, k2, k3, k4, k5, k6, k7⟩ := eight_cells (UE.out.bx.at 2 I2.out); clear hm hkd)
          go_wp2_with (go_at_call 27; refine (eqTable_same D _ _ _ _ _ _ _ _ _ _ _ _ _ TF.out.1 UE.out.oi.tab UE.out.os.tab).mono ?_; rintro e wf ⟨rfl, hb⟩; have UF := hid (UE.out.below hb); obtain ⟨n0, n1, n2', n3, n4, n5, n6, n7⟩ := eight_cells (UF.out.bx.at 0 rfl); clear hb)
          clear j0 j1 j2 j3 j4 j5 j6 j7 k0 k1 k2 k3 k4 k5 k6 k7 c0 c1
          go_wp2_with (go_at_call 30; refine (markTab UF.out.oi MB.out).mono ?_; rintro e wg ⟨rfl, hm, hP⟩; have ZG := hid (UF.out.marked FB4.out hP); have MG := hid hm; obtain ⟨o0, o1, o2, o3, o4, o5, o6, o7⟩ := eight_cells (ZG.out.bx.at 0 rfl); clear hm hP)
          clear n0 n1 n2' n3 n4 n5 n6 n7
          go_upto_region 24 with (go_at_call 31; refine (heldTab MG.out MB.out).mono ?_; rintro e wh ⟨rfl, hb⟩; have ZI := hid (ZG.out.below hb); clear hb)
          clear o0 o1 o2 o3 o4 o5 o6 o7
          have BH := hid ZI.out.bel
          have LH : Hid (Lw wh bs wh) := hid ⟨Below.refl _ _, I9.out _ ZI.out.bx.tail⟩
          obtain ⟨⟨c0, c1⟩, ⟨u0, u1, u2, u3⟩⟩ := KC.out LH.out.bx
          have cl := lt_of_block (LH.out.bx.at 0 G0.out)
          have ul := lt_of_block (LH.out.bx.at 1 G1.out)
          have HB : Hid (∀ X, Below wh.heap.size wh X → Below w.heap.size w X) := hid (fun X h => BH.out.trans (h.mono BH.out.size))
          go_cut [12] (fun s12 wx => ∃ H2 l9 s9 r9 x9 n9 R9, s12 = .pointer (some ⟨H2, 0, none⟩) ∧ Lt wh ((H2, tbA D l9 s9 r9 x9 n9, 46) :: bs) D l9 s9 r9 x9 n9 R9 wx)
          case first =>
            refine wp_region_inv_at (fun A l a X => ∃ s0 s1 s2 s3 s4 s5, a = ((((((A.put (some 60) s0).put (some 61) s1).put (some 62) s2).put (some 63) s3).put (some 64) s4).put (some 12) s5) ∧ (G7 wh bs D en xn es xs (.agg #[.slice eo en ec, .slice xo xn xc]) (.agg #[.int .i64 o, .int .i64 s, .int .i64 t, .int .i64 v]) l s0 s1 s2 s3 s4 s5 X ∨ (l = Array.replicate 7 true ∧ ∃ H lv sv rv bx bn R, s5 = .pointer (some ⟨H, 0, none⟩) ∧ Lt wh ((H, tbA D lv sv rv bx bn, 46) :: bs) D lv sv rv bx bn R X))) (by kernel_rfl) ?_ ?_ ?_
            · exact ⟨u60, u61, u62, u63, u64, undef, by simp only [Act.put, List.setIfInBounds_toArray, List.set_cons_zero, List.set_cons_succ], .inl (g7_start (LH.out.below ((Below.refl _ _).drew)))⟩
            · rintro l b X i ⟨s0, s1, s2, s3, s4, s5, rfl, hG | ⟨rfl, _⟩⟩ hi
              case inr => exact absurd hi (List.not_mem_nil (a := i))
              have hlt : i < 7 := ready_lt hi
              have HG := hid hG
              have un := ready_un hi
              obtain ⟨⟨e0, e1⟩, ⟨e2, e3, e4, e5⟩⟩ := KC.out hG.g.lw.bx
              have el := lt_of_block (hG.g.lw.bx.at 0 G0.out)
              have em := lt_of_block (hG.g.lw.bx.at 1 G1.out)
              clear hG c0 c1 u0 u1 u2 u3 cl ul
              rcases (show i = 0 ∨ i = 1 ∨ i = 2 ∨ i = 3 ∨ i = 4 ∨ i = 5 ∨ i = 6 by omega) with rfl | rfl | rfl | rfl | rfl | rfl | rfl
              · refine wpOp_is rfl (fun K hK => ?_)
                simp only [Act.put, List.setIfInBounds_toArray, List.set_cons_zero, List.set_cons_succ]
                go_simp
                refine hK _ _ ?_
                exact ⟨_, s1, s2, s3, s4, s5, by simp only [Act.put, List.setIfInBounds_toArray, List.set_cons_zero, List.set_cons_succ], .inl HG.out.t0⟩
              · have n0 := ready_needs hi (j := 0) (by kernel_rfl)
                obtain rfl := HG.out.a0 n0
                refine wpOp_is rfl (fun K hK => ?_)
                simp only [Act.put, List.setIfInBounds_toArray, List.set_cons_zero, List.set_cons_succ]
                go_simp
                refine (T.out _ (HB.out _ HG.out.g.lw.bel).size (HX.out _ (HB.out _ HG.out.g.lw.bel))).mono ?_
                rintro e w3 ⟨a, b, rfl, hs, _, hb⟩
                refine hK _ _ ?_
                exact ⟨_, .agg #[.slice (some ⟨a, 0, none⟩) en en, .slice (some ⟨b, 0, none⟩) xn xn], s2, s3, s4, s5, by simp only [Act.put, List.setIfInBounds_toArray, List.set_cons_zero, List.set_cons_succ], .inl (HG.out.t1 n0 hs hb)⟩
              · refine wpOp_is rfl (fun K hK => ?_)
                simp only [Act.put, List.setIfInBounds_toArray, List.set_cons_zero, List.set_cons_succ]
                go_simp
                refine hK _ _ ?_
                exact ⟨s0, s1, _, s3, s4, s5, by simp only [Act.put, List.setIfInBounds_toArray, List.set_cons_zero, List.set_cons_succ], .inl HG.out.t2⟩
              · have n2 := ready_needs hi (j := 2) (by kernel_rfl)
                obtain rfl := HG.out.a2 n2
                refine wpOp_is rfl (fun K hK => ?_)
                simp only [Act.put, List.setIfInBounds_toArray, List.set_cons_zero, List.set_cons_succ]
                go_simp
                refine (toLimits_any o s t v _).mono ?_
                rintro e w3 ⟨rfl, hb⟩
                refine hK _ _ ?_
                exact ⟨s0, s1, _, _, s4, s5, by simp only [Act.put, List.setIfInBounds_toArray, List.set_cons_zero, List.set_cons_succ], .inl (HG.out.t3 n2 hb)⟩
              · have n1 := ready_needs hi (j := 1) (by kernel_rfl)
                have n3 := ready_needs hi (j := 3) (by kernel_rfl)
                obtain rfl := HG.out.a3 n3
                obtain ⟨a, b, rfl, h1, h2⟩ := HG.out.g.c n1
                refine wpOp_is rfl (fun K hK => ?_)
                simp only [Act.put, List.setIfInBounds_toArray, List.set_cons_zero, List.set_cons_succ]
                go_simp
                refine (IM.out a b _ ⟨h1, h2⟩).mono ?_
                rintro e w3 ⟨lv, sv, rv, bx, bn, R, rfl, ho, hb⟩
                refine hK _ _ ?_
                exact ⟨s0, .agg #[.slice (some ⟨a, 0, none⟩) en en, .slice (some ⟨b, 0, none⟩) xn xn], s2, _, tabV D lv sv rv bx bn, s5, by simp only [Act.put, List.setIfInBounds_toArray, List.set_cons_zero, List.set_cons_succ], .inl (HG.out.t4 n1 n3 ho hb)⟩
              · refine wpOp_is rfl (fun K hK => ?_)
                simp only [Act.put, List.setIfInBounds_toArray, List.set_cons_zero, List.set_cons_succ]
                go_simp
                refine hK _ _ ?_
                exact ⟨s0, s1, s2, s3, s4, .pointer (some ⟨X.heap.size, 0, none⟩), by simp only [Act.put, List.setIfInBounds_toArray, List.set_cons_zero, List.set_cons_succ], .inl HG.out.t5⟩
              · have n4 := ready_needs hi (j := 4) (by kernel_rfl)
                have n5 := ready_needs hi (j := 5) (by kernel_rfl)
                obtain ⟨lv, sv, rv, bx, bn, R, rfl, ho⟩ := HG.out.g.t n4
                obtain ⟨H, rfl, hE⟩ := HG.out.g.b n5
                obtain ⟨la, lc, hl⟩ := own_any ho.l
                obtain ⟨sa, sc, hs⟩ := own_any ho.s
                obtain ⟨ra, rc, hr⟩ := own_any ho.ro
                obtain ⟨xa, xd, hx⟩ := own_any ho.x
                obtain ⟨na, nc, hn⟩ := own_any ho.n
                subst hl
                subst hs
                subst hr
                subst hx
                subst hn
                have LA := hid (HG.out.all n4 n5)
                have HT := hid (Lt.set HG.out.g.lw hE ho)
                obtain ⟨q0, q1, q2, q3, q4, q5, q6, q7⟩ := eight_cells hE.z
                have fz := six_fr hE.z
                have hbl := lt_of_block hE.z
                clear HG n4 n5 un hi ho hE e0 e1 e2 e3 e4 e5 el em
                refine wpOp_is rfl (fun K hK => ?_)
                simp only [Act.put, List.setIfInBounds_toArray, List.set_cons_zero, List.set_cons_succ]
                go_simp
                refine hK _ _ ?_
                exact ⟨s0, s1, s2, s3, tabV D (.slice la D.lv.length lc) (.slice sa D.st.length sc) (.slice ra D.rw.length rc) (.slice xa D.bt.ex.length xd) (.slice na D.bt.en.length nc), .pointer (some ⟨H, 0, none⟩), by simp only [Act.put, List.setIfInBounds_toArray, List.set_cons_zero, List.set_cons_succ], .inr ⟨LA.out, H, _, _, _, _, _, R, rfl, HT.out⟩⟩
            · rintro l b X ⟨s0, s1, s2, s3, s4, s5, rfl, hG | ⟨rfl, H, lv, sv, rv, bx, bn, R, rfl, hT⟩⟩ hr
              · have := all_up (by kernel_rfl) hG.z hr 6 (by decide)
                rw [hG.u] at this
                cases this
              · simp only [Act.put, List.setIfInBounds_toArray, List.set_cons_zero, List.set_cons_succ]
                go_wp2_with fail
                go_meet
                exact ⟨H, lv, sv, rv, bx, bn, R, rfl, hT⟩
          case rest =>
            obtain ⟨H2, l9, s9, r9, x9, n9, R9, rfl, hF2⟩ := hcut
            have N0 := hid hF2
            have ZC := hid (ZI.out.below hF2.bel)
            obtain ⟨j0, j1, j2, j3, j4, j5, j6, j7⟩ := eight_cells (hF2.bx.at 0 rfl)
            obtain ⟨k0, k1, k2, k3, k4, k5, k6, k7⟩ := eight_cells (ZC.out.bx.at 2 I2.out)
            clear hF2 c0 c1 u0 u1 u2 u3 cl ul
            go_wp2_with (go_at_call 27; refine (eqTable_same D _ _ _ _ _ _ _ _ _ _ _ _ _ TF.out.1 N0.out.o.tab ZC.out.o.tab).mono ?_; rintro e wk ⟨rfl, hb⟩; have ZE := hid (ZC.out.below hb); clear hb)
            go_ret
            exact ⟨rfl, ZE.out.bel⟩
end Go.Proofs.YtiimkhepplkocaaGreat
