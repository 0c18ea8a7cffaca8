import Derived.Test.YthaklmdhkkfigaaGreatKl
import Derived.Test.YthaklmdhkkfigaaGreatPc
namespace Go.Proofs.YthaklmdhkkfigaaGreat
open Go.RowKit Go.Sort
set_option linter.unusedVariables false
attribute [local go_sem ↓] Go.wp_at_zero Go.wp_at_succ

theorem publishK_no {sg sig arg : Int} {os : List ObD} {ts : List (Int × Int)} {kd : KerD} (h : kerB sg os ts kd = false) : publishK sg os ts kd sig arg = (kd0, []) := by unfold publishK; rw [h]; rfl
theorem publishK_small (sg : Int) (os : List ObD) (ts : List (Int × Int)) (kd : KerD) (sig arg : Int) (hf : FitsKer kd) : Small (publishK sg os ts kd sig arg) := by
  cases hy : kerB sg os ts kd with
  | false => rw [publishK_no hy]; exact small_no
  | true =>
    unfold publishK
    rw [if_pos hy]
    obtain ⟨l, ⟨_, ⟨_, o⟩, n⟩, _⟩ := ker_parts hy
    split
    · have g := pbi (ker_qok hy) (sig, arg) (pubL os sig) (pubL os sig).length (Nat.le_refl _)
      rw [List.take_length] at g
      have h2 := pubL_len (sys_p hy) sig
      exact ⟨pb_fits hy hf _ _, by rw [g.v, l.1.2.1]; exact o, by rw [g.q, l.1.2.2.1]; exact o, by rw [g.d, l.1.2.2.2]; exact o, by have := g.r; omega⟩
    · exact putK_small hy (SameK.refl kd) hf _ (by simp)
theorem specPublish_any (sg : Int) (sig arg : Int) (eo xo : Option Addr) (en ec xn xc : Nat) (os : List ObD) (ts : List (Int × Int)) (h : KerS) (kd : KerD) (w : World) (hen : en ≤ 9223372036854775807) (hec : en ≤ ec) (hxn : xn ≤ 9223372036854775807) (hm : KerMax h) (hf : FitsKer kd) (he : ObsOf w eo en os) (hx : ItemsOf w xo xn ts) (hk : KerOf w h kd) :
    Calls Tryz.prog 20 #[sysV sg eo xo en ec xn xc, kerV h, .int .i64 sig, .int .i64 arg] w fun e w' => Ans w w' e (publishK sg os ts kd sig arg) := by
  cases hy : kerB sg os ts kd with
  | true => exact specPublish_yes sg sig arg eo xo en ec xn xc os ts h kd w hen hec hxn hm hf he hx hk hy
  | false =>
    rw [publishK_no hy]
    exact specPublish_no sg sig arg eo xo en ec xn xc os ts h kd w hen hec hxn hm he hx hk hy
theorem implPublish_any (sg : Int) (sig arg : Int) (eo xo : Option Addr) (en ec xn xc : Nat) (os : List ObD) (ts : List (Int × Int)) (h : KerS) (kd : KerD) (w : World) (hen : en ≤ 9223372036854775807) (hec : en ≤ ec) (hxn : xn ≤ 9223372036854775807) (hm : KerMax h) (hf : FitsKer kd) (hfo : FitsObs os) (he : ObsOf w eo en os) (hx : ItemsOf w xo xn ts) (hk : KerOf w h kd) :
    Calls Tryz.prog 21 #[sysV sg eo xo en ec xn xc, kerV h, .int .i64 sig, .int .i64 arg] w fun e w' => AnsI w w' e (publishK sg os ts kd sig arg) := by
  cases hy : kerB sg os ts kd with
  | true => exact implPublish_yes sg sig arg eo xo en ec xn xc os ts h kd w hen hec hxn hm hf hfo he hx hk hy
  | false =>
    rw [publishK_no hy]
    exact implPublish_no sg sig arg eo xo en ec xn xc os ts h kd w hen hec hxn hm he hx hk hy

set_option maxRecDepth 100000 in
set_option maxHeartbeats 16000000 in
theorem lawPublish (sg : Int) (sig arg : Int) (eo xo : Option Addr) (en ec xn xc : Nat) (es : List ObD) (xs : List (Int × Int)) (h : KerS) (kd : KerD) (w : World) (hen : en ≤ 9223372036854775807) (hxn : xn ≤ 9223372036854775807) (hm : KerMax h) (he : ObsOf w eo en es) (hx : ItemsOf w xo xn xs) (hk : KerOf w h kd) :
    Calls Tryz.prog 4 #[.agg #[.int .i64 sg, .slice eo en ec, .slice xo xn xc], kerV h, .int .i64 sig, .int .i64 arg] w fun e w' => e = .returned (.bool true) ∧ Below w.heap.size w w' := by
  have HX : Hid (∀ w', Below w.heap.size w w' → ObsOf w' eo en es ∧ ItemsOf w' xo xn xs ∧ KerOf w' h kd) := fun w' hb => ⟨he.below hb, hx.below hb, hk.below hb⟩
  have SZ := hid (fun left w h0 h1 hk => szKernel_any h kd left w hm h0 h1 hk)
  have TK := hid (fun w hf hk => toKernel_any h kd w hf hk)
  have TKF := hid (fun K w hK hf hk => toKernel_f h kd K w hK hf hk)
  obtain ⟨r, hr⟩ : ∃ r, r = publishK sg es xs kd sig arg := ⟨_, rfl⟩
  have SP := hid (fun so tt w g1 g2 g3 g4 g5 g6 hf (a : ObsOf w so en es) (b : ItemsOf w tt xn xs) c => specPublish_any sg sig arg so tt en en xn xn es xs (cpK h g1 g2 g3 g4 g5 g6) kd w hen (Nat.le_refl _) hxn (kerMax_cp hm _ _ _ _ _ _) hf a b c)
  have IM := hid (fun so tt w g1 g2 g3 g4 g5 g6 hf hfo (a : ObsOf w so en es) (b : ItemsOf w tt xn xs) c => implPublish_any sg sig arg so tt en en xn xn es xs (cpK h g1 g2 g3 g4 g5 g6) kd w hen (Nat.le_refl _) hxn (kerMax_cp hm _ _ _ _ _ _) hf hfo a b c)
  have EK := hid (fun w hf g1 g2 g3 g4 g5 g6 k1 k2 k3 k4 k5 k6 a b => eqKernel_same (cpK h g1 g2 g3 g4 g5 g6) (cpK h k1 k2 k3 k4 k5 k6) kd w hf a b)
  rw [← hr] at SP IM
  have SM := hid (fun hf => publishK_small sg es xs kd sig arg hf)
  rw [← hr] at SM
  obtain ⟨lo, ln, lc, vo, vn, vc, qo, qn, qc, po, pn, pc, fo, fn, fc, go, gn, gc⟩ := h
  have EN := hid (lkbox_start w #[.int .i64 sg, .slice eo en ec, .slice xo xn xc] #[.slice lo ln lc, .slice vo vn vc, .slice qo qn qc, .slice po pn pc, .slice fo fn fc, .slice go gn gc])
  have C := hid (szSystem_any sg eo xo en ec xn xc es 1048576 _ hen hxn (by omega) (by omega) (he.below EN.out.bel))
  unfold kerV at SZ TK TKF SP IM EK ⊢
  unfold sysV at SP IM
  unfold cpK at TK TKF SP IM EK
  dsimp only at SZ TK TKF SP IM EK ⊢
  by_cases hbig : (1048576 : Int) < ((wObs es + xn : Nat) : Int)
  · rw [szOut_no hbig] at C
    clear he hx hbig hk hm SZ TK TKF SP IM EK SM hr
    go_enter Tryz.func4, Tryz.ntmps4
    go_wp2_with (go_at_call 6; refine C.out.mono ?_; rintro e w1 ⟨rfl, hb1⟩; have B1 := hid (EN.out.below hb1); clear hb1)
    go_ret
    exact ⟨rfl, B1.out.bel⟩
  obtain ⟨q, hq⟩ : ∃ q : Int, q = 1048576 - ((wObs es + xn : Nat) : Int) := ⟨_, rfl⟩
  rw [szOut_yes hbig, ← hq] at C
  have hq0 : ¬ q < 0 := by omega
  have fe : FitsObs es := fitsObs_of (by omega)
  have fx : xn ≤ 1048576 := by omega
  have SZ2 := hid (fun w hk => SZ.out q w (by omega) (by omega) hk)
  by_cases hbk : q < (wKer kd : Int)
  · rw [szOut_no hbk] at SZ2
    clear he hx hbig hk hm SZ TK TKF SP IM EK SM hr hq fe fx hbk
    go_enter Tryz.func4, Tryz.ntmps4
    go_wp2_with (first
      | (go_at_call 6; refine C.out.mono ?_; rintro e w1 ⟨rfl, hb1⟩; have B1 := hid (EN.out.below hb1); obtain ⟨q0, q1, q2, q3, q4, q5⟩ := six_cells B1.out.ke; clear hb1)
      | (go_at_call 7; refine (SZ2.out _ (HX.out _ B1.out.bel).2.2).mono ?_; rintro e w2 ⟨rfl, hb2⟩; have B2 := hid (B1.out.below hb2); clear hb2))
    go_ret
    exact ⟨rfl, B2.out.bel⟩
  obtain ⟨q2, hq2⟩ : ∃ q2 : Int, q2 = q - (wKer kd : Int) := ⟨_, rfl⟩
  rw [szOut_yes hbk, ← hq2] at SZ2
  have hq20 : ¬ q2 < 0 := by omega
  have WB : Hid (wObs es + xn ≤ 1048576 ∧ wKer kd ≤ 1048576) := hid (by omega)
  have FK := hid (fitsKer_of (k := kd) (by omega))
  have SMA := hid (SM.out FK.out)
  have T := hid (fun w (a : ObsOf w eo en es) (b : ItemsOf w xo xn xs) => toSystem_any sg eo xo en ec xn xc es xs w fe fx a b)
  have TF := hid (fun K w hK (a : ObsOf w eo en es) (b : ItemsOf w xo xn xs) => toSystem_f sg eo xo en ec xn xc es xs K w hK fe fx a b)
  have FE := hid fe
  have FX := hid fx
  clear he hx hbig hk hm SZ hq hq2 hbk fe fx hr SM
  go_enter Tryz.func4, Tryz.ntmps4
  go_upto_region 8 with (first
    | (go_at_call 6; refine C.out.mono ?_; rintro e w1 ⟨rfl, hb1⟩; have B1 := hid (EN.out.below hb1); obtain ⟨q0, q1, q2, q3, q4, q5⟩ := six_cells B1.out.ke; clear hb1)
    | (go_at_call 7; refine (SZ2.out _ (HX.out _ B1.out.bel).2.2).mono ?_; rintro e w2 ⟨rfl, hb2⟩; have B2 := hid (B1.out.below hb2); clear hb2))
  have X1 := hid (B2.out.below (Below.refl _ _).drew)
  have X2 := hid (B2.out.below ((below1 w2 OZ).drew))
  have E2 : Hid (Lz w w2.heap.size (w2.alloc OZ).drew) := hid ⟨(lz_new B2.out).z, (lz_new B2.out).gt⟩
  obtain ⟨a0, a1, a2⟩ := three_cells B2.out.sy
  obtain ⟨c0, c1, c2, c3, c4, c5⟩ := six_cells B2.out.ke
  have l0 := lt_of_block B2.out.sy
  have l1 := lt_of_block B2.out.ke
  clear q0 q1 q2 q3 q4 q5
  have KC : Hid (∀ Y, LKBox w Y #[.int .i64 sg, .slice eo en ec, .slice xo xn xc] #[.slice lo ln lc, .slice vo vn vc, .slice qo qn qc, .slice po pn pc, .slice fo fn fc, .slice go gn gc] → (Y.cell? ⟨w.heap.size, 0, none⟩ = some (.int .i64 sg) ∧ Y.cell? ⟨w.heap.size, 1, none⟩ = some (.slice eo en ec) ∧ Y.cell? ⟨w.heap.size, 2, none⟩ = some (.slice xo xn xc)) ∧ (Y.cell? ⟨w.heap.size + 1, 0, none⟩ = some (.slice lo ln lc) ∧ Y.cell? ⟨w.heap.size + 1, 1, none⟩ = some (.slice vo vn vc) ∧ Y.cell? ⟨w.heap.size + 1, 2, none⟩ = some (.slice qo qn qc) ∧ Y.cell? ⟨w.heap.size + 1, 3, none⟩ = some (.slice po pn pc) ∧ Y.cell? ⟨w.heap.size + 1, 4, none⟩ = some (.slice fo fn fc) ∧ Y.cell? ⟨w.heap.size + 1, 5, none⟩ = some (.slice go gn gc))) := hid (fun Y h => And.intro (three_cells h.sy) (six_cells h.ke))
  go_cut [10, 11] (fun s12 s13 wx => ∃ (H12 : Nat) (k12 : KerS) (ra : Option Addr) (rn rc : Nat), s12 = .pointer (some ⟨H12, 0, none⟩) ∧ s13 = .slice ra rn rc ∧ LP w #[.int .i64 sg, .slice eo en ec, .slice xo xn xc] #[.slice lo ln lc, .slice vo vn vc, .slice qo qn qc, .slice po pn pc, .slice fo fn fc, .slice go gn gc] H12 k12 ra rn r wx)
  case first =>
    go_region_held3 (fun Y => (Y.cell? ⟨w.heap.size, 0, none⟩ = some (.int .i64 sg) ∧ Y.cell? ⟨w.heap.size, 1, none⟩ = some (.slice eo en ec) ∧ Y.cell? ⟨w.heap.size, 2, none⟩ = some (.slice xo xn xc)) ∧ (Y.cell? ⟨w.heap.size + 1, 0, none⟩ = some (.slice lo ln lc) ∧ Y.cell? ⟨w.heap.size + 1, 1, none⟩ = some (.slice vo vn vc) ∧ Y.cell? ⟨w.heap.size + 1, 2, none⟩ = some (.slice qo qn qc) ∧ Y.cell? ⟨w.heap.size + 1, 3, none⟩ = some (.slice po pn pc) ∧ Y.cell? ⟨w.heap.size + 1, 4, none⟩ = some (.slice fo fn fc) ∧ Y.cell? ⟨w.heap.size + 1, 5, none⟩ = some (.slice go gn gc))) (first | (with_reducible exact KC.out _ PS.out.bx) | (with_reducible exact KC.out _ P5.out) | (with_reducible exact KC.out _ (P5.out.below (below1 _ _))) | (with_reducible exact KC.out _ P4.out) | (with_reducible exact KC.out _ (P4.out.below (below1 _ _))) | (with_reducible exact KC.out _ P3.out) | (with_reducible exact KC.out _ (P3.out.below (below1 _ _))) | (with_reducible exact KC.out _ X1.out) | (with_reducible exact KC.out _ X2.out) | go_keep)
      (first
        | (go_at_call 9; refine (T.out _ (HX.out _ X1.out.bel).1 (HX.out _ X1.out.bel).2.1).mono ?_; rintro e w3 ⟨g1, g2, rfl, hs3, hb3⟩; have S3 := hid hs3; have P3 := hid (X1.out.below hb3); clear hs3 hb3)
        | (go_at_call 9; refine (T.out _ (HX.out _ X2.out.bel).1 (HX.out _ X2.out.bel).2.1).mono ?_; rintro e w3 ⟨g1, g2, rfl, hs3, hb3⟩; have S3 := hid hs3; have P3 := hid (X2.out.below hb3); have E3 := hid (E2.out.below hb3); clear hs3 hb3)
        | (go_at_call 10; refine (TK.out _ FK.out (HX.out _ P3.out.bel).2.2).mono ?_; rintro e w4 ⟨j1, j2, j3, j4, j5, j6, rfl, hk4, hb4⟩; have K4 := hid hk4; have S4 := hid (And.intro (S3.out.1.below hb4) (S3.out.2.below hb4)); have P4 := hid (P3.out.below hb4); (try (have E4 := hid (E3.out.below hb4))); clear hk4 hb4)
        | (go_at_call 10; refine (TK.out _ FK.out (HX.out _ (P3.out.below (below1 w3 OZ)).bel).2.2).mono ?_; rintro e w4 ⟨j1, j2, j3, j4, j5, j6, rfl, hk4, hb4⟩; have K4 := hid hk4; have S4 := hid (And.intro ((S3.out.1.below (below1 w3 OZ)).below hb4) ((S3.out.2.below (below1 w3 OZ)).below hb4)); have P4 := hid ((P3.out.below (below1 w3 OZ)).below hb4); have E4 := hid ((lz_new P3.out).below hb4); clear hk4 hb4)
        | (go_at_call 20; refine (SP.out _ _ _ _ _ _ _ _ _ FK.out S4.out.1 S4.out.2 K4.out).mono ?_; rintro e w5 ⟨⟨l7, l7n, l7c, v7, v7n, v7c, q7, q7n, q7c, p7, p7n, p7c, e7, e7n, e7c, f7, f7n, f7c⟩, ra, rn, rc, rfl, hko, hmx, hro, hb5, BB, BC, us, uq, ud, ⟨hB, hC⟩, hwk, hrc⟩; unfold kerV; dsimp only at hwk hko ⊢; have P5 := hid (P4.out.below hb5); have KO := hid (And.intro hko hro); have WK := hid hwk; have RR := hid hrc; have HBC := hid (And.intro hB hC); (try (have E5 := hid (E4.out.below hb5); have LE := hid (lt_of_block E4.out.z); obtain ⟨z0, z1, z2, z3, z4, z5⟩ := six_cells E5.out.z; obtain ⟨y0, y1, y2, y3, y4, y5⟩ := six_froz E5.out.z; have lz := lt_of_block E5.out.z; have PS := hid (lp_set P5.out E5.out (Nat.lt_of_lt_of_le LE.out hB) (Nat.lt_of_lt_of_le LE.out hC) (k := ⟨l7, l7n, l7c, v7, v7n, v7c, q7, q7n, q7c, p7, p7n, p7c, e7, e7n, e7c, f7, f7n, f7c⟩) (r := r) hwk hrc))); clear hwk hko hro hb5 hrc hmx hB hC)
        | (go_at_call 20; refine (SP.out _ _ _ _ _ _ _ _ _ FK.out (S4.out.1.below (below1 w4 OZ)) (S4.out.2.below (below1 w4 OZ)) (K4.out.below (below1 w4 OZ))).mono ?_; rintro e w5 ⟨⟨l7, l7n, l7c, v7, v7n, v7c, q7, q7n, q7c, p7, p7n, p7c, e7, e7n, e7c, f7, f7n, f7c⟩, ra, rn, rc, rfl, hko, hmx, hro, hb5, BB, BC, us, uq, ud, ⟨hB, hC⟩, hwk, hrc⟩; unfold kerV; dsimp only at hwk hko ⊢; have P5 := hid ((P4.out.below (below1 w4 OZ)).below hb5); have KO := hid (And.intro hko hro); have WK := hid hwk; have RR := hid hrc; have E5 := hid ((lz_new P4.out).below hb5); have LE : Hid (w4.heap.size < (w4.alloc OZ).heap.size) := hid (by simp); obtain ⟨z0, z1, z2, z3, z4, z5⟩ := six_cells E5.out.z; obtain ⟨y0, y1, y2, y3, y4, y5⟩ := six_froz E5.out.z; have lz := lt_of_block E5.out.z; have PS := hid (lp_set P5.out E5.out (Nat.lt_of_lt_of_le LE.out hB) (Nat.lt_of_lt_of_le LE.out hC) (k := ⟨l7, l7n, l7c, v7, v7n, v7c, q7, q7n, q7c, p7, p7n, p7c, e7, e7n, e7c, f7, f7n, f7c⟩) (r := r) hwk hrc); clear hwk hko hro hb5 hrc hmx hB hC))
    all_goals
      go_wp2_with fail
      go_meet
      first
        | exact ⟨_, ⟨l7, l7n, l7c, v7, v7n, v7c, q7, q7n, q7c, p7, p7n, p7c, e7, e7n, e7c, f7, f7n, f7c⟩, ra, rn, rc, rfl, rfl, PS.out⟩
        | exact ⟨_, ⟨l7, l7n, l7c, v7, v7n, v7c, q7, q7n, q7c, p7, p7n, p7c, e7, e7n, e7c, f7, f7n, f7c⟩, ra, rn, rc, rfl, rfl, lp_new P5.out KO.out.1 KO.out.2⟩
  case rest =>
    obtain ⟨H12, ⟨l7, l7n, l7c, v7, v7n, v7c, q7, q7n, q7c, p7, p7n, p7c, e7, e7n, e7c, f7, f7n, f7c⟩, ra, rn, rc, rfl, rfl, hLP⟩ := hcut
    obtain ⟨WA, hWA⟩ : ∃ W, W = wc := ⟨_, rfl⟩
    subst hWA
    have LP0 := hid hLP
    clear a0 a1 a2 c0 c1 c2 c3 c4 c5 l0 l1 X1 X2 E2 hLP
    obtain ⟨a0, a1, a2⟩ := three_cells LP0.out.bx.sy
    have l0 := lt_of_block LP0.out.bx.sy
    go_upto_region 10 with (go_at_call 9; refine (TF.out WA.heap.size WA (Nat.le_refl _) (HX.out _ LP0.out.bx.bel).1 (HX.out _ LP0.out.bx.bel).2.1).mono ?_; rintro e w3 ⟨g3, g4, rfl, hs3, ht3, hb3⟩; have S3 := hid hs3; have T3 := hid ht3; have B3 := hid hb3; clear hs3 ht3 hb3)
    obtain ⟨W3, hW3⟩ : ∃ W, W = w3.alloc (.cells #[.int .i64 sg, .slice (some ⟨g3, 0, none⟩) en en, .slice (some ⟨g4, 0, none⟩) xn xn] 42) := ⟨_, rfl⟩
    obtain ⟨H14, h14⟩ : ∃ x, x = w3.heap.size := ⟨_, rfl⟩
    have BW3 : Hid (Below w3.heap.size w3 W3) := hid (by rw [hW3]; exact below1 _ _)
    have b14 : Hid (W3.heap[H14]? = some (.cells #[.int .i64 sg, .slice (some ⟨g3, 0, none⟩) en en, .slice (some ⟨g4, 0, none⟩) xn xn] 42 (0, 0))) := hid (by rw [hW3, h14]; exact heap_alloc_new _ _)
    have BA3 : Hid (Below WA.heap.size WA W3) := hid (B3.out.trans (BW3.out.mono B3.out.size))
    rw [← hW3, ← h14]
    clear hW3 h14 a0 a1 a2 l0
    have LP3 := hid (LP0.out.below BA3.out)
    obtain ⟨c0, c1, c2, c3, c4, c5⟩ := six_cells LP3.out.bx.ke
    have l1 := lt_of_block LP3.out.bx.ke
    go_upto_region 11 with (go_at_call 10; refine (TKF.out WA.heap.size W3 BA3.out.size FK.out (HX.out _ LP3.out.bx.bel).2.2).mono ?_; rintro e w4 ⟨m1, m2, m3, m4, m5, m6, rfl, hk4, hb4⟩; have K4 := hid hk4; have B4 := hid hb4; clear hk4 hb4)
    obtain ⟨W4, hW4⟩ : ∃ W, W = w4.alloc (.cells #[.slice (some ⟨m1, 0, none⟩) ln ln, .slice (some ⟨m2, 0, none⟩) vn vn, .slice (some ⟨m3, 0, none⟩) qn qn, .slice (some ⟨m4, 0, none⟩) pn pn, .slice (some ⟨m5, 0, none⟩) fn fn, .slice (some ⟨m6, 0, none⟩) gn gn] 35) := ⟨_, rfl⟩
    obtain ⟨H15, h15⟩ : ∃ x, x = w4.heap.size := ⟨_, rfl⟩
    have BW4 : Hid (Below w4.heap.size w4 W4) := hid (by rw [hW4]; exact below1 _ _)
    have SW4 : Hid (W4.heap.size = w4.heap.size + 1) := hid (by rw [hW4]; simp)
    have b15 : Hid (W4.heap[H15]? = some (.cells #[.slice (some ⟨m1, 0, none⟩) ln ln, .slice (some ⟨m2, 0, none⟩) vn vn, .slice (some ⟨m3, 0, none⟩) qn qn, .slice (some ⟨m4, 0, none⟩) pn pn, .slice (some ⟨m5, 0, none⟩) fn fn, .slice (some ⟨m6, 0, none⟩) gn gn] 35 (0, 0))) := hid (by rw [hW4, h15]; exact heap_alloc_new _ _)
    have H15e := hid h15
    have B34 : Hid (Below W3.heap.size W3 W4) := hid (B4.out.trans (BW4.out.mono B4.out.size))
    have BA4 : Hid (Below WA.heap.size WA W4) := hid (BA3.out.trans (B34.out.mono BA3.out.size))
    rw [← hW4, ← h15]
    clear hW4 h15 c0 c1 c2 c3 c4 c5 l1
    have b144 := hid (block_below b14.out B34.out)
    obtain ⟨a0, a1, a2⟩ := three_cells b144.out
    obtain ⟨c0, c1, c2, c3, c4, c5⟩ := six_cells b15.out
    have l0 := lt_of_block b144.out
    have l1 := lt_of_block b15.out
    have S4 : Hid (cpP es xs kd en xn g3 g4 ⟨some ⟨m1, 0, none⟩, ln, ln, some ⟨m2, 0, none⟩, vn, vn, some ⟨m3, 0, none⟩, qn, qn, some ⟨m4, 0, none⟩, pn, pn, some ⟨m5, 0, none⟩, fn, fn, some ⟨m6, 0, none⟩, gn, gn⟩ W4) := hid ⟨(S3.out.1.below BW3.out).below B34.out, (S3.out.2.below BW3.out).below B34.out, K4.out.1.below BW4.out⟩
    have CI := hid (IM.out _ _ W4 m1 m2 m3 m4 m5 m6 FK.out FE.out S4.out.1 S4.out.2.1 S4.out.2.2)
    go_upto_region 12 with (go_at_call 21; refine CI.out.mono ?_; rintro e w5 ⟨L5, V5, Q5, D5, E5, F5, vs, vq, vd, ra2, rn2, rc2, rfl, hrw, hfar, hrr, hb5⟩; obtain ⟨xa, xm, xk, rfl⟩ := row_form hrw.l; obtain ⟨ya, ym, yk, rfl⟩ := row_form hrw.v.row; obtain ⟨za, zm, zk, rfl⟩ := row_form hrw.q.row; obtain ⟨ua, um, uk, rfl⟩ := row_form hrw.d.row; obtain ⟨ta, tm, tk, rfl⟩ := row_form hrw.e; obtain ⟨sa, sm, sk, rfl⟩ := row_form hrw.f; have RW5 := hid hrw; have FR5 := hid hfar; have RR5 := hid hrr; have B5 := hid hb5; clear hrw hfar hrr hb5)
    obtain rfl : rn2 = rn := by have h1 := (RcRow.recs RR5.out).1; have h2 := LP0.out.ro.1; omega
    obtain ⟨W6, hW6⟩ : ∃ W, W = w5.alloc (.cells #[.slice xa xm xk, .slice ya ym yk, .slice za zm zk, .slice ua um uk, .slice ta tm tk, .slice sa sm sk] 35) := ⟨_, rfl⟩
    obtain ⟨H16, h16⟩ : ∃ x, x = w5.heap.size := ⟨_, rfl⟩
    obtain ⟨LL, hLL⟩ : ∃ x, x = WA.heap.size := ⟨_, rfl⟩
    obtain ⟨UU, hUU⟩ : ∃ x, x = w4.heap.size := ⟨_, rfl⟩
    obtain ⟨BB, hBB⟩ : ∃ x, x = W4.heap.size := ⟨_, rfl⟩
    have BW6 : Below w5.heap.size w5 W6 := by rw [hW6]; exact below1 _ _
    have B46 : Hid (Below W4.heap.size W4 W6) := hid (B5.out.trans (BW6.mono B5.out.size))
    have BA6 : Hid (Below WA.heap.size WA W6) := hid (BA4.out.trans (B46.out.mono BA4.out.size))
    have Q6 : Hid (LQ LL UU sg es xs en xn kd r H14 H15 H16 g3 g4 ⟨some ⟨m1, 0, none⟩, ln, ln, some ⟨m2, 0, none⟩, vn, vn, some ⟨m3, 0, none⟩, qn, qn, some ⟨m4, 0, none⟩, pn, pn, some ⟨m5, 0, none⟩, fn, fn, some ⟨m6, 0, none⟩, gn, gn⟩ ⟨xa, xm, xk, ya, ym, yk, za, zm, zk, ua, um, uk, ta, tm, tk, sa, sm, sk⟩ BB ra2 rn2 rc2 vs vq vd W6) := hid (by
      have u1 := B4.out.size
      have u2 := BW3.out.size
      have u3 := B3.out.size
      have u4 := SW4.out
      refine ⟨block_below b144.out B46.out, block_below b15.out B46.out, by rw [hW6, h16]; exact heap_alloc_new _ _, ?_, ?_, ?_, FR5.out, ?_, by omega, by omega⟩
      · rw [hLL, hUU]
        exact ⟨(((T3.out.1.up (by omega)).of_below BW3.out).of_below B34.out).of_below B46.out, (((T3.out.2.up (by omega)).of_below BW3.out).of_below B34.out).of_below B46.out⟩
      · rw [hLL, hUU]; exact (K4.out.2.of_below BW4.out).of_below B46.out
      · rw [hBB]; exact RW5.out.below BW6
      · rw [hBB]; exact ownsRow_below RR5.out BW6)
    have S6 : Hid (cpP es xs kd en xn g3 g4 ⟨some ⟨m1, 0, none⟩, ln, ln, some ⟨m2, 0, none⟩, vn, vn, some ⟨m3, 0, none⟩, qn, qn, some ⟨m4, 0, none⟩, pn, pn, some ⟨m5, 0, none⟩, fn, fn, some ⟨m6, 0, none⟩, gn, gn⟩ W6) := hid (cpP_below _ _ B46.out S4.out)
    rw [← hW6, ← h16]
    have HLL := hid hLL
    clear hW6 h16 hLL hUU hBB BW6 a0 a1 a2 c0 c1 c2 c3 c4 c5 l0 l1 S4 CI b144 b15 SW4 BW4 H15e B34 K4 B4 T3 S3 BW3 b14 BA3 LP3 RW5 FR5 RR5 B5 B46 BA4
    have EKG := hid (fun Y (hq : LQ LL UU sg es xs en xn kd r H14 H15 H16 g3 g4 ⟨some ⟨m1, 0, none⟩, ln, ln, some ⟨m2, 0, none⟩, vn, vn, some ⟨m3, 0, none⟩, qn, qn, some ⟨m4, 0, none⟩, pn, pn, some ⟨m5, 0, none⟩, fn, fn, some ⟨m6, 0, none⟩, gn, gn⟩ ⟨xa, xm, xk, ya, ym, yk, za, zm, zk, ua, um, uk, ta, tm, tk, sa, sm, sk⟩ BB ra2 rn2 rc2 vs vq vd Y) (hp : LP w #[.int .i64 sg, .slice eo en ec, .slice xo xn xc] #[.slice lo ln lc, .slice vo vn vc, .slice qo qn qc, .slice po pn pc, .slice fo fn fc, .slice go gn gc] H12 ⟨l7, l7n, l7c, v7, v7n, v7c, q7, q7n, q7c, p7, p7n, p7c, e7, e7n, e7c, f7, f7n, f7c⟩ ra rn2 r Y) => eqKernel_same ⟨xa, xm, xk, ya, ym, yk, za, zm, zk, ua, um, uk, ta, tm, tk, sa, sm, sk⟩ ⟨l7, l7n, l7c, v7, v7n, v7c, q7, q7n, q7c, p7, p7n, p7c, e7, e7n, e7c, f7, f7n, f7c⟩ r.1 Y SMA.out.fits hq.rw.ker hp.ko)
    have ERG := hid (fun Y (hq : LQ LL UU sg es xs en xn kd r H14 H15 H16 g3 g4 ⟨some ⟨m1, 0, none⟩, ln, ln, some ⟨m2, 0, none⟩, vn, vn, some ⟨m3, 0, none⟩, qn, qn, some ⟨m4, 0, none⟩, pn, pn, some ⟨m5, 0, none⟩, fn, fn, some ⟨m6, 0, none⟩, gn, gn⟩ ⟨xa, xm, xk, ya, ym, yk, za, zm, zk, ua, um, uk, ta, tm, tk, sa, sm, sk⟩ BB ra2 rn2 rc2 vs vq vd Y) (hp : LP w #[.int .i64 sg, .slice eo en ec, .slice xo xn xc] #[.slice lo ln lc, .slice vo vn vc, .slice qo qn qc, .slice po pn pc, .slice fo fn fc, .slice go gn gc] H12 ⟨l7, l7n, l7c, v7, v7n, v7c, q7, q7n, q7c, p7, p7n, p7c, e7, e7n, e7c, f7, f7n, f7c⟩ ra rn2 r Y) => eqRecS_same ra2 ra rn2 rc2 rc r.2 Y (by rw [← hp.ro.1]; exact SMA.out.rs) (RcRow.recs hq.rr) hp.ro)
    unfold kerV at EKG
    dsimp only at EKG
    have BWA : Hid (∀ Y, Below WA.heap.size WA Y → Below w.heap.size w Y) := hid (fun Y hY => (LP0.out.below hY).bx.bel)
    have PA : Hid (∀ Y, Below WA.heap.size WA Y → LP w #[.int .i64 sg, .slice eo en ec, .slice xo xn xc] #[.slice lo ln lc, .slice vo vn vc, .slice qo qn qc, .slice po pn pc, .slice fo fn fc, .slice go gn gc] H12 ⟨l7, l7n, l7c, v7, v7n, v7c, q7, q7n, q7c, p7, p7n, p7c, e7, e7n, e7c, f7, f7n, f7c⟩ ra rn2 r Y) := hid (fun Y hY => LP0.out.below hY)
    have P6 := hid (PA.out _ BA6.out)
    obtain ⟨d0, d1, d2, d3, d4, d5⟩ := six_cells Q6.out.b16
    obtain ⟨e0, e1, e2, e3, e4, e5⟩ := six_cells P6.out.b12
    have l16 := lt_of_block Q6.out.b16
    have l12 := lt_of_block P6.out.b12
    go_upto_region 14 with (first
      | (go_at_call 12; refine (EKG.out _ Q6.out P6.out).mono ?_; rintro e w7 ⟨rfl, hb⟩; have Q7 := hid (Q6.out.below hb); have P7 := hid (P6.out.below hb); have S7 := hid (cpP_below _ _ hb S6.out); have BA7 := hid (BA6.out.trans (hb.mono BA6.out.size)); clear hb)
      | (go_at_call 13; refine (ERG.out _ Q7.out P7.out).mono ?_; rintro e w8 ⟨rfl, hb⟩; have Q8 := hid (Q7.out.below hb); have S8 := hid (cpP_below _ _ hb S7.out); have BA8 := hid (BA7.out.trans (hb.mono BA7.out.size)); clear hb))
    clear d0 d1 d2 d3 d4 d5 e0 e1 e2 e3 e4 e5 l16 l12 Q6 S6 BA6 Q7 S7 BA7 P6 P7
    go_cut [67] (fun c wx => c = .bool false ∧ LQ LL UU sg es xs en xn kd r H14 H15 H16 g3 g4 ⟨some ⟨m1, 0, none⟩, ln, ln, some ⟨m2, 0, none⟩, vn, vn, some ⟨m3, 0, none⟩, qn, qn, some ⟨m4, 0, none⟩, pn, pn, some ⟨m5, 0, none⟩, fn, fn, some ⟨m6, 0, none⟩, gn, gn⟩ ⟨xa, xm, xk, ya, ym, yk, za, zm, zk, ua, um, uk, ta, tm, tk, sa, sm, sk⟩ BB ra2 rn2 rc2 vs vq vd wx ∧ cpP es xs kd en xn g3 g4 ⟨some ⟨m1, 0, none⟩, ln, ln, some ⟨m2, 0, none⟩, vn, vn, some ⟨m3, 0, none⟩, qn, qn, some ⟨m4, 0, none⟩, pn, pn, some ⟨m5, 0, none⟩, fn, fn, some ⟨m6, 0, none⟩, gn, gn⟩ wx ∧ Below WA.heap.size WA wx)
    case first =>
      have BD := hid (BA8.out.drew)
      have QD := hid (Q8.out.below (Below.refl _ _).drew)
      have SD := hid (cpP_below _ _ (Below.refl _ _).drew S8.out)
      obtain ⟨v0, v1, v2⟩ := three_cells Q8.out.b14
      obtain ⟨e0, e1, e2⟩ := three_cells (PA.out _ BA8.out).bx.sy
      have lv := lt_of_block Q8.out.b14
      have le := lt_of_block (PA.out _ BA8.out).bx.sy
      go_region_with (first
        | (go_at_call 9; refine (T.out _ (HX.out _ (BWA.out _ BD.out)).1 (HX.out _ (BWA.out _ BD.out)).2.1).mono ?_; rintro e w9 ⟨g5, g6, rfl, hs9, hb9⟩; have S9 := hid hs9; have Q9 := hid (QD.out.below hb9); have C9 := hid (cpP_below _ _ hb9 SD.out); have B9 := hid (BD.out.trans (hb9.mono BD.out.size)); obtain ⟨u0, u1, u2⟩ := three_cells Q9.out.b14; have lu := lt_of_block Q9.out.b14; clear hs9 hb9)
        | (go_at_call 14; refine (eqSystem_same sg _ _ _ _ en _ xn _ _ _ es xs _ FE.out FX.out C9.out.1 C9.out.2.1 S9.out.1 S9.out.2).mono ?_; rintro e w10 ⟨rfl, hb10⟩; have Q10 := hid (Q9.out.below hb10); have C10 := hid (cpP_below _ _ hb10 C9.out); have B10 := hid (B9.out.trans (hb10.mono B9.out.size)); clear hb10))
      all_goals
        go_wp2_with fail
        go_meet
        exact ⟨rfl, Q10.out, C10.out, B10.out⟩
    case rest =>
      obtain ⟨rfl, hQ, hC, hB⟩ := hcut
      obtain ⟨W8, hW8⟩ : ∃ W, W = wc := ⟨_, rfl⟩
      subst hW8
      clear Q8 S8 BA8
      have Q8 := hid hQ
      have S8 := hid hC
      have BA8 := hid hB
      clear hQ hC hB
      go_upto_region 16 with fail
      go_cut [72] (fun c wx => c = .bool false ∧ LQ LL UU sg es xs en xn kd r H14 H15 H16 g3 g4 ⟨some ⟨m1, 0, none⟩, ln, ln, some ⟨m2, 0, none⟩, vn, vn, some ⟨m3, 0, none⟩, qn, qn, some ⟨m4, 0, none⟩, pn, pn, some ⟨m5, 0, none⟩, fn, fn, some ⟨m6, 0, none⟩, gn, gn⟩ ⟨xa, xm, xk, ya, ym, yk, za, zm, zk, ua, um, uk, ta, tm, tk, sa, sm, sk⟩ BB ra2 rn2 rc2 vs vq vd wx ∧ Below WA.heap.size WA wx)
      case first =>
        have BD := hid (BA8.out.drew)
        have QD := hid (Q8.out.below (Below.refl _ _).drew)
        have SD := hid (cpP_below _ _ (Below.refl _ _).drew S8.out)
        obtain ⟨v0, v1, v2, v3, v4, v5⟩ := six_cells Q8.out.b15
        obtain ⟨e0, e1, e2, e3, e4, e5⟩ := six_cells (PA.out _ BA8.out).bx.ke
        have lv := lt_of_block Q8.out.b15
        have le := lt_of_block (PA.out _ BA8.out).bx.ke
        go_region_with (first
          | (go_at_call 10; refine (TK.out _ FK.out (HX.out _ (BWA.out _ BD.out)).2.2).mono ?_; rintro e w9 ⟨n1, n2, n3, n4, n5, n6, rfl, hk9, hb9⟩; have K9 := hid hk9; have Q9 := hid (QD.out.below hb9); have C9 := hid (cpP_below _ _ hb9 SD.out); have B9 := hid (BD.out.trans (hb9.mono BD.out.size)); obtain ⟨u0, u1, u2, u3, u4, u5⟩ := six_cells Q9.out.b15; have lu := lt_of_block Q9.out.b15; clear hk9 hb9)
          | (go_at_call 12; refine (EK.out _ FK.out _ _ _ _ _ _ _ _ _ _ _ _ C9.out.2.2 K9.out).mono ?_; rintro e w10 ⟨rfl, hb10⟩; have Q10 := hid (Q9.out.below hb10); have B10 := hid (B9.out.trans (hb10.mono B9.out.size)); clear hb10))
        all_goals
          go_wp2_with fail
          go_meet
          exact ⟨rfl, Q10.out, B10.out⟩
      case rest =>
        obtain ⟨rfl, hQ, hB⟩ := hcut
        obtain ⟨W9, hW9⟩ : ∃ W, W = wc := ⟨_, rfl⟩
        subst hW9
        clear Q8 S8 BA8
        have Q9 := hid hQ
        have BA9 := hid hB
        obtain ⟨v0, v1, v2⟩ := three_cells hQ.b14
        have lv := lt_of_block hQ.b14
        have CM := hid (markSystem_mj LL UU sg _ _ es xn 1 W9 (by omega) (by have := WB.out; omega) hQ.sy)
        have MKX := hid (fun (k : Int) Y (h0 : 0 ≤ k) (h1 : k ≤ 1 + 3 * 1048576) (hq : LQ LL UU sg es xs en xn kd r H14 H15 H16 g3 g4 ⟨some ⟨m1, 0, none⟩, ln, ln, some ⟨m2, 0, none⟩, vn, vn, some ⟨m3, 0, none⟩, qn, qn, some ⟨m4, 0, none⟩, pn, pn, some ⟨m5, 0, none⟩, fn, fn, some ⟨m6, 0, none⟩, gn, gn⟩ ⟨xa, xm, xk, ya, ym, yk, za, zm, zk, ua, um, uk, ta, tm, tk, sa, sm, sk⟩ BB ra2 rn2 rc2 vs vq vd Y) => markKernel_mj LL UU ⟨some ⟨m1, 0, none⟩, ln, ln, some ⟨m2, 0, none⟩, vn, vn, some ⟨m3, 0, none⟩, qn, qn, some ⟨m4, 0, none⟩, pn, pn, some ⟨m5, 0, none⟩, fn, fn, some ⟨m6, 0, none⟩, gn, gn⟩ kd k Y h0 (by have := WB.out.2; omega) WB.out.2 hq.ke)
        unfold kerV at MKX
        dsimp only at MKX
        clear hQ hB
        go_upto_region 21 with (first
          | (go_at_call 15; refine CM.out.mono ?_; rintro e w13 ⟨k1, rfl, hk1, hm⟩; have K1 : Hid (0 ≤ k1 ∧ k1 ≤ 1 + 3 * 1048576) := hid (by have := WB.out.1; omega); have Q13 := hid ((Q9.out.below (below1 _ _)).mj hm); have BA13 := hid ((BA9.out.trans ((below1 W9 _).mono BA9.out.size)).trans (by have h := hm.below; rw [HLL.out] at h; exact h)); obtain ⟨u0, u1, u2, u3, u4, u5⟩ := six_cells Q13.out.b15; have lu := lt_of_block Q13.out.b15; clear hm hk1)
          | (go_at_call 16; refine (MKX.out k1 _ K1.out.1 K1.out.2 Q13.out).mono ?_; rintro e w14 ⟨k2, rfl, hk2, o, hm⟩; have nk2 : ¬ k2 < 0 := (by have := K1.out.1; omega); have Q14 := hid ((Q13.out.below (below1 w13 o)).mj hm); have BA14 := hid ((BA13.out.trans ((below1 w13 o).mono BA13.out.size)).trans (by have h := hm.below; rw [HLL.out] at h; exact h)); clear hm hk2))
        clear v0 v1 v2 lv u0 u1 u2 u3 u4 u5 lu Q9 BA9 Q13 BA13 CM MKX
        have P14 := hid (PA.out _ BA14.out)
        obtain ⟨d0, d1, d2, d3, d4, d5⟩ := six_cells Q14.out.b16
        obtain ⟨e0, e1, e2, e3, e4, e5⟩ := six_cells P14.out.b12
        have l16 := lt_of_block Q14.out.b16
        have l12 := lt_of_block P14.out.b12
        go_upto_region 24 with (first
          | (go_at_call 12; refine (EKG.out _ Q14.out P14.out).mono ?_; rintro e w15 ⟨rfl, hb⟩; have Q15 := hid (Q14.out.below hb); have P15 := hid (P14.out.below hb); have BA15 := hid (BA14.out.trans (hb.mono BA14.out.size)); clear hb)
          | (go_at_call 13; refine (ERG.out _ Q15.out P15.out).mono ?_; rintro e w16 ⟨rfl, hb⟩; have Q16 := hid (Q15.out.below hb); have BA16 := hid (BA15.out.trans (hb.mono BA15.out.size)); clear hb))
        clear d0 d1 d2 d3 d4 d5 e0 e1 e2 e3 e4 e5 l16 l12 Q14 BA14 Q15 BA15 P14 P15 nk2
        obtain ⟨d0, d1, d2, d3, d4, d5⟩ := six_cells Q16.out.b16
        have l16 := lt_of_block Q16.out.b16
        obtain ⟨j2, hj2⟩ : ∃ x : Int, x = 1 + (r.1.leaf.length : Nat) := ⟨_, rfl⟩
        obtain ⟨j3, hj3⟩ : ∃ x : Int, x = j2 + 1 * ((sumTo (fun i => (r.1.vals.map List.length).getD i 0) vs.length : Nat) : Int) := ⟨_, rfl⟩
        obtain ⟨j4, hj4⟩ : ∃ x : Int, x = j3 + 2 * ((sumTo (fun i => (r.1.qs.map List.length).getD i 0) vq.length : Nat) : Int) := ⟨_, rfl⟩
        obtain ⟨j5, hj5⟩ : ∃ x : Int, x = j4 + 2 * ((sumTo (fun i => (r.1.ds.map List.length).getD i 0) vd.length : Nat) : Int) := ⟨_, rfl⟩
        obtain ⟨j6, hj6⟩ : ∃ x : Int, x = j5 + (r.1.left.length : Nat) := ⟨_, rfl⟩
        obtain ⟨j7, hj7⟩ : ∃ x : Int, x = j6 + (r.1.every.length : Nat) := ⟨_, rfl⟩
        have e1 := small_sum SMA.out.fits.fv SMA.out.v Q16.out.rw.v.len
        have e2 := small_sum SMA.out.fits.fq SMA.out.q Q16.out.rw.q.len
        have e3 := small_sum SMA.out.fits.fp SMA.out.d Q16.out.rw.d.len
        have e4 := SMA.out.fits.fl
        have e5 := SMA.out.fits.fe
        have e6 := SMA.out.fits.ff
        have e7 := SMA.out.rs
        have n1 : vs.length ≤ 1048576 := by rw [Q16.out.rw.v.len]; have := SMA.out.v; omega
        have n2 : vq.length ≤ 1048576 := by rw [Q16.out.rw.q.len]; have := SMA.out.q; omega
        have n3 : vd.length ≤ 1048576 := by rw [Q16.out.rw.d.len]; have := SMA.out.d; omega
        have b7 : 0 ≤ j7 ∧ j7 ≤ 1073741824 := by omega
        have MKO := hid (markKernel_own BB _ _ _ _ _ _ vs vq vd _ _ _ _ _ _ 1 w16 j2 j3 j4 j5 j6 j7 hj2 hj3 hj4 hj5 hj6 hj7 (by omega) (by omega) n1 n2 n3 Q16.out.an)
        have HKO := hid (fun Y hA => heldKernel_own BB _ _ _ _ _ _ vs vq vd _ _ _ _ _ _ 1 Y j2 j3 j4 j5 j6 j7 hj2 hj3 hj4 hj5 hj6 hj7 (by omega) (by omega) n1 n2 n3 (hA : AnM Y BB (.slice xa xm xk) (.slice ya ym yk) (.slice za zm zk) (.slice ua um uk) (.slice ta tm tk) (.slice sa sm sk) vs vq vd r.1.leaf.length (r.1.vals.map List.length) (r.1.qs.map List.length) (r.1.ds.map List.length) r.1.left.length r.1.every.length 1 j2 j3 j4 j5 j6))
        obtain ⟨nr, hnr⟩ : ∃ x, x = r.2.length := ⟨_, rfl⟩
        have MRO := hid (fun Y hA => markRc_own BB (.slice ra2 rn2 rc2) nr j7 Y b7.1 (by omega) hA)
        have HRO := hid (fun Y hA => heldRc_own BB (.slice ra2 rn2 rc2) nr j7 Y b7.1 (by omega) hA)
        obtain ⟨j8, hj8⟩ : ∃ x : Int, x = j7 + 3 * (nr : Int) := ⟨_, rfl⟩
        rw [← hj8] at MRO HRO
        have HNR := hid hnr
        have n7 : ¬ j7 < 0 := by omega
        have n8 : ¬ j8 < 0 := by omega
        have WBB : Hid (WA.heap.size ≤ BB) := hid (by have := Q16.out.up; have := HLL.out; omega)
        clear hj2 hj3 hj4 hj5 hj6 hj7 hj8 e1 e2 e3 e4 e5 e6 e7 n1 n2 n3 b7 hnr
        go_upto_region 35 with (first
          | (go_at_call 16; refine MKO.out.mono ?_; rintro e w17 ⟨rfl, hA, o, hw⟩; have A17 := hid hA; have b17 := hid (hw.box (block_below Q16.out.b16 (below1 w16 o)) (by decide) (by decide)); have R17 : Hid (RcRow w17 BB (.slice ra2 rn2 rc2) r.2) := hid (row_ow (ownsRow_below Q16.out.rr (below1 w16 o)) hw); have BA17 := hid ((BA16.out.trans ((below1 w16 o).mono BA16.out.size)).trans (hw.below.mono WBB.out)); clear hA hw d0 d1 d2 d3 d4 d5 l16)
          | (go_at_call 17; refine (MRO.out _ (by rw [HNR.out]; exact ints_rc R17.out)).mono ?_; rintro e w18 ⟨rfl, hm, ho⟩; have M18 := hid hm; have A18 := hid (A17.out.only (ints_rc R17.out) ho); have b18 : Hid (w18.heap[H16]? = some (.cells (kerA ⟨xa, xm, xk, ya, ym, yk, za, zm, zk, ua, um, uk, ta, tm, tk, sa, sm, sk⟩) 35 (0, 0))) := hid ((ho.block H16 (fun x => own_far2 R17.out (by decide) b17.out x)).trans b17.out); have BA18 := hid (BA17.out.trans (ho.below (L := WA.heap.size) (fun b hb => Nat.le_trans WBB.out (R17.out.lt b hb).1))); obtain ⟨f0, f1, f2, f3, f4, f5⟩ := six_cells b18.out; have l18 := lt_of_block b18.out; clear hm ho)
          | (go_at_call 18; refine (HKO.out _ A18.out).mono ?_; rintro e w19 ⟨rfl, hb⟩; have M19 : Hid (MkdR w19 BB 106 3 (.slice ra2 rn2 rc2) nr j7) := hid (mkd_below M18.out hb); have BA19 := hid (BA18.out.trans (hb.mono BA18.out.size)); clear hb)
          | (go_at_call 19; refine (HRO.out _ M19.out).mono ?_; rintro e w20 ⟨rfl, hw⟩; obtain rfl := hw.symm))
        clear f0 f1 f2 f3 f4 f5 l18 MKO HKO MRO HRO Q16 BA16 A17 R17 BA17 b17 M18 A18 b18 BA18 M19
        have X1 := hid (BA19.out.drew)
        have X2 := hid ((BA19.out.alloc BA19.out.size OZ).drew)
        have E2 : Hid (Lz2 WA w19.heap.size (w19.alloc OZ).drew) := hid ⟨(lz2_new BA19.out).z, (lz2_new BA19.out).ge⟩
        have KC2 : Hid (∀ Y, Below WA.heap.size WA Y → (Y.cell? ⟨w.heap.size, 0, none⟩ = some (.int .i64 sg) ∧ Y.cell? ⟨w.heap.size, 1, none⟩ = some (.slice eo en ec) ∧ Y.cell? ⟨w.heap.size, 2, none⟩ = some (.slice xo xn xc)) ∧ (Y.cell? ⟨w.heap.size + 1, 0, none⟩ = some (.slice lo ln lc) ∧ Y.cell? ⟨w.heap.size + 1, 1, none⟩ = some (.slice vo vn vc) ∧ Y.cell? ⟨w.heap.size + 1, 2, none⟩ = some (.slice qo qn qc) ∧ Y.cell? ⟨w.heap.size + 1, 3, none⟩ = some (.slice po pn pc) ∧ Y.cell? ⟨w.heap.size + 1, 4, none⟩ = some (.slice fo fn fc) ∧ Y.cell? ⟨w.heap.size + 1, 5, none⟩ = some (.slice go gn gc))) := hid (fun Y h => And.intro (three_cells (PA.out _ h).bx.sy) (six_cells (PA.out _ h).bx.ke))
        obtain ⟨⟨a0, a1, a2⟩, c0, c1, c2, c3, c4, c5⟩ := KC2.out _ BA19.out
        have l0 := lt_of_block (PA.out _ BA19.out).bx.sy
        have l1 := lt_of_block (PA.out _ BA19.out).bx.ke
        go_cut [19, 20] (fun s21 s22 wx => ∃ (H21 : Nat) (k21 : KerS) (ra3 : Option Addr) (rn3 rc3 : Nat), s21 = .pointer (some ⟨H21, 0, none⟩) ∧ s22 = .slice ra3 rn3 rc3 ∧ LR WA H21 k21 ra3 rn3 r wx)
        case first =>
          go_region_held3 (fun Y => (Y.cell? ⟨w.heap.size, 0, none⟩ = some (.int .i64 sg) ∧ Y.cell? ⟨w.heap.size, 1, none⟩ = some (.slice eo en ec) ∧ Y.cell? ⟨w.heap.size, 2, none⟩ = some (.slice xo xn xc)) ∧ (Y.cell? ⟨w.heap.size + 1, 0, none⟩ = some (.slice lo ln lc) ∧ Y.cell? ⟨w.heap.size + 1, 1, none⟩ = some (.slice vo vn vc) ∧ Y.cell? ⟨w.heap.size + 1, 2, none⟩ = some (.slice qo qn qc) ∧ Y.cell? ⟨w.heap.size + 1, 3, none⟩ = some (.slice po pn pc) ∧ Y.cell? ⟨w.heap.size + 1, 4, none⟩ = some (.slice fo fn fc) ∧ Y.cell? ⟨w.heap.size + 1, 5, none⟩ = some (.slice go gn gc))) (first | (with_reducible exact KC2.out _ PS.out.ba) | (with_reducible exact KC2.out _ P5.out) | (with_reducible exact KC2.out _ (P5.out.alloc P5.out.size _)) | (with_reducible exact KC2.out _ P4.out) | (with_reducible exact KC2.out _ (P4.out.alloc P4.out.size _)) | (with_reducible exact KC2.out _ P3.out) | (with_reducible exact KC2.out _ (P3.out.alloc P3.out.size _)) | (with_reducible exact KC2.out _ X1.out) | (with_reducible exact KC2.out _ X2.out) | go_keep)
            (first
              | (go_at_call 9; refine (T.out _ (HX.out _ (BWA.out _ X1.out)).1 (HX.out _ (BWA.out _ X1.out)).2.1).mono ?_; rintro e w23 ⟨g1, g2, rfl, hs3, hb3⟩; have S3 := hid hs3; have P3 := hid (X1.out.trans (hb3.mono X1.out.size)); clear hs3 hb3)
              | (go_at_call 9; refine (T.out _ (HX.out _ (BWA.out _ X2.out)).1 (HX.out _ (BWA.out _ X2.out)).2.1).mono ?_; rintro e w23 ⟨g1, g2, rfl, hs3, hb3⟩; have S3 := hid hs3; have P3 := hid (X2.out.trans (hb3.mono X2.out.size)); have E3 := hid (E2.out.below hb3); clear hs3 hb3)
              | (go_at_call 10; refine (TK.out _ FK.out (HX.out _ (BWA.out _ P3.out)).2.2).mono ?_; rintro e w24 ⟨j1, j2, j3, j4, j5, j6, rfl, hk4, hb4⟩; have K4 := hid hk4; have S4 := hid (And.intro (S3.out.1.below hb4) (S3.out.2.below hb4)); have P4 := hid (P3.out.trans (hb4.mono P3.out.size)); (try (have E4 := hid (E3.out.below hb4))); clear hk4 hb4)
              | (go_at_call 10; refine (TK.out _ FK.out (HX.out _ (BWA.out _ (P3.out.alloc P3.out.size OZ))).2.2).mono ?_; rintro e w24 ⟨j1, j2, j3, j4, j5, j6, rfl, hk4, hb4⟩; have K4 := hid hk4; have S4 := hid (And.intro ((S3.out.1.below (below1 w23 OZ)).below hb4) ((S3.out.2.below (below1 w23 OZ)).below hb4)); have P4 := hid ((P3.out.alloc P3.out.size OZ).trans (hb4.mono (P3.out.alloc P3.out.size OZ).size)); have E4 := hid ((lz2_new P3.out).below hb4); clear hk4 hb4)
              | (go_at_call 21; refine (IM.out _ _ _ _ _ _ _ _ _ FK.out FE.out S4.out.1 S4.out.2 K4.out).mono ?_; rintro e w25 ⟨L5, V5, Q5, D5, E5x, F5, vs5, vq5, vd5, ra3, rn3, rc3, rfl, hrw, hfar, hrr, hb5⟩; obtain ⟨xa3, xm3, xk3, rfl⟩ := row_form hrw.l; obtain ⟨ya3, ym3, yk3, rfl⟩ := row_form hrw.v.row; obtain ⟨za3, zm3, zk3, rfl⟩ := row_form hrw.q.row; obtain ⟨ua3, um3, uk3, rfl⟩ := row_form hrw.d.row; obtain ⟨ta3, tm3, tk3, rfl⟩ := row_form hrw.e; obtain ⟨sa3, sm3, sk3, rfl⟩ := row_form hrw.f; have P5 := hid (P4.out.trans (hb5.mono P4.out.size)); have KO := hid (And.intro (hrw.ker (h := ⟨xa3, xm3, xk3, ya3, ym3, yk3, za3, zm3, zk3, ua3, um3, uk3, ta3, tm3, tk3, sa3, sm3, sk3⟩)) (RcRow.recs hrr)); (try (have E5 := hid (E4.out.below hb5); have LE := hid (lt_of_block E4.out.z); obtain ⟨z0, z1, z2, z3, z4, z5⟩ := six_cells E5.out.z; obtain ⟨y0, y1, y2, y3, y4, y5⟩ := six_froz E5.out.z; have lz := lt_of_block E5.out.z; have PS := hid (lr_set P5.out E5.out LE.out (k := ⟨xa3, xm3, xk3, ya3, ym3, yk3, za3, zm3, zk3, ua3, um3, uk3, ta3, tm3, tk3, sa3, sm3, sk3⟩) (r := r) hrw hrr))); clear hrw hfar hrr hb5)
              | (go_at_call 21; refine (IM.out _ _ _ _ _ _ _ _ _ FK.out FE.out (S4.out.1.below (below1 w24 OZ)) (S4.out.2.below (below1 w24 OZ)) (K4.out.below (below1 w24 OZ))).mono ?_; rintro e w25 ⟨L5, V5, Q5, D5, E5x, F5, vs5, vq5, vd5, ra3, rn3, rc3, rfl, hrw, hfar, hrr, hb5⟩; obtain ⟨xa3, xm3, xk3, rfl⟩ := row_form hrw.l; obtain ⟨ya3, ym3, yk3, rfl⟩ := row_form hrw.v.row; obtain ⟨za3, zm3, zk3, rfl⟩ := row_form hrw.q.row; obtain ⟨ua3, um3, uk3, rfl⟩ := row_form hrw.d.row; obtain ⟨ta3, tm3, tk3, rfl⟩ := row_form hrw.e; obtain ⟨sa3, sm3, sk3, rfl⟩ := row_form hrw.f; have P5 := hid ((P4.out.alloc P4.out.size OZ).trans (hb5.mono (P4.out.alloc P4.out.size OZ).size)); have KO := hid (And.intro (hrw.ker (h := ⟨xa3, xm3, xk3, ya3, ym3, yk3, za3, zm3, zk3, ua3, um3, uk3, ta3, tm3, tk3, sa3, sm3, sk3⟩)) (RcRow.recs hrr)); have E5 := hid ((lz2_new P4.out).below hb5); have LE : Hid (w24.heap.size < (w24.alloc OZ).heap.size) := hid (by simp); obtain ⟨z0, z1, z2, z3, z4, z5⟩ := six_cells E5.out.z; obtain ⟨y0, y1, y2, y3, y4, y5⟩ := six_froz E5.out.z; have lz := lt_of_block E5.out.z; have PS := hid (lr_set P5.out E5.out LE.out (k := ⟨xa3, xm3, xk3, ya3, ym3, yk3, za3, zm3, zk3, ua3, um3, uk3, ta3, tm3, tk3, sa3, sm3, sk3⟩) (r := r) hrw hrr); clear hrw hfar hrr hb5))
          all_goals
            go_wp2_with fail
            go_meet
            first
              | exact ⟨_, ⟨xa3, xm3, xk3, ya3, ym3, yk3, za3, zm3, zk3, ua3, um3, uk3, ta3, tm3, tk3, sa3, sm3, sk3⟩, ra3, rn3, rc3, rfl, rfl, PS.out⟩
              | exact ⟨_, ⟨xa3, xm3, xk3, ya3, ym3, yk3, za3, zm3, zk3, ua3, um3, uk3, ta3, tm3, tk3, sa3, sm3, sk3⟩, ra3, rn3, rc3, rfl, rfl, lr_new P5.out KO.out.1 KO.out.2⟩
        case rest =>
          obtain ⟨H21, ⟨xa3, xm3, xk3, ya3, ym3, yk3, za3, zm3, zk3, ua3, um3, uk3, ta3, tm3, tk3, sa3, sm3, sk3⟩, ra3, rn3, rc3, rfl, rfl, hLR⟩ := hcut
          obtain rfl : rn3 = rn2 := by have h1 := hLR.ro.1; have h2 := LP0.out.ro.1; omega
          have PZ := hid (PA.out _ hLR.ba)
          have EK3 := hid (eqKernel_same ⟨xa3, xm3, xk3, ya3, ym3, yk3, za3, zm3, zk3, ua3, um3, uk3, ta3, tm3, tk3, sa3, sm3, sk3⟩ ⟨l7, l7n, l7c, v7, v7n, v7c, q7, q7n, q7c, p7, p7n, p7c, e7, e7n, e7c, f7, f7n, f7c⟩ r.1 wc SMA.out.fits hLR.ko PZ.out.ko)
          have ER3 := hid (fun Y (hY : Below wc.heap.size wc Y) => eqRecS_same ra3 ra rn3 rc3 rc r.2 Y (by rw [← hLR.ro.1]; exact SMA.out.rs) (hLR.ro.below hY) (PZ.out.ro.below hY))
          unfold kerV at EK3
          dsimp only at EK3
          clear a0 a1 a2 c0 c1 c2 c3 c4 c5 l0 l1 X1 X2 E2
          obtain ⟨d0, d1, d2, d3, d4, d5⟩ := six_cells hLR.b
          obtain ⟨e0, e1, e2, e3, e4, e5⟩ := six_cells PZ.out.b12
          have l16 := lt_of_block hLR.b
          have l12 := lt_of_block PZ.out.b12
          have BZ := hid hLR.ba
          clear hLR
          go_wp2_with (first
            | (go_at_call 12; refine EK3.out.mono ?_; rintro e w27 ⟨rfl, hb⟩; have B27 := hid hb; clear hb)
            | (go_at_call 13; refine (ER3.out _ B27.out).mono ?_; rintro e w28 ⟨rfl, hb⟩; have B28 := hid (B27.out.trans (hb.mono B27.out.size)); clear hb))
          go_ret
          exact ⟨rfl, BWA.out _ (BZ.out.trans (B28.out.mono BZ.out.size))⟩
end Go.Proofs.YthaklmdhkkfigaaGreat
