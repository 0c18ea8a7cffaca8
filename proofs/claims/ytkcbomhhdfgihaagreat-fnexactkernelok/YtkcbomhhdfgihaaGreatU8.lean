import Derived.Test.YtkcbomhhdfgihaaGreatU7
namespace Go.Proofs.YtkcbomhhdfgihaaGreat
open Go.RowKit Go.Sort
set_option linter.unusedVariables false
attribute [local go_sem ↓] Go.wp_at_zero Go.wp_at_succ

/-- What stays of the law's two boxes. -/
structure LKBox (w wr : World) (c d : Array Value) : Prop where
  bel : Below w.heap.size w wr
  sy : wr.heap[w.heap.size]? = some (.cells c 25 (0, 0))
  ke : wr.heap[w.heap.size + 1]? = some (.cells d 40 (0, 0))
theorem LKBox.below {w wr w1 : World} {c d : Array Value} (h : LKBox w wr c d) (hb : Below wr.heap.size wr w1) : LKBox w w1 c d := ⟨h.bel.trans (hb.mono h.bel.size), block_below h.sy hb, block_below h.ke hb⟩
theorem LKBox.drew {w wr : World} {c d : Array Value} (h : LKBox w wr c d) : LKBox w wr.drew c d := h.below ((Below.refl _ _).drew)
theorem LKBox.alloc {w wr : World} {c d : Array Value} (h : LKBox w wr c d) (x : Obj) : LKBox w (wr.alloc x) c d := h.below (below1 _ _)
theorem lkbox_start (w : World) (c d : Array Value) : LKBox w ((w.alloc (.cells c 25)).alloc (.cells d 40)) c d :=
  ⟨below2 _ _ _, block_below (heap_alloc_new w _) (below1 _ _), by simpa using heap_alloc_new (w.alloc (.cells c 25)) (.cells d 40)⟩
/-- And of the copies that the program was given. -/
structure LKCopy (wr : World) (X Y : Nat) (c d : Array Value) (P : World → Prop) : Prop where
  sx : wr.heap[X]? = some (.cells c 32 (0, 0))
  kx : wr.heap[Y]? = some (.cells d 45 (0, 0))
  of : P wr
theorem LKCopy.below {wr w1 : World} {X Y : Nat} {c d : Array Value} {P : World → Prop} (h : LKCopy wr X Y c d P) (hP : ∀ a b, Below a.heap.size a b → P a → P b) (hb : Below wr.heap.size wr w1) : LKCopy w1 X Y c d P := ⟨block_below h.sx hb, block_below h.kx hb, hP _ _ hb h.of⟩
theorem kerMax_cp {h : KerS} (m : KerMax h) (g1 g2 g3 g4 g5 g6 : Nat) : KerMax (cpK h g1 g2 g3 g4 g5 g6) := ⟨m.ml, m.mv, m.mq, m.mp, m.me, m.mf⟩
def cpP (es : List ObD) (xs : List (Int × Int)) (kd : KerD) (en xn : Nat) (a b : Nat) (h : KerS) (w : World) : Prop := ObsOf w (some ⟨a, 0, none⟩) en es ∧ ItemsOf w (some ⟨b, 0, none⟩) xn xs ∧ KerOf w h kd
theorem cpP_below {es : List ObD} {xs : List (Int × Int)} {kd : KerD} {en xn a b : Nat} {h : KerS} : ∀ u v, Below u.heap.size u v → cpP es xs kd en xn a b h u → cpP es xs kd en xn a b h v := fun _ _ hb p => ⟨p.1.below hb, p.2.1.below hb, p.2.2.below hb⟩

set_option maxRecDepth 100000 in
set_option maxHeartbeats 8000000 in
theorem lawKernelOK (sg : Int) (eo xo : Option Addr) (en ec xn xc : Nat) (es : List ObD) (xs : List (Int × Int)) (h : KerS) (kd : KerD) (w : World) (hen : en ≤ 9223372036854775807) (hxn : xn ≤ 9223372036854775807) (hm : KerMax h) (he : ObsOf w eo en es) (hx : ItemsOf w xo xn xs) (hk : KerOf w h kd) :
    Calls Tryz.prog 4 #[.agg #[.int .i64 sg, .slice eo en ec, .slice xo xn xc], kerV h] w fun e w' => e = .returned (.bool true) ∧ Below w.heap.size w w' := by
  have HX : Hid (∀ w', Below w.heap.size w w' → ObsOf w' eo en es ∧ ItemsOf w' xo xn xs ∧ KerOf w' h kd) := fun w' hb => ⟨he.below hb, hx.below hb, hk.below hb⟩
  have SZ := hid (fun left w h0 h1 hk => szKernel_any h kd left w hm h0 h1 hk)
  have TK := hid (fun w hf hk => toKernel_any h kd w hf hk)
  have SK := hid (fun so tt w g1 g2 g3 g4 g5 g6 (a : ObsOf w so en es) (b : ItemsOf w tt xn xs) c => specKernelOK_any sg so tt en en xn xn es xs (cpK h g1 g2 g3 g4 g5 g6) kd w hen (Nat.le_refl _) hxn (kerMax_cp hm _ _ _ _ _ _) a b c)
  have IK := hid (fun so tt w g1 g2 g3 g4 g5 g6 (a : ObsOf w so en es) (b : ItemsOf w tt xn xs) c => implKernelOK_any sg so tt en en xn xn es xs (cpK h g1 g2 g3 g4 g5 g6) kd w hen (Nat.le_refl _) hxn (kerMax_cp hm _ _ _ _ _ _) a b c)
  have EK := hid (fun w hf g1 g2 g3 g4 g5 g6 k1 k2 k3 k4 k5 k6 a b => eqKernel_same (cpK h g1 g2 g3 g4 g5 g6) (cpK h k1 k2 k3 k4 k5 k6) kd w hf a b)
  obtain ⟨kb, hkb⟩ : ∃ kb, kb = kerB sg es xs kd := ⟨_, rfl⟩
  rw [← hkb] at SK IK
  obtain ⟨lo, ln, lc, vo, vn, vc, qo, qn, qc, po, pn, pc, fo, fn, fc, go, gn, gc⟩ := h
  have EN := hid (lkbox_start w #[.int .i64 sg, .slice eo en ec, .slice xo xn xc] #[.slice lo ln lc, .slice vo vn vc, .slice qo qn qc, .slice po pn pc, .slice fo fn fc, .slice go gn gc])
  have C := hid (szSystem_any sg eo xo en ec xn xc es 1048576 _ hen hxn (by omega) (by omega) (he.below EN.out.bel))
  unfold kerV at SZ TK SK IK EK ⊢
  unfold cpK at TK SK IK EK
  dsimp only at SZ TK SK IK EK ⊢
  by_cases hbig : (1048576 : Int) < ((wObs es + xn : Nat) : Int)
  · rw [szOut_no hbig] at C
    clear he hx hbig hk hm SZ TK SK IK EK
    go_enter Tryz.func4, Tryz.ntmps4
    go_wp2_with (go_at_call 5; refine C.out.mono ?_; rintro e w1 ⟨rfl, hb1⟩; have B1 := hid (EN.out.below hb1); clear hb1)
    go_ret
    exact ⟨rfl, B1.out.bel⟩
  obtain ⟨r, hr⟩ : ∃ r : Int, r = 1048576 - ((wObs es + xn : Nat) : Int) := ⟨_, rfl⟩
  rw [szOut_yes hbig, ← hr] at C
  have hr0 : ¬ r < 0 := by omega
  have fe : FitsObs es := fitsObs_of (by omega)
  have fx : xn ≤ 1048576 := by omega
  have hen' : en ≤ 1048576 := by have := fe.1; rw [he.1] at this; exact this
  have SZ2 := hid (fun w hk => SZ.out r w (by omega) (by omega) hk)
  by_cases hbk : r < (wKer kd : Int)
  · rw [szOut_no hbk] at SZ2
    clear he hx hbig hk hm SZ TK SK IK EK hr fe fx hbk
    go_enter Tryz.func4, Tryz.ntmps4
    go_wp2_with (first
      | (go_at_call 5; refine C.out.mono ?_; rintro e w1 ⟨rfl, hb1⟩; have B1 := hid (EN.out.below hb1); obtain ⟨q0, q1, q2, q3, q4, q5⟩ := six_cells B1.out.ke; clear hb1)
      | (go_at_call 10; refine (SZ2.out _ (HX.out _ B1.out.bel).2.2).mono ?_; rintro e w2 ⟨rfl, hb2⟩; have B2 := hid (B1.out.below hb2); clear hb2))
    go_ret
    exact ⟨rfl, B2.out.bel⟩
  obtain ⟨r2, hr2⟩ : ∃ r2 : Int, r2 = r - (wKer kd : Int) := ⟨_, rfl⟩
  rw [szOut_yes hbk, ← hr2] at SZ2
  have hr20 : ¬ r2 < 0 := by omega
  have FK := hid (fitsKer_of (k := kd) (by omega))
  have T := hid (fun w (a : ObsOf w eo en es) (b : ItemsOf w xo xn xs) => toSystem_any sg eo xo en ec xn xc es xs w fe fx a b)
  have FE := hid fe
  have FX := hid fx
  clear he hx hbig hk hm SZ hr hr2 hbk fe fx hkb
  go_enter Tryz.func4, Tryz.ntmps4
  go_wp2_with (first
    | (go_at_call 5; refine C.out.mono ?_; rintro e w1 ⟨rfl, hb1⟩; have B1 := hid (EN.out.below hb1); obtain ⟨q0, q1, q2, q3, q4, q5⟩ := six_cells B1.out.ke; clear hb1)
    | (go_at_call 10; refine (SZ2.out _ (HX.out _ B1.out.bel).2.2).mono ?_; rintro e w2 ⟨rfl, hb2⟩; have B2 := hid (B1.out.below hb2); clear hb2))
  have D2 := hid B2.out.drew
  obtain ⟨a0, a1, a2⟩ := three_cells D2.out.sy
  obtain ⟨c0, c1, c2, c3, c4, c5⟩ := six_cells D2.out.ke
  clear q0 q1 q2 q3 q4 q5
  go_region_with (first
    | (go_at_call 7; refine (T.out _ (HX.out _ D2.out.bel).1 (HX.out _ D2.out.bel).2.1).mono ?_; rintro e w3 ⟨g1, g2, rfl, hs3, hb3⟩; have S3 := hid hs3; have B3 := hid (D2.out.below hb3); obtain ⟨d0, d1, d2, d3, d4, d5⟩ := six_cells B3.out.ke; clear hs3 hb3)
    | (go_at_call 12; refine (TK.out _ FK.out (HX.out _ B3.out.bel).2.2).mono ?_; rintro e w4 ⟨j1, j2, j3, j4, j5, j6, rfl, hk4, hb4⟩; have K4 := hid hk4; have S4 := hid (And.intro (S3.out.1.below hb4) (S3.out.2.below hb4)); have B4 := hid (B3.out.below hb4); clear hk4 hb4)
    | (go_at_call 11; refine (SK.out _ _ _ _ _ _ _ _ _ S4.out.1 S4.out.2 K4.out).mono ?_; rintro e w5 ⟨rfl, hb5⟩; have B5 := hid (B4.out.below hb5); obtain ⟨e0, e1, e2⟩ := three_cells B5.out.sy; obtain ⟨f0, f1, f2, f3, f4, f5⟩ := six_cells B5.out.ke; clear hb5))
  all_goals
    have hz5 : w.heap.size + 1 < w5.heap.size := lt_of_block B5.out.ke
    have hz5' : w.heap.size < w5.heap.size := by omega
    go_wp2_with (first
      | (go_at_call 7; refine (T.out _ (HX.out _ B5.out.bel).1 (HX.out _ B5.out.bel).2.1).mono ?_; rintro e w6 ⟨g3, g4, rfl, hs6, hb6⟩; have S6 := hid hs6; have B6 := hid (B5.out.below hb6); have hz6 : w.heap.size + 1 < w6.heap.size := lt_of_block B6.out.ke; have hz6' : w.heap.size < w6.heap.size := lt_of_block B6.out.sy; obtain ⟨e0, e1, e2⟩ := three_cells B6.out.sy; obtain ⟨f0, f1, f2, f3, f4, f5⟩ := six_cells B6.out.ke; clear hs6 hb6)
      | (go_at_call 12; refine (TK.out _ FK.out (HX.out _ (B6.out.alloc _).bel).2.2).mono ?_; rintro e w7 ⟨m1, m2, m3, m4, m5, m6, rfl, hk7, hb7⟩; have K7 := hid hk7; have S7 := hid (And.intro ((S6.out.1.below (below1 _ _)).below hb7) ((S6.out.2.below (below1 _ _)).below hb7)); have B7 := hid ((B6.out.alloc _).below hb7); have V7 := hid (block_below (heap_alloc_new w6 _) hb7); have hz7 : w6.heap.size < w7.heap.size := lt_of_block V7.out; obtain ⟨v0, v1, v2⟩ := three_cells V7.out; clear hk7 hb7)
      | (go_at_call 13; refine (IK.out _ _ _ _ _ _ _ _ _ (S7.out.1.below (below1 _ _)) (S7.out.2.below (below1 _ _)) (K7.out.below (below1 _ _))).mono ?_; rintro e w8 ⟨rfl, hb8⟩; have B8 := hid ((B7.out.alloc _).below hb8); have V8 := hid (block_below (block_below V7.out (below1 _ _)) hb8); have Y8 := hid (block_below (heap_alloc_new w7 _) hb8); have S8 := hid (And.intro ((S7.out.1.below (below1 _ _)).below hb8) ((S7.out.2.below (below1 _ _)).below hb8)); have K8 := hid ((K7.out.below (below1 _ _)).below hb8); clear hb8))
    have L8 : Hid (LKCopy w8.drew w6.heap.size w7.heap.size #[.int .i64 sg, .slice (some ⟨g3, 0, none⟩) en en, .slice (some ⟨g4, 0, none⟩) xn xn] _ (cpP es xs kd en xn g3 g4 ⟨some ⟨m1, 0, none⟩, ln, ln, some ⟨m2, 0, none⟩, vn, vn, some ⟨m3, 0, none⟩, qn, qn, some ⟨m4, 0, none⟩, pn, pn, some ⟨m5, 0, none⟩, fn, fn, some ⟨m6, 0, none⟩, gn, gn⟩)) :=
      hid (LKCopy.below ⟨V8.out, Y8.out, S8.out.1, S8.out.2, K8.out⟩ cpP_below ((Below.refl _ _).drew))
    have D8 := hid B8.out.drew
    clear V7 S7 K7 B7 V8 Y8 S8 K8 B8 B6 S6 B5 B4 S4 K4 B3 S3 D2 B2 B1 e0 e1 e2 f0 f1 f2 f3 f4 f5 v0 v1 v2
    obtain ⟨v0, v1, v2⟩ := three_cells L8.out.sx
    obtain ⟨e0, e1, e2⟩ := three_cells D8.out.sy
    go_region_with (first
      | (go_at_call 7; refine (T.out _ (HX.out _ D8.out.bel).1 (HX.out _ D8.out.bel).2.1).mono ?_; rintro e w9 ⟨g5, g6, rfl, hs9, hb9⟩; have S9 := hid hs9; have B9 := hid (D8.out.below hb9); have L9 := hid (L8.out.below cpP_below hb9); obtain ⟨u0, u1, u2⟩ := three_cells L9.out.sx; clear hs9 hb9)
      | (go_at_call 9; refine (eqSystem_same sg _ _ _ _ en _ xn _ _ _ es xs _ FE.out FX.out L9.out.of.1 L9.out.of.2.1 S9.out.1 S9.out.2).mono ?_; rintro e w10 ⟨rfl, hb10⟩; have B10 := hid (B9.out.below hb10); have L10 := hid (L9.out.below cpP_below hb10); clear hb10))
    all_goals
      go_wp2_with fail
      have D10 := hid B10.out.drew
      have L10d := hid (L10.out.below cpP_below ((Below.refl _ _).drew))
      obtain ⟨a0, a1, a2, a3, a4, a5⟩ := six_cells D10.out.ke
      obtain ⟨c0, c1, c2, c3, c4, c5⟩ := six_cells L10d.out.kx
      go_region_with (first
        | (go_at_call 12; refine (TK.out _ FK.out (HX.out _ D10.out.bel).2.2).mono ?_; rintro e w11 ⟨n1, n2, n3, n4, n5, n6, rfl, hk11, hb11⟩; have K11 := hid hk11; have B11 := hid (D10.out.below hb11); have L11 := hid (L10d.out.below cpP_below hb11); obtain ⟨d0, d1, d2, d3, d4, d5⟩ := six_cells L11.out.kx; clear hk11 hb11)
        | (go_at_call 14; refine (EK.out _ FK.out _ _ _ _ _ _ _ _ _ _ _ _ L11.out.of.2.2 K11.out).mono ?_; rintro e w12 ⟨rfl, hb12⟩; have B12 := hid (B11.out.below hb12); clear hb12))
      all_goals
        go_wp2_with fail
        go_ret
        exact ⟨rfl, B12.out.bel⟩
end Go.Proofs.YtkcbomhhdfgihaaGreat
