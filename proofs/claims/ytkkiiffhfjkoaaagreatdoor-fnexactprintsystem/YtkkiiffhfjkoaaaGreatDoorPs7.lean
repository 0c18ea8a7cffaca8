import Derived.Test.YtkkiiffhfjkoaaaGreatDoorPs6
namespace Go.Proofs.YtkkiiffhfjkoaaaGreatDoor
open Go.RowKit Go.Sort
set_option linter.unusedVariables false
attribute [local go_sem ↓] Go.wp_at_zero Go.wp_at_succ

set_option maxHeartbeats 800000 in
theorem l4SystemOK_any (sg : Int) (eo xo : Option Addr) (en ec xn xc : Nat) (os : List ObD) (ts : List (Int × Int)) (w : World) (hen : en ≤ 9223372036854775807) (hec : en ≤ ec) (hxn : xn ≤ 9223372036854775807) (he : ObsOf w eo en os) (hx : ItemsOf w xo xn ts) :
    Calls Tryz.prog 11 #[.agg #[.int .i64 sg, .slice eo en ec, .slice xo xn xc]] w fun e w' => e = .returned (.bool (decide ((sysFault sg os ts).1 = 0))) ∧ Below w.heap.size w w' := by
  have B := below1 w (.cells #[.int .i64 sg, .slice eo en ec, .slice xo xn xc] 31)
  have C := hid (specSystem_any sg eo xo en ec xn xc os ts _ hen hec hxn (he.below B) (hx.below B))
  obtain ⟨fc, hfc⟩ : ∃ fc, fc = (sysFault sg os ts).1 := ⟨_, rfl⟩
  rw [← hfc] at C ⊢
  have BB := hid B
  clear he hx hfc B
  by_cases h0 : fc = 0
  · subst h0
    go_enter Tryz.func11, Tryz.ntmps11
    go_wp2_with (go_at_call 24; refine C.out.mono ?_; rintro e w1 ⟨rfl, hb1⟩; have B1 := hid (BB.out.trans (hb1.mono BB.out.size)); clear hb1)
    go_ret
    exact ⟨ret_bool (by simp), B1.out⟩
  · have h0' : (fc == 0) = false := by simpa using h0
    have H0 := hid h0
    go_enter Tryz.func11, Tryz.ntmps11
    go_wp2_with (go_at_call 24; refine C.out.mono ?_; rintro e w1 ⟨rfl, hb1⟩; have B1 := hid (BB.out.trans (hb1.mono BB.out.size)); clear hb1)
    go_ret
    exact ⟨ret_bool (by simp [H0.out]), B1.out⟩


theorem five_c {w : World} {H : Nat} {a b c d e : Value} {t : TypeId} (k : w.heap[H]? = some (.cells #[a, b, c, d, e] t (0, 0))) : w.cell? ⟨H, 0, none⟩ = some a ∧ w.cell? ⟨H, 1, none⟩ = some b ∧ w.cell? ⟨H, 2, none⟩ = some c ∧ w.cell? ⟨H, 3, none⟩ = some d ∧ w.cell? ⟨H, 4, none⟩ = some e := by
  simp [World.cell?, k]
/-- A callee's answer in every world of the class. -/
theorem decR (z : Int) (h : I64 z) (W : World) : ∀ d os, Calls Tryz.prog 12 #[.int .i64 z] (grow (redrawn W d) os) fun e w'' => e = .returned (tx (Lib.itoa z)) ∧ ∃ p : Regrown, w'' = grow (redrawn W p.d) p.os := fun d os => Calls.regrown_of (l5Dec_any z _ h.1 h.2)
theorem stmR (key : List UInt8) (hk : key.length ≤ 10) (ao : Option Addr) (n c : Nat) (ss : List StmD) (W : World) (hok : StmsOK ss) (hs : StmsOf W ao n ss) : ∀ d os, Calls Tryz.prog 14 #[.string ⟨key.toArray⟩, .slice ao n c] (grow (redrawn W d) os) fun e w'' => e = .returned (tx (stmsT key ss n)) ∧ ∃ p : Regrown, w'' = grow (redrawn W p.d) p.os := fun d os => Calls.regrown_of (stmLines_any key hk ao n c ss _ hok (hs.below (below_regrown W d os)))
theorem codR (ao : Option Addr) (n c : Nat) (its : List (Int × Int)) (W : World) (hok : CodeOK its) (hs : ItemsOf W ao n its) : ∀ d os, Calls Tryz.prog 15 #[.slice ao n c] (grow (redrawn W d) os) fun e w'' => e = .returned (tx (codeT its n)) ∧ ∃ p : Regrown, w'' = grow (redrawn W p.d) p.os := fun d os => Calls.regrown_of (codeText_any ao n c its _ hok (hs.below (below_regrown W d os)))

set_option maxRecDepth 100000 in
set_option maxHeartbeats 12800000 in
theorem specPrint_yes (sg : Int) (eo xo : Option Addr) (en ec xn xc : Nat) (os : List ObD) (ts : List (Int × Int)) (w : World) (hen : en ≤ 9223372036854775807) (hec : en ≤ ec) (hxn : xn ≤ 9223372036854775807) (hf : (sysFault sg os ts).1 = 0) (hok : SysOK' sg os ts) (he : ObsOf w eo en os) (hx : ItemsOf w xo xn ts) :
    Calls Tryz.prog 5 #[.agg #[.int .i64 sg, .slice eo en ec, .slice xo xn xc]] w fun e w' => e = .returned (tx (sysT sg os ts)) ∧ Below w.heap.size w w' := by
  have HEL := hid he.1
  have HXL := hid hx.1
  have hn64 : en ≤ 64 := by rw [← he.1]; exact hok.on
  have hx200 : xn ≤ 200 := by rw [← hx.1]; exact hok.tn
  have HO := hid hok
  have B0 := below1 w (.cells #[.int .i64 sg, .slice eo en ec, .slice xo xn xc] 31)
  have X0 := hid (heap_alloc_new w (.cells #[.int .i64 sg, .slice eo en ec, .slice xo xn xc] 31))
  have HE := hid he
  have HX := hid hx
  have CS := hid (l4SystemOK_any sg eo xo en ec xn xc os ts _ hen hec hxn (he.below B0) (hx.below B0))
  rw [decide_eq_true hf] at CS
  have hg := hok.g
  have DS := hid (fun W => l5Dec_any sg W hg.1 hg.2)
  have hgl := itoa_l hg
  obtain ⟨s1, hs1, S1⟩ := catx [115, 105, 103, 110, 97, 108, 115, 32] (Lib.itoa sg) (by simp; omega)
  obtain ⟨s2, hs2, S2⟩ := catx s1 [10] (by rw [hs1.out]; simp; omega)
  have hs2l : s2.length ≤ 30 := by rw [hs2.out, hs1.out]; simp; omega
  have BB0 := hid B0
  clear hf hok he hx B0 hg hgl
  go_enter Tryz.func5, Tryz.ntmps5
  go_upto_region 4 with (first
    | (go_at_call 11; refine CS.out.mono ?_; rintro e w1 ⟨rfl, hb1⟩; have X1 := hid (block_below X0.out hb1); have B1 := hid (BB0.out.trans (hb1.mono BB0.out.size)); obtain ⟨q0, q1, q2⟩ := three_cells X1.out; clear hb1)
    | (go_at_call 12; refine (DS.out _).mono ?_; rintro e w2 ⟨rfl, hb2⟩; have X2 := hid (block_below X1.out hb2); have B2 := hid (B1.out.trans (hb2.mono B1.out.size)); clear q0 q1 q2 hb2; obtain ⟨q0, q1, q2⟩ := three_cells X2.out))
  obtain ⟨H0, hH0⟩ : ∃ H, H = w.heap.size := ⟨_, rfl⟩
  have X2' : Hid (w2.heap[H0]? = some (.cells #[.int .i64 sg, .slice eo en ec, .slice xo xn xc] 31 (0, 0))) := hid (by rw [hH0]; exact X2.out)
  rw [← hH0] at q0 q1 q2 ⊢
  clear X0 X1 X2 CS DS B1 BB0 S1 S2 hH0
  go_wp2_with fail
  go_loopw [3, 27] (fun o i wr => ∃ (k : Nat), k ≤ en ∧ i = .int .i64 k ∧ o = tx (s2 ++ obsT os k) ∧ Below w2.heap.size w2 wr) (fun _ i _ => en - (intOf i).toNat)
  case atStart => exact ⟨0, Nat.zero_le _, rfl, by simp [obsT, catTo], Below.refl _ _⟩
  case round =>
    obtain ⟨k, hk, rfl, rfl, hb⟩ := hrel
    have HB := hid hb
    have BR : Hid (Below w.heap.size w wr) := hid (B2.out.trans (hb.mono B2.out.size))
    have XR := hid (block_below X2'.out hb)
    clear q0 q1 q2 hb
    obtain ⟨q0, q1, q2⟩ := three_cells XR.out
    by_cases hlt : k < en
    · obtain ⟨b, off, rfl, hbl, hc⟩ := HE.out.2 (by omega)
      obtain ⟨x, ex⟩ : ∃ x, x = os.getD k ob0 := ⟨_, rfl⟩
      have hk8 := hc k hlt
      have hob := HO.out.o k (by rw [HEL.out]; exact hlt)
      rw [← ex] at hk8 hob
      obtain ⟨h, hcs, hmx, hof⟩ := hk8
      obtain ⟨k0, k1, k2, k3, k4, k5, k6, k7⟩ := hcs.below hbl BR.out
      have hbl' : b < wr.heap.size := Nat.lt_of_lt_of_le hbl BR.out.size
      have ES : Hid (obsT os (k + 1) = obsT os k ++ obT x) := hid (by rw [ex]; rfl)
      obtain ⟨t, ht⟩ : ∃ t, Hid (t = s2 ++ obsT os k) := ⟨_, hid rfl⟩
      have htl : t.length ≤ 18560000100 := by
        have := obsT_l HO.out (n := k) (by rw [HEL.out]; omega)
        rw [ht.out]; simp; omega
      rw [← ht.out]
      have OB := hid hob
      have OF := hid hof
      obtain ⟨ko, kn, kc, vo, vn, vc, uo, un, uc, so, sn, sc, tt, tn, tc⟩ := h
      obtain ⟨p, qc, dc, ks, vs, us, ss, tr⟩ := x
      have hkn : kn ≤ 32 := by have h1 := hof.hk.1; have h2 := hob.kn; dsimp only at h1 h2; omega
      have hun : un ≤ 1048576 := by have h1 := hof.hu.1; have h2 := hob.un; dsimp only at h1 h2; omega
      have hsn : sn ≤ 200 := by have h1 := hof.hs.1; have h2 := hob.sn; dsimp only at h1 h2; omega
      have htn : tn ≤ 500 := by have h1 := hof.ht.1; have h2 := hob.tn; dsimp only at h1 h2; omega
      obtain ⟨gp, gq, gd⟩ := (⟨hob.p, hob.q, hob.d⟩ : I64 p ∧ I64 qc ∧ I64 dc)
      have lp := itoa_l gp
      have lq := itoa_l gq
      have ld := itoa_l gd
      dsimp only at k0 k1 k2 k3 k4 k5 k6 k7
      have BX := hid (below1 wr (.cells #[.int .i64 p, .int .i64 qc, .int .i64 dc, .slice ko kn kc, .slice vo vn vc, .slice uo un uc, .slice so sn sc, .slice tt tn tc] 47))
      have XX := hid (heap_alloc_new wr (.cells #[.int .i64 p, .int .i64 qc, .int .i64 dc, .slice ko kn kc, .slice vo vn vc, .slice uo un uc, .slice so sn sc, .slice tt tn tc] 47))
      obtain ⟨W, hWW⟩ : ∃ W, W = wr.alloc (.cells #[.int .i64 p, .int .i64 qc, .int .i64 dc, .slice ko kn kc, .slice vo vn vc, .slice uo un uc, .slice so sn sc, .slice tt tn tc] 47) := ⟨_, rfl⟩
      obtain ⟨HW, hHW⟩ : ∃ H, H = wr.heap.size := ⟨_, rfl⟩
      have XW : Hid (W.heap[HW]? = some (.cells #[.int .i64 p, .int .i64 qc, .int .i64 dc, .slice ko kn kc, .slice vo vn vc, .slice uo un uc, .slice so sn sc, .slice tt tn tc] 47 (0, 0))) := hid (by rw [hWW, hHW]; exact XX.out)
      have BW : Hid (Below w2.heap.size w2 W) := hid (by rw [hWW]; exact HB.out.trans (BX.out.mono HB.out.size))
      obtain ⟨d0, d1, d2, d3, d4, d5, d6, d7⟩ := eight_cells XW.out
      obtain ⟨a1, ha1, A1⟩ := catx [111, 98, 106, 101, 99, 116, 32] (Lib.itoa p) (by simp; omega)
      obtain ⟨a2, ha2, A2⟩ := catx a1 [32] (by rw [ha1.out]; simp; omega)
      obtain ⟨a3, ha3, A3⟩ := catx a2 (Lib.itoa qc) (by rw [ha2.out, ha1.out]; simp; omega)
      obtain ⟨a4, ha4, A4⟩ := catx a3 [32] (by rw [ha3.out, ha2.out, ha1.out]; simp; omega)
      obtain ⟨a5, ha5, A5⟩ := catx a4 (Lib.itoa dc) (by rw [ha4.out, ha3.out, ha2.out, ha1.out]; simp; omega)
      obtain ⟨a6, ha6, A6⟩ := catx a5 [10] (by rw [ha5.out, ha4.out, ha3.out, ha2.out, ha1.out]; simp; omega)
      obtain ⟨a7, ha7, A7⟩ := catx t a6 (by rw [ha6.out, ha5.out, ha4.out, ha3.out, ha2.out, ha1.out]; simp; omega)
      have EA : Hid (a7 = t ++ obHead ⟨p, qc, dc, ks, vs, us, ss, tr⟩) := hid (by rw [ha7.out, ha6.out, ha5.out, ha4.out, ha3.out, ha2.out, ha1.out]; simp [obHead])
      have a7l : a7.length ≤ 18560000200 := by have := obHead_l OB.out; rw [EA.out]; simp only [List.length_append]; omega
      have D1 := hid (decR p gp W)
      have D2 := hid (decR qc gq W)
      have D3 := hid (decR dc gd W)
      have e0 := cell_regrown d0
      have e1 := cell_regrown d1
      have e2 := cell_regrown d2
      clear hc ex hcs hmx hof hob hs2l gp gq gd lp lq ld BX XX htl ha1 ha2 ha3 ha4 ha5 ha6 ha7 q0 q1 q2 HX HE
      go_upto_region 7 with fail
      rw [← hHW, ← hWW]
      clear hWW hHW k0 k1 k2 k3 k4 k5 k6 k7 d0 d1 d2 d3 d4 d5 d6 d7
      refine wp_region_quiet_below (by kernel_rfl) (by kernel_rfl) ?_
      repeat (any_goals (first | go_big_quiet_step (first | with_reducible exact D1.out _ _ | with_reducible exact D2.out _ _ | with_reducible exact D3.out _ _) | quiet_step (first | with_reducible exact D1.out _ _ | with_reducible exact D2.out _ _ | with_reducible exact D3.out _ _)))
      refine wpQuiet_nil ?_
      intro _ hw'
      obtain ⟨⟨dq, osq⟩, hw''⟩ := hw'
      subst hw''
      obtain ⟨W1, hW1⟩ : ∃ W1, W1 = grow (redrawn W dq) osq := ⟨_, rfl⟩
      have BW1 : Hid (Below W.heap.size W W1) := hid (by rw [hW1]; exact below_regrown W dq osq)
      rw [← hW1]
      clear hW1 e0 e1 e2 D1 D2 D3 A1 A2 A3 A4 A5 A6 A7
      have X1 := hid (block_below XW.out BW1.out)
      have B1 : Hid (Below w2.heap.size w2 W1) := hid (BW.out.trans (BW1.out.mono BW.out.size))
      have B1w : Hid (Below w.heap.size w W1) := hid (B2.out.trans (B1.out.mono B2.out.size))
      obtain ⟨d0, d1, d2, d3, d4, d5, d6, d7⟩ := eight_cells X1.out
      clear BW BW1 XW
      go_wp2_with fail
      go_loopw [3, 52] (fun o i wz => ∃ (j : Nat), j ≤ kn ∧ i = .int .i64 j ∧ o = tx (a7 ++ varsT ks vs j) ∧ Below W1.heap.size W1 wz) (fun _ i _ => kn - (intOf i).toNat)
      case atStart => exact ⟨0, Nat.zero_le _, rfl, by simp [varsT, catTo], Below.refl _ _⟩
      case round =>
        obtain ⟨R, hR⟩ : ∃ R, R = wr := ⟨_, rfl⟩
        subst hR
        obtain ⟨j, hj, rfl, rfl, hbz⟩ := hrel
        have HZ := hid hbz
        have BZ : Hid (Below w.heap.size w R) := hid (B1w.out.trans (hbz.mono B1w.out.size))
        have XZ := hid (block_below X1.out hbz)
        clear d0 d1 d2 d3 d4 d5 d6 d7 hbz
        obtain ⟨d0, d1, d2, d3, d4, d5, d6, d7⟩ := eight_cells XZ.out
        have dl := lt_of_block XZ.out
        by_cases hjt : j < kn
        · have hkl : ks.length = kn := OF.out.hk.1
          have hvl : vs.length = kn := by rw [← hkl]; exact OB.out.kl.symm
          have hvn : vn = kn := by rw [← hvl]; exact OF.out.hv.1.symm
          subst hvn
          obtain ⟨kb, ko2, rfl, hkb, hck⟩ := OF.out.hk.2 (by dsimp only; omega)
          obtain ⟨vb, vo2, rfl, hvb, hcv⟩ := OF.out.hv.2 (by dsimp only; omega)
          dsimp only at hkb hck hvb hcv
          obtain ⟨kd, hkd⟩ : ∃ z, z = ks.getD j 0 := ⟨_, rfl⟩
          obtain ⟨vv, hvv⟩ : ∃ z, z = vs.getD j 0 := ⟨_, rfl⟩
          have c0 := (BZ.out.cell (p := ⟨kb, ko2 + j, none⟩) hkb).trans (hck j hjt)
          have c1 := (BZ.out.cell (p := ⟨vb, vo2 + j, none⟩) hvb).trans (hcv j hjt)
          have r1 := OB.out.k j (by dsimp only; omega)
          have r2 := OB.out.v j (by dsimp only; omega)
          dsimp only at r1 r2
          have hT := varsT_l OB.out (n := j) (by dsimp only; omega)
          dsimp only at hT
          rw [← hkd] at c0 r1
          rw [← hvv] at c1 r2
          have hkb' : kb < R.heap.size := Nat.lt_of_lt_of_le hkb BZ.out.size
          have hvb' : vb < R.heap.size := Nat.lt_of_lt_of_le hvb BZ.out.size
          have EV : Hid (varsT ks vs (j + 1) = varsT ks vs j ++ ([118, 97, 114, 32] ++ kindName kd ++ [32] ++ Lib.itoa vv ++ [10])) := hid (by rw [hkd, hvv]; rfl)
          obtain ⟨m, hm⟩ : ∃ m : Nat, kd = (m : Int) + 1 := ⟨(kd - 1).toNat, by omega⟩
          have hm7 : m < 7 := by omega
          have hmi0 : (0 : Int) ≤ (m : Int) := by omega
          have hmi : (m : Int) < 7 := by omega
          have wr1 : IntKind.i64.wrap ((m : Int) + 1 - 1) = m := by rw [IntWalk.i64_in _ (by omega)]; omega
          have wr2 : IntKind.i64.wrap (m : Int) = m := IntWalk.i64_in _ (by omega)
          obtain ⟨nm, hnm⟩ : ∃ nm, nm = kindName kd := ⟨_, rfl⟩
          have hnl := kindName_l kd
          have hil := itoa_l r2
          have CK := hid (fun V => kindNames_at m hm7 V)
          rw [← hm, ← hnm] at CK
          rw [← hnm] at EV hnl
          have CD := hid (fun V => l5Dec_any vv V r2.1 r2.2)
          obtain ⟨v, hv⟩ : ∃ v, Hid (v = a7 ++ varsT ks vs j) := ⟨_, hid rfl⟩
          have hvl2 : v.length ≤ 18560001200 := by rw [hv.out]; simp; omega
          rw [← hv.out]
          obtain ⟨x1, hx1, X1⟩ := catx [118, 97, 114, 32] nm (by simp; omega)
          obtain ⟨x2, hx2, X2⟩ := catx x1 [32] (by rw [hx1.out]; simp; omega)
          obtain ⟨x3, hx3, X3⟩ := catx x2 (Lib.itoa vv) (by rw [hx2.out, hx1.out]; simp; omega)
          obtain ⟨x4, hx4, X4⟩ := catx x3 [10] (by rw [hx3.out, hx2.out, hx1.out]; simp; omega)
          obtain ⟨x5, hx5, X5⟩ := catx v x4 (by rw [hx4.out, hx3.out, hx2.out, hx1.out]; simp; omega)
          have EX : Hid (x5 = a7 ++ varsT ks vs (j + 1)) := hid (by rw [hx5.out, hx4.out, hx3.out, hx2.out, hx1.out, hv.out, EV.out]; simp)
          subst hm
          clear hkd hvv hck hcv r1 r2 hT hnm hnl hil hvl2 a7l OF OB hkl hvl
          go_upto_region 11 with fail
          have SD : Hid (R.drew.cell? ⟨HW, 4, none⟩ = some (.slice (some ⟨vb, vo2, none⟩) vn vc) ∧ R.drew.cell? ⟨vb, vo2 + j, none⟩ = some (.int .i64 vv)) := hid ⟨d4, c1⟩
          have LD : Hid (HW < R.drew.heap.size ∧ vb < R.drew.heap.size) := hid ⟨dl, hvb'⟩
          have BD : Hid (Below R.heap.size R R.drew) := hid ((Below.refl _ _).drew)
          obtain ⟨D, hD⟩ : ∃ D, Hid (D = R.drew) := ⟨_, hid rfl⟩
          have s4 := SD.out.1
          have s1 := SD.out.2
          go_region_with (first
            | (go_at_call 13; with_reducible refine (CK.out R.drew).mono ?_; rintro e w5 ⟨g, rfl, hg, hb5⟩; have t4 := (hb5.cell (p := ⟨HW, 4, none⟩) LD.out.1).trans SD.out.1; have t1 := (hb5.cell (p := ⟨vb, vo2 + j, none⟩) LD.out.2).trans SD.out.2; have gl := block_lt_of_cell hg; have HG := hid hg; have B5 := hid (BD.out.trans (hb5.mono BD.out.size)); clear hb5)
            | (go_at_call 13; with_reducible refine (CK.out w6).mono ?_; rintro e w8 ⟨g, rfl, hg, hb8⟩; have t4 := (hb8.cell (p := ⟨HW, 4, none⟩) (Nat.lt_of_lt_of_le LD.out.1 B6'.out.size)).trans u4; have t1 := (hb8.cell (p := ⟨vb, vo2 + j, none⟩) (Nat.lt_of_lt_of_le LD.out.2 B6'.out.size)).trans u1; have BE := hid (B6.out.trans (hb8.mono B6.out.size)); clear hb8)
            | (go_at_call 12; with_reducible refine (CD.out R.drew).mono ?_; rintro e w6 ⟨rfl, hb6⟩; have u4 := (hb6.cell (p := ⟨HW, 4, none⟩) LD.out.1).trans SD.out.1; have u1 := (hb6.cell (p := ⟨vb, vo2 + j, none⟩) LD.out.2).trans SD.out.2; have B6' := hid hb6; have B6 := hid (BD.out.trans (hb6.mono BD.out.size)); clear hb6)
            | (go_at_call 12; with_reducible refine (CD.out w5).mono ?_; rintro e w7 ⟨rfl, hb7⟩; have hg7 := (hb7.cell (p := ⟨g, m, none⟩) gl).trans HG.out; have BE := hid (B5.out.trans (hb7.mono B5.out.size)); clear hb7))
          all_goals
            go_wp2_with fail
            go_roundw
            case rel => exact ⟨j + 1, by omega, by go_num, by rw [EX.out], HZ.out.trans (BE.out.mono HZ.out.size)⟩
            case measure => simp [intOf]; omega
        · have ej : j = kn := by omega
          subst ej
          have hkl : ks.length = j := OF.out.hk.1
          obtain ⟨b1, hb1⟩ : ∃ u, Hid (u = a7 ++ varsT ks vs j) := ⟨_, hid rfl⟩
          have b1l : b1.length ≤ 18560001200 := by
            have := varsT_l OB.out (n := j) (by dsimp only; omega)
            dsimp only at this
            rw [hb1.out]; simp; omega
          rw [← hb1.out]
          have Q2 : Hid (Below w2.heap.size w2 R) := hid (B1.out.trans (HZ.out.mono B1.out.size))
          clear a7l HZ
          go_wp2_with fail
          go_loopw [3, 79] (fun o i wz => ∃ (m : Nat), m ≤ un ∧ i = .int .i64 m ∧ o = tx (b1 ++ subsT us m) ∧ Below R.heap.size R wz) (fun _ i _ => un - (intOf i).toNat)
          case atStart => exact ⟨0, Nat.zero_le _, rfl, by simp [subsT, catTo], Below.refl _ _⟩
          case round =>
            obtain ⟨R3, hR3⟩ : ∃ R, R = wr := ⟨_, rfl⟩
            subst hR3
            obtain ⟨m, hm, rfl, rfl, hbz⟩ := hrel
            have HZ := hid hbz
            have BZ3 : Hid (Below w.heap.size w R3) := hid (BZ.out.trans (hbz.mono BZ.out.size))
            have XZ3 := hid (block_below XZ.out hbz)
            clear d0 d1 d2 d3 d4 d5 d6 d7 hbz dl
            obtain ⟨d0, d1, d2, d3, d4, d5, d6, d7⟩ := eight_cells XZ3.out
            have dl := lt_of_block XZ3.out
            have hul : us.length = un := OF.out.hu.1
            by_cases hmt : m < un
            · obtain ⟨kb, ko2, rfl, hkb, hck⟩ := OF.out.hu.2 (by dsimp only; omega)
              dsimp only at hkb hck
              obtain ⟨kd, hkd⟩ : ∃ z, z = us.getD m 0 := ⟨_, rfl⟩
              have c0 := (BZ3.out.cell (p := ⟨kb, ko2 + m, none⟩) hkb).trans (hck m hmt)
              have r1 := OB.out.u m (by dsimp only; omega)
              dsimp only at r1
              have hT := subsT_l OB.out (n := m) (by dsimp only; omega)
              dsimp only at hT
              rw [← hkd] at c0 r1
              have hkb' : kb < R3.heap.size := Nat.lt_of_lt_of_le hkb BZ3.out.size
              have EV : Hid (subsT us (m + 1) = subsT us m ++ ([115, 117, 98, 32] ++ Lib.itoa kd ++ [10])) := hid (by rw [hkd]; rfl)
              have hil := itoa_l r1
              have CD := hid (fun V => l5Dec_any kd V r1.1 r1.2)
              obtain ⟨v, hv⟩ : ∃ v, Hid (v = b1 ++ subsT us m) := ⟨_, hid rfl⟩
              have hvl2 : v.length ≤ 18600001200 := by rw [hv.out]; simp; omega
              rw [← hv.out]
              obtain ⟨x1, hx1, X1⟩ := catx [115, 117, 98, 32] (Lib.itoa kd) (by simp; omega)
              obtain ⟨x2, hx2, X2⟩ := catx x1 [10] (by rw [hx1.out]; simp; omega)
              obtain ⟨x3, hx3, X3⟩ := catx v x2 (by rw [hx2.out, hx1.out]; simp; omega)
              have EX : Hid (x3 = b1 ++ subsT us (m + 1)) := hid (by rw [hx3.out, hx2.out, hx1.out, hv.out, EV.out]; simp)
              clear hkd hck r1 hT hil hvl2 b1l OF OB hkl hul
              have HMT := hid hmt
              go_wp2_with (go_at_call 12; with_reducible refine (CD.out _).mono ?_; rintro e w7 ⟨rfl, hb7⟩; have B7 := hid hb7; clear hb7)
              go_roundw
              case rel => exact ⟨m + 1, by have := HMT.out; omega, by go_num, by rw [EX.out], HZ.out.trans (B7.out.mono HZ.out.size)⟩
              case measure => have := HMT.out; simp [intOf]; omega
            · have em : m = un := by omega
              subst em
              obtain ⟨b2, hb2⟩ : ∃ u, Hid (u = b1 ++ subsT us m) := ⟨_, hid rfl⟩
              have b2l : b2.length ≤ 18600001200 := by
                have := subsT_l OB.out (n := m) (by dsimp only; omega)
                dsimp only at this
                rw [hb2.out]; simp; omega
              rw [← hb2.out]
              have Q3 : Hid (Below w2.heap.size w2 R3) := hid (Q2.out.trans (HZ.out.mono Q2.out.size))
              clear b1l HZ
              go_wp2_with fail
              go_loopw [3, 94] (fun o i wz => ∃ (y : Nat), y ≤ sn ∧ i = .int .i64 y ∧ o = tx (b2 ++ stsT ss y) ∧ Below R3.heap.size R3 wz) (fun _ i _ => sn - (intOf i).toNat)
              case atStart => exact ⟨0, Nat.zero_le _, rfl, by simp [stsT, catTo], Below.refl _ _⟩
              case round =>
                obtain ⟨R4, hR4⟩ : ∃ R, R = wr := ⟨_, rfl⟩
                subst hR4
                obtain ⟨y, hy, rfl, rfl, hbz⟩ := hrel
                have HZ := hid hbz
                have BZ4 : Hid (Below w.heap.size w R4) := hid (BZ3.out.trans (hbz.mono BZ3.out.size))
                have XZ4 := hid (block_below XZ3.out hbz)
                clear d0 d1 d2 d3 d4 d5 d6 d7 hbz dl
                obtain ⟨d0, d1, d2, d3, d4, d5, d6, d7⟩ := eight_cells XZ4.out
                have dl := lt_of_block XZ4.out
                have hsl : ss.length = sn := OF.out.hs.1
                by_cases hyt : y < sn
                · obtain ⟨kb, ko2, rfl, hkb, hck⟩ := OF.out.hs.2 (by dsimp only; omega)
                  dsimp only at hkb hck
                  obtain ⟨x, ex⟩ : ∃ z, z = ss.getD y st0 := ⟨_, rfl⟩
                  have hx4 := (hck y hyt).below hkb BZ4.out
                  have hst := OB.out.s y (by dsimp only; omega)
                  dsimp only at hst
                  have hT := stsT_l OB.out (n := y) (by dsimp only; omega)
                  dsimp only at hT
                  have EV : Hid (stsT ss (y + 1) = stsT ss y ++ stT x) := hid (by rw [ex]; rfl)
                  rw [← ex] at hx4 hst
                  have hhl := stHead_l hst
                  have hsl2 := stT_l hst
                  obtain ⟨pp, ii, en', ex'⟩ := x
                  obtain ⟨c0, c1, ⟨eo2, en2, ec2, c2, hen2, hE⟩, ⟨fo2, fn2, fc2, c3, hfn2, hF⟩⟩ := hx4
                  obtain ⟨g1, g2, g3, g4⟩ := hst
                  dsimp only at c0 c1 hE hF g1 g2 g3 g4
                  have hkb' : kb < R4.heap.size := Nat.lt_of_lt_of_le hkb BZ4.out.size
                  have l1 := itoa_l g1
                  have l2 := itoa_l g2
                  obtain ⟨v, hv⟩ : ∃ v, Hid (v = b2 ++ stsT ss y) := ⟨_, hid rfl⟩
                  have hvl2 : v.length ≤ 18700013200 := by rw [hv.out]; simp; omega
                  rw [← hv.out]
                  have BX := hid (below1 R4 (.cells #[.int .i64 pp, .int .i64 ii, .slice eo2 en2 ec2, .slice fo2 fn2 fc2] 52))
                  have XX := hid (heap_alloc_new R4 (.cells #[.int .i64 pp, .int .i64 ii, .slice eo2 en2 ec2, .slice fo2 fn2 fc2] 52))
                  obtain ⟨V, hVV⟩ : ∃ V, V = R4.alloc (.cells #[.int .i64 pp, .int .i64 ii, .slice eo2 en2 ec2, .slice fo2 fn2 fc2] 52) := ⟨_, rfl⟩
                  obtain ⟨HV, hHV⟩ : ∃ H, H = R4.heap.size := ⟨_, rfl⟩
                  have XV : Hid (V.heap[HV]? = some (.cells #[.int .i64 pp, .int .i64 ii, .slice eo2 en2 ec2, .slice fo2 fn2 fc2] 52 (0, 0))) := hid (by rw [hVV, hHV]; exact XX.out)
                  have BV : Hid (Below R4.heap.size R4 V) := hid (by rw [hVV]; exact BX.out)
                  obtain ⟨f0, f1, f2, f3⟩ := four_cells XV.out
                  obtain ⟨x1, hx1, X1⟩ := catx [115, 116, 97, 116, 101, 32] (Lib.itoa pp) (by simp; omega)
                  obtain ⟨x2, hx2, X2⟩ := catx x1 [32] (by rw [hx1.out]; simp; omega)
                  obtain ⟨x3, hx3, X3⟩ := catx x2 (Lib.itoa ii) (by rw [hx2.out, hx1.out]; simp; omega)
                  obtain ⟨x4, hx4, X4⟩ := catx x3 [10] (by rw [hx3.out, hx2.out, hx1.out]; simp; omega)
                  obtain ⟨x5, hx5, X5⟩ := catx v x4 (by rw [hx4.out, hx3.out, hx2.out, hx1.out]; simp; omega)
                  have EX : Hid (x5 = v ++ stHead ⟨pp, ii, en', ex'⟩) := hid (by rw [hx5.out, hx4.out, hx3.out, hx2.out, hx1.out]; simp [stHead])
                  have x5l : x5.length ≤ 18700013300 := by rw [EX.out]; simp only [List.length_append]; omega
                  have D1 := hid (decR pp g1 V)
                  have D2 := hid (decR ii g2 V)
                  have e0 := cell_regrown f0
                  have e1 := cell_regrown f1
                  have nE : en'.length = en2 := hE.1
                  have nF : ex'.length = fn2 := hF.1
                  have lE := stmsT_l (key := [101, 110, 116, 114, 121]) (by decide) g3 (Nat.le_refl _)
                  have lF := stmsT_l (key := [101, 120, 105, 116]) (by decide) g4 (Nat.le_refl _)
                  rw [nE] at lE
                  rw [nF] at lF
                  obtain ⟨tE, htE⟩ : ∃ t, t = stmsT [101, 110, 116, 114, 121] en' en2 := ⟨_, rfl⟩
                  obtain ⟨tF, htF⟩ : ∃ t, t = stmsT [101, 120, 105, 116] ex' fn2 := ⟨_, rfl⟩
                  rw [← htE] at lE
                  rw [← htF] at lF
                  obtain ⟨y1, hy1, Y1⟩ := catx tE tF (by omega)
                  obtain ⟨y2, hy2, Y2⟩ := catx x5 y1 (by rw [hy1.out]; simp; omega)
                  have EY : Hid (y2 = b2 ++ stsT ss (y + 1)) := hid (by rw [hy2.out, hy1.out, EX.out, hv.out, EV.out, htE, htF]; simp [stT, nE, nF])
                  have GE := hid g3
                  have GF := hid g4
                  have KE2 := hid (fun U hU => stmR [101, 110, 116, 114, 121] (by decide) eo2 en2 ec2 en' U g3 (hE.below hU))
                  have KF2 := hid (fun U hU => stmR [101, 120, 105, 116] (by decide) fo2 fn2 fc2 ex' U g4 (hF.below hU))
                  rw [← htE] at KE2
                  rw [← htF] at KF2
                  have HYT := hid hyt
                  clear ex hck hT hhl hsl2 g1 g2 g3 g4 hE hF l1 l2 hvl2 BX XX lE lF b2l x5l OF OB hkl hul hsl nE nF htE htF hen2 hfn2 hx1 hx2 hx3 hx4 hx5
                  go_upto_region 21 with fail
                  rw [← hHV, ← hVV]
                  clear hVV hHV c0 c1 c2 c3
                  refine wp_region_quiet_below (by kernel_rfl) (by kernel_rfl) ?_
                  repeat (any_goals (first | go_big_quiet_step (first | with_reducible exact D1.out _ _ | with_reducible exact D2.out _ _) | quiet_step (first | with_reducible exact D1.out _ _ | with_reducible exact D2.out _ _)))
                  refine wpQuiet_nil ?_
                  intro _ hw'
                  obtain ⟨⟨dq, osq⟩, hw''⟩ := hw'
                  subst hw''
                  obtain ⟨U, hU⟩ : ∃ U, U = grow (redrawn V dq) osq := ⟨_, rfl⟩
                  have BU : Hid (Below V.heap.size V U) := hid (by rw [hU]; exact below_regrown V dq osq)
                  rw [← hU]
                  clear hU e0 e1 D1 D2 X1 X2 X3 X4 X5 f0 f1 f2 f3
                  have XU := hid (block_below XV.out BU.out)
                  have BU4 : Hid (Below R4.heap.size R4 U) := hid (BV.out.trans (BU.out.mono BV.out.size))
                  obtain ⟨f0, f1, f2, f3⟩ := four_cells XU.out
                  have e2 := cell_regrown f2
                  have e3 := cell_regrown f3
                  have K1 := hid (KE2.out U BU4.out)
                  have K2 := hid (KF2.out U BU4.out)
                  clear KE2 KF2
                  go_wp2_with fail
                  refine wp_region_quiet_below (by kernel_rfl) (by kernel_rfl) ?_
                  repeat (any_goals (first | go_big_quiet_step (first | with_reducible exact K1.out _ _ | with_reducible exact K2.out _ _) | quiet_step (first | with_reducible exact K1.out _ _ | with_reducible exact K2.out _ _)))
                  refine wpQuiet_nil ?_
                  intro _ hw'
                  obtain ⟨⟨dq2, osq2⟩, hw''⟩ := hw'
                  subst hw''
                  go_wp2_with fail
                  go_roundw
                  case rel => exact ⟨y + 1, by have := HYT.out; omega, by go_num, by rw [EY.out], HZ.out.trans ((BU4.out.trans ((below_regrown U dq2 osq2).mono BU4.out.size)).mono HZ.out.size)⟩
                  case measure => have := HYT.out; simp [intOf]; omega
                · have ey : y = sn := by omega
                  subst ey
                  obtain ⟨b3, hb3⟩ : ∃ u, Hid (u = b2 ++ stsT ss y) := ⟨_, hid rfl⟩
                  have b3l : b3.length ≤ 18700013200 := by
                    have := stsT_l OB.out (n := y) (by dsimp only; omega)
                    dsimp only at this
                    rw [hb3.out]; simp; omega
                  rw [← hb3.out]
                  have Q4 : Hid (Below w2.heap.size w2 R4) := hid (Q3.out.trans (HZ.out.mono Q3.out.size))
                  clear b2l HZ
                  go_wp2_with fail
                  go_loopw [3, 124] (fun o i wz => ∃ (z : Nat), z ≤ tn ∧ i = .int .i64 z ∧ o = tx (b3 ++ trsT tr z) ∧ Below R4.heap.size R4 wz) (fun _ i _ => tn - (intOf i).toNat)
                  case atStart => exact ⟨0, Nat.zero_le _, rfl, by simp [trsT, catTo], Below.refl _ _⟩
                  case round =>
                    obtain ⟨R5, hR5⟩ : ∃ R, R = wr := ⟨_, rfl⟩
                    subst hR5
                    obtain ⟨z, hz, rfl, rfl, hbz⟩ := hrel
                    have HZ := hid hbz
                    have BZ5 : Hid (Below w.heap.size w R5) := hid (BZ4.out.trans (hbz.mono BZ4.out.size))
                    have XZ5 := hid (block_below XZ4.out hbz)
                    clear d0 d1 d2 d3 d4 d5 d6 d7 hbz dl
                    obtain ⟨d0, d1, d2, d3, d4, d5, d6, d7⟩ := eight_cells XZ5.out
                    have dl := lt_of_block XZ5.out
                    have htl : tr.length = tn := OF.out.ht.1
                    by_cases hzt : z < tn
                    · obtain ⟨kb, ko2, rfl, hkb, hck⟩ := OF.out.ht.2 (by dsimp only; omega)
                      dsimp only at hkb hck
                      obtain ⟨x, ex⟩ : ∃ y, y = tr.getD z tr0 := ⟨_, rfl⟩
                      have hx5 := (hck z hzt).below hkb BZ5.out
                      have htr := OB.out.t z (by dsimp only; omega)
                      dsimp only at htr
                      have hT := trsT_l OB.out (n := z) (by dsimp only; omega)
                      dsimp only at hT
                      have EV : Hid (trsT tr (z + 1) = trsT tr z ++ trT x) := hid (by rw [ex]; rfl)
                      rw [← ex] at hx5 htr
                      have hhl := trHead_l htr
                      obtain ⟨pp, ii, gg, jj, aa⟩ := x
                      obtain ⟨c0, c1, ⟨eo2, en2, ec2, c2, hen2, hE⟩, c3, ⟨fo2, fn2, fc2, c4, hfn2, hF⟩⟩ := hx5
                      obtain ⟨g1, g2, g3, g4, g5⟩ := htr
                      dsimp only at c0 c1 c3 hE hF g1 g2 g3 g4 g5
                      have hkb' : kb < R5.heap.size := Nat.lt_of_lt_of_le hkb BZ5.out.size
                      have l1 := itoa_l g1
                      have l2 := itoa_l g2
                      have l3 := itoa_l g3
                      have nE : gg.length = en2 := hE.1
                      have nF : aa.length = fn2 := hF.1
                      have lE := codeT_l g4 (Nat.le_refl _)
                      have lF := stmsT_l (key := [100, 111]) (by decide) g5 (Nat.le_refl _)
                      rw [nE] at lE
                      rw [nF] at lF
                      obtain ⟨tE, htE⟩ : ∃ t, t = codeT gg en2 := ⟨_, rfl⟩
                      obtain ⟨tF, htF⟩ : ∃ t, t = stmsT [100, 111] aa fn2 := ⟨_, rfl⟩
                      rw [← htE] at lE
                      rw [← htF] at lF
                      obtain ⟨v, hv⟩ : ∃ v, Hid (v = b3 ++ trsT tr z) := ⟨_, hid rfl⟩
                      have hvl2 : v.length ≤ 18900013200 := by rw [hv.out]; simp; omega
                      rw [← hv.out]
                      have BX := hid (below1 R5 (.cells #[.int .i64 pp, .int .i64 ii, .slice eo2 en2 ec2, .int .i64 jj, .slice fo2 fn2 fc2] 56))
                      have XX := hid (heap_alloc_new R5 (.cells #[.int .i64 pp, .int .i64 ii, .slice eo2 en2 ec2, .int .i64 jj, .slice fo2 fn2 fc2] 56))
                      obtain ⟨V, hVV⟩ : ∃ V, V = R5.alloc (.cells #[.int .i64 pp, .int .i64 ii, .slice eo2 en2 ec2, .int .i64 jj, .slice fo2 fn2 fc2] 56) := ⟨_, rfl⟩
                      obtain ⟨HV, hHV⟩ : ∃ H, H = R5.heap.size := ⟨_, rfl⟩
                      have XV : Hid (V.heap[HV]? = some (.cells #[.int .i64 pp, .int .i64 ii, .slice eo2 en2 ec2, .int .i64 jj, .slice fo2 fn2 fc2] 56 (0, 0))) := hid (by rw [hVV, hHV]; exact XX.out)
                      have BV : Hid (Below R5.heap.size R5 V) := hid (by rw [hVV]; exact BX.out)
                      obtain ⟨f0, f1, f2, f3, f4⟩ := five_c XV.out
                      obtain ⟨x1, hx1, X1⟩ := catx [111, 110, 32] (Lib.itoa pp) (by simp; omega)
                      obtain ⟨x2, hx2, X2⟩ := catx x1 [32] (by rw [hx1.out]; simp; omega)
                      obtain ⟨x3, hx3, X3⟩ := catx x2 (Lib.itoa ii) (by rw [hx2.out, hx1.out]; simp; omega)
                      obtain ⟨x4, hx4, X4⟩ := catx x3 [32] (by rw [hx3.out, hx2.out, hx1.out]; simp; omega)
                      obtain ⟨x5, hx5, X5⟩ := catx x4 (Lib.itoa jj) (by rw [hx4.out, hx3.out, hx2.out, hx1.out]; simp; omega)
                      obtain ⟨x6, hx6, X6⟩ := catx x5 tE (by rw [hx5.out, hx4.out, hx3.out, hx2.out, hx1.out]; simp; omega)
                      obtain ⟨x7, hx7, X7⟩ := catx x6 [10] (by rw [hx6.out, hx5.out, hx4.out, hx3.out, hx2.out, hx1.out]; simp; omega)
                      obtain ⟨x8, hx8, X8⟩ := catx v x7 (by rw [hx7.out, hx6.out, hx5.out, hx4.out, hx3.out, hx2.out, hx1.out]; simp; omega)
                      have EX : Hid (x8 = v ++ trHead ⟨pp, ii, gg, jj, aa⟩) := hid (by rw [hx8.out, hx7.out, hx6.out, hx5.out, hx4.out, hx3.out, hx2.out, hx1.out, htE]; simp [trHead, nE])
                      have x8l : x8.length ≤ 18900020200 := by rw [EX.out]; simp only [List.length_append]; omega
                      obtain ⟨y2, hy2, Y2⟩ := catx x8 tF (by omega)
                      have EY : Hid (y2 = b3 ++ trsT tr (z + 1)) := hid (by rw [hy2.out, EX.out, hv.out, EV.out, htF]; simp [trT, nF])
                      have D1 := hid (decR pp g1 V)
                      have D2 := hid (decR ii g2 V)
                      have D3 := hid (decR jj g3 V)
                      have D4 := hid (codR eo2 en2 ec2 gg V g4 (hE.below BV.out))
                      rw [← htE] at D4
                      have e0 := cell_regrown f0
                      have e1 := cell_regrown f1
                      have e2 := cell_regrown f2
                      have e3 := cell_regrown f3
                      have KF2 := hid (fun U hU => stmLines_any [100, 111] (by decide) fo2 fn2 fc2 aa U g5 (hF.below hU))
                      rw [← htF] at KF2
                      have HZT := hid hzt
                      clear ex hck hT hhl g1 g2 g3 g4 g5 hE hF l1 l2 l3 hvl2 BX XX lE lF b3l x8l OF OB hkl hul hsl htl nE nF htE htF hen2 hfn2 hx1 hx2 hx3 hx4 hx5 hx6 hx7 hx8
                      go_upto_region 27 with fail
                      rw [← hHV, ← hVV]
                      clear hVV hHV c0 c1 c2 c3 c4
                      refine wp_region_quiet_below (by kernel_rfl) (by kernel_rfl) ?_
                      repeat (any_goals (first | go_big_quiet_step (first | with_reducible exact D1.out _ _ | with_reducible exact D2.out _ _ | with_reducible exact D3.out _ _ | with_reducible exact D4.out _ _) | quiet_step (first | with_reducible exact D1.out _ _ | with_reducible exact D2.out _ _ | with_reducible exact D3.out _ _ | with_reducible exact D4.out _ _)))
                      refine wpQuiet_nil ?_
                      intro _ hw'
                      obtain ⟨⟨dq, osq⟩, hw''⟩ := hw'
                      subst hw''
                      obtain ⟨U, hU⟩ : ∃ U, U = grow (redrawn V dq) osq := ⟨_, rfl⟩
                      have BU : Hid (Below V.heap.size V U) := hid (by rw [hU]; exact below_regrown V dq osq)
                      rw [← hU]
                      clear hU e0 e1 e2 e3 D1 D2 D3 D4 X1 X2 X3 X4 X5 X6 X7 X8 f0 f1 f2 f3 f4
                      have XU := hid (block_below XV.out BU.out)
                      have BU5 : Hid (Below R5.heap.size R5 U) := hid (BV.out.trans (BU.out.mono BV.out.size))
                      obtain ⟨f0, f1, f2, f3, f4⟩ := five_c XU.out
                      have K1 := hid (KF2.out U BU5.out)
                      clear KF2
                      go_wp2_with (go_at_call 14; with_reducible refine K1.out.mono ?_; rintro e w7 ⟨rfl, hb7⟩; have B7 := hid hb7; clear hb7)
                      go_roundw
                      case rel => exact ⟨z + 1, by have := HZT.out; omega, by go_num, by rw [EY.out], HZ.out.trans ((BU5.out.trans (B7.out.mono BU5.out.size)).mono HZ.out.size)⟩
                      case measure => have := HZT.out; simp [intOf]; omega
                    · have ez : z = tn := by omega
                      subst ez
                      obtain ⟨b4, hb4⟩ : ∃ u, Hid (u = b3 ++ trsT tr z) := ⟨_, hid rfl⟩
                      rw [← hb4.out]
                      have EZ : Hid (b4 = s2 ++ obsT os (k + 1)) := hid (by
                        rw [ES.out, hb4.out, hb3.out, hb2.out, hb1.out, EA.out, ht.out]
                        simp [obT, hkl, hul, hsl, htl])
                      have HLT := hid hlt
                      clear OF OB hkl hul hsl htl
                      go_wp2_with fail
                      go_roundw
                      case rel => exact ⟨k + 1, by have := HLT.out; omega, by go_num, by rw [EZ.out], Q4.out.trans (HZ.out.mono Q4.out.size)⟩
                      case measure => have := HLT.out; simp [intOf]; omega
    · have e : k = en := by omega
      subst e
      obtain ⟨u, hu⟩ : ∃ u, Hid (u = s2 ++ obsT os k) := ⟨_, hid rfl⟩
      have hul : u.length ≤ 18560000100 := by
        have := obsT_l HO.out (n := k) (by rw [HEL.out]; exact Nat.le_refl _)
        rw [hu.out]; simp; omega
      rw [← hu.out]
      clear hs2l HE
      obtain ⟨R, hR⟩ : ∃ R, R = wr := ⟨_, rfl⟩
      subst hR
      go_wp2_with fail
      go_loopw [3, 159] (fun o i wr => ∃ (j : Nat), j ≤ xn ∧ i = .int .i64 j ∧ o = tx (u ++ tmsT ts j) ∧ Below R.heap.size R wr) (fun _ i _ => xn - (intOf i).toNat)
      case atStart => exact ⟨0, Nat.zero_le _, rfl, by simp [tmsT, catTo], Below.refl _ _⟩
      case round =>
        obtain ⟨j, hj, rfl, rfl, hbz⟩ := hrel
        have HZ := hid hbz
        have BZ : Hid (Below w.heap.size w wr) := hid (BR.out.trans (hbz.mono BR.out.size))
        clear q0 q1 q2 hbz
        by_cases hjt : j < xn
        · obtain ⟨b, off, rfl, hbl, hc⟩ := HX.out.2 (by omega)
          obtain ⟨z1, hz1⟩ : ∃ z, z = (ts.getD j (0, 0)).1 := ⟨_, rfl⟩
          obtain ⟨z2, hz2⟩ : ∃ z, z = (ts.getD j (0, 0)).2 := ⟨_, rfl⟩
          have c0 := (BZ.out.cell (p := ⟨b, off + j * 2, none⟩) hbl).trans (hc j hjt).1
          have c1 := (BZ.out.cell (p := ⟨b, off + j * 2 + 1, none⟩) hbl).trans (hc j hjt).2
          rw [← hz1] at c0
          rw [← hz2] at c1
          obtain ⟨g1, g2⟩ := HO.out.t j (by rw [HXL.out]; exact hjt)
          rw [← hz1] at g1
          rw [← hz2] at g2
          have ES : Hid (tmsT ts (j + 1) = tmsT ts j ++ ([116, 105, 109, 101, 114, 32] ++ Lib.itoa z1 ++ [32] ++ Lib.itoa z2 ++ [10])) := hid (by rw [hz1, hz2]; rfl)
          have hT := tmsT_l HO.out (n := j) (by rw [HXL.out]; exact hj)
          have hbl' : b < wr.heap.size := Nat.lt_of_lt_of_le hbl BZ.out.size
          have l1 := itoa_l g1
          have l2 := itoa_l g2
          obtain ⟨v, hv⟩ : ∃ v, Hid (v = u ++ tmsT ts j) := ⟨_, hid rfl⟩
          have hvl : v.length ≤ 18560012100 := by rw [hv.out]; simp; omega
          rw [← hv.out]
          have BX := hid (below1 wr (.cells #[.int .i64 z1, .int .i64 z2] 59))
          have XX := hid (heap_alloc_new wr (.cells #[.int .i64 z1, .int .i64 z2] 59))
          obtain ⟨W, hWW⟩ : ∃ W, W = wr.alloc (.cells #[.int .i64 z1, .int .i64 z2] 59) := ⟨_, rfl⟩
          obtain ⟨HT, hHT⟩ : ∃ H, H = wr.heap.size := ⟨_, rfl⟩
          have XW : Hid (W.heap[HT]? = some (.cells #[.int .i64 z1, .int .i64 z2] 59 (0, 0))) := hid (by rw [hWW, hHT]; exact XX.out)
          have BW : Hid (Below R.heap.size R W) := hid (by rw [hWW]; exact HZ.out.trans (BX.out.mono HZ.out.size))
          obtain ⟨d0, d1⟩ := two_cells XW.out
          obtain ⟨x1, hx1, X1⟩ := catx [116, 105, 109, 101, 114, 32] (Lib.itoa z1) (by simp; omega)
          obtain ⟨x2, hx2, X2⟩ := catx x1 [32] (by rw [hx1.out]; simp; omega)
          obtain ⟨x3, hx3, X3⟩ := catx x2 (Lib.itoa z2) (by rw [hx2.out, hx1.out]; simp; omega)
          obtain ⟨x4, hx4, X4⟩ := catx x3 [10] (by rw [hx3.out, hx2.out, hx1.out]; simp; omega)
          obtain ⟨x5, hx5, X5⟩ := catx v x4 (by rw [hx4.out, hx3.out, hx2.out, hx1.out]; simp; omega)
          have EX : Hid (x5 = u ++ tmsT ts (j + 1)) := hid (by rw [hx5.out, hx4.out, hx3.out, hx2.out, hx1.out, hv.out, ES.out]; simp)
          have D1 := decR z1 g1 W
          have D2 := decR z2 g2 W
          have e0 := cell_regrown d0
          have e1 := cell_regrown d1
          have D1' := hid D1
          have D2' := hid D2
          clear hz1 hz2 hc g1 g2 hT l1 l2 hul hvl BX XX D1 D2
          go_upto_region 34 with fail
          rw [← hHT, ← hWW]
          clear hWW hHT c0 c1 d0 d1
          refine wp_region_quiet_below (by kernel_rfl) (by kernel_rfl) ?_
          repeat (any_goals (first | go_big_quiet_step (first | with_reducible exact D1'.out _ _ | with_reducible exact D2'.out _ _) | quiet_step (first | with_reducible exact D1'.out _ _ | with_reducible exact D2'.out _ _)))
          refine wpQuiet_nil ?_
          intro _ hw'
          obtain ⟨⟨dq, osq⟩, hw''⟩ := hw'
          subst hw''
          go_wp2_with fail
          go_roundw
          case rel => exact ⟨j + 1, by omega, by go_num, by rw [EX.out], BW.out.trans ((below_regrown W dq osq).mono BW.out.size)⟩
          case measure => simp [intOf]; omega
        · have e : j = xn := by omega
          subst e
          go_wp2
          go_ret
          refine ⟨?_, BZ.out⟩
          rw [hu.out, hs2.out, hs1.out]
          simp [sysT, HEL.out, HXL.out]
end Go.Proofs.YtkkiiffhfjkoaaaGreatDoor
