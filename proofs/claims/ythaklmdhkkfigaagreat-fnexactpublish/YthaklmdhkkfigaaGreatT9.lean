import Derived.Test.YthaklmdhkkfigaaGreatT8
namespace Go.Proofs.YthaklmdhkkfigaaGreat
open Go.RowKit Go.Sort
set_option linter.unusedVariables false
attribute [local go_sem ↓] Go.wp_at_zero Go.wp_at_succ

set_option maxRecDepth 100000 in
set_option maxHeartbeats 1600000 in
theorem limitsOf_any (sg : Int) (eo xo : Option Addr) (en ec xn xc : Nat) (os : List ObD) (i : Nat) (w : World) (hi : i < en) (hen : en ≤ 64) (hxn : xn ≤ 200) (he : ObsOf w eo en os) :
    Calls Tryz.prog 72 #[.agg #[.int .i64 sg, .slice eo en ec, .slice xo xn xc], .int .i64 (i : Int)] w fun e w' => e = .returned (.agg #[.int .i64 (en : Int), .int .i64 sg, .int .i64 (xn : Int), .int .i64 ((os.getD i ob0).vals.length : Int)]) ∧ Below w.heap.size w w' := by
  obtain ⟨b, off, rfl, hbl, hc⟩ := he.2 (by omega)
  obtain ⟨h, hcs, hmx, hof⟩ := hc i hi
  have ev := hof.hv.1
  obtain ⟨k0, k1, k2, k3, k4, k5, k6, k7⟩ := hcs.below hbl (below2 w (.cells #[.int .i64 sg, .slice (some ⟨b, off, none⟩) en ec, .slice xo xn xc] 42) (.cells #[.int .i64 0, .int .i64 0, .int .i64 0, .int .i64 0] 148))
  obtain ⟨ko, kn, kc, vo, vn, vc, uo, un, uc, so, sn, sc, tt, tn, tc⟩ := h
  have mv : vn ≤ 9223372036854775807 := hmx.hv
  have ii : (i : Int) < (en : Int) := by omega
  dsimp only at k4 ev
  rw [ev]
  clear he hc hcs hmx hof ev k0 k1 k2 k3 k5 k6 k7
  go_enter Tryz.func72, Tryz.ntmps72
  go_wp2
  go_region
  all_goals
    go_wp2
    refine bodyPost_ret (v := .agg #[.int .i64 (en : Int), .int .i64 sg, .int .i64 (xn : Int), .int .i64 (vn : Int)]) (by simp [results, Tryz.results72, go_sem]) rfl ⟨rfl, ?_⟩
    first | exact (below2 _ _ _) | exact (below2 _ _ _).drew

set_option maxRecDepth 100000 in
set_option maxHeartbeats 6400000 in
theorem checkObject_any (sg : Int) (eo xo : Option Addr) (en ec xn xc : Nat) (os : List ObD) (i : Nat) (w : World) (hi : i < en) (hen : en ≤ 64) (hec : en ≤ ec) (hxn : xn ≤ 200) (hs1 : 1 ≤ sg) (hs2 : sg ≤ 64) (he : ObsOf w eo en os) :
    Calls Tryz.prog 98 #[.agg #[.int .i64 sg, .slice eo en ec, .slice xo xn xc], .int .i64 (i : Int)] w fun e w' => e = .returned (.tuple #[.int .i64 (objFault sg os xn i).1, .int .i64 (objFault sg os xn i).2]) ∧ Below w.heap.size w w' := by
  have HL := hid he.1
  have LL := hid (fun w he => limitsOf_any sg eo xo en ec xn xc os i w hi hen hxn he)
  have HE : Hid (∀ w', Below w.heap.size w w' → ObsOf w' eo en os) := fun w' h => he.below h
  obtain ⟨b, off, rfl, hbl, hc⟩ := he.2 (by omega)
  have HC : Hid (∀ j, j < en → ObAt w b (off + j * 8) (os.getD j ob0)) := hid hc
  obtain ⟨x, ex⟩ : ∃ x, x = os.getD i ob0 := ⟨_, rfl⟩
  obtain ⟨h, hcs, hmx, hof⟩ := hc i hi
  rw [← ex] at hcs hof
  have EX := hid ex
  have OO := hid (fun w ho => objectOK_any h x w hmx ho)
  obtain ⟨k0, k1, k2, k3, k4, k5, k6, k7⟩ := hcs.below hbl (below1 w (.cells #[.int .i64 sg, .slice (some ⟨b, off, none⟩) en ec, .slice xo xn xc] 42))
  obtain ⟨ko, kn, kc, vo, vn, vc, uo, un, uc, so, sn, sc, tt, tn, tc⟩ := h
  obtain ⟨mk, mv, mu, ms, mt, mc⟩ := hmx
  unfold obV at OO
  dsimp only at k3 k4 k5 k6 k7 mk mv mu ms mt mc OO
  have HO : Hid (∀ w', Below w.heap.size w w' → ObOf w' ⟨ko, kn, kc, vo, vn, vc, uo, un, uc, so, sn, sc, tt, tn, tc⟩ x) := fun w' h => hof.below h
  have EU : Hid (x.subs.length = un) := hid hof.hu.1
  have EVV : Hid (x.vals.length = vn) := hid hof.hv.1
  have HPR := hid (fun w' (h : Below w.heap.size w w') => hasPrio_any b off i ec x.prio os w' (by omega) (Nat.lt_of_lt_of_le hbl h.size) (fun j hj => (hc j (by omega)).below hbl h))
  have ED : Hid ((firstB (fun j => decide ((os.getD j ob0).prio = x.prio)) i).isSome = dupB os i) := hid (by rw [ex]; rfl)
  obtain ⟨pv, hpv⟩ : ∃ pv, pv = x.prio := ⟨_, rfl⟩
  obtain ⟨qv, hqv⟩ : ∃ qv, qv = x.qcap := ⟨_, rfl⟩
  obtain ⟨dv, hdv⟩ : ∃ dv, dv = x.dcap := ⟨_, rfl⟩
  obtain ⟨ok, hok⟩ : ∃ ok, ok = objOK x := ⟨_, rfl⟩
  obtain ⟨du, hdu⟩ : ∃ du, du = dupB os i := ⟨_, rfl⟩
  rw [ED.out, ← hdu, ← hpv] at HPR
  rw [← hpv] at k0
  rw [← hqv] at k1
  rw [← hdv] at k2
  rw [← hpv, ← hqv, ← hdv, ← hok] at OO
  have EOK := hid hok
  have EDU := hid hdu
  have OE0 := hid (oe_start w #[.int .i64 sg, .slice (some ⟨b, off, none⟩) en ec, .slice xo xn xc] #[.int .i64 pv, .int .i64 qv, .int .i64 dv, .slice ko kn kc, .slice vo vn vc, .slice uo un uc, .slice so sn sc, .slice tt tn tc])
  rw [← ex, EVV.out] at LL
  have CK := hid (fun w a c => implCheck_any so tt sn sc tn tc x.sts x.trs (en : Int) sg (xn : Int) (vn : Int) w ms mt a c)
  have ii : (i : Int) < (en : Int) := by omega
  have ic : (i : Int) ≤ (ec : Int) := by omega
  obtain ⟨W, hW⟩ : ∃ W, W = (w.alloc (.cells #[.int .i64 sg, .slice (some ⟨b, off, none⟩) en ec, .slice xo xn xc] 42)).alloc (.cells #[.int .i64 pv, .int .i64 qv, .int .i64 dv, .slice ko kn kc, .slice vo vn vc, .slice uo un uc, .slice so sn sc, .slice tt tn tc] 134) := ⟨_, rfl⟩
  have OE1 := OE0
  rw [← hW] at OE1
  obtain ⟨y0, y1, y2⟩ := three_cells OE1.out.sy
  obtain ⟨z0, z1, z2, z3, z4, z5, z6, z7⟩ := eight_cells OE1.out.ob
  have y0 := cell_regrown y0
  have y1 := cell_regrown y1
  have y2 := cell_regrown y2
  have z0 := cell_regrown z0
  have z1 := cell_regrown z1
  have z2 := cell_regrown z2
  have z3 := cell_regrown z3
  have z4 := cell_regrown z4
  have z5 := cell_regrown z5
  have z6 := cell_regrown z6
  have z7 := cell_regrown z7
  have cO : ∀ d os', Calls Tryz.prog 122 #[.agg #[.int .i64 pv, .int .i64 qv, .int .i64 dv, .slice ko kn kc, .slice vo vn vc, .slice uo un uc, .slice so sn sc, .slice tt tn tc]] (grow (redrawn W d) os') fun e w'' => e = .returned (.bool ok) ∧ ∃ p : Regrown, w'' = grow (redrawn W p.d) p.os :=
    fun d os' => Calls.regrown_of (OO.out _ (HO.out _ (OE1.out.bel.trans ((below_regrown W d os').mono OE1.out.bel.size))))
  have cP : ∀ d os', Calls Tryz.prog 123 #[.slice (some ⟨b, off, none⟩) i ec, .int .i64 pv] (grow (redrawn W d) os') fun e w'' => e = .returned (.bool du) ∧ ∃ p : Regrown, w'' = grow (redrawn W p.d) p.os :=
    fun d os' => Calls.regrown_of (HPR.out _ (OE1.out.bel.trans ((below_regrown W d os').mono OE1.out.bel.size)))
  clear he hc hcs hof ex hpv hqv hdv ms mt mk mv hok hdu
  go_enter Tryz.func98, Tryz.ntmps98
  go_upto_region 2 with fail
  rw [← hW]
  go_cut [27] (fun c wx => c = .bool (!ok || du) ∧ OE w wx #[.int .i64 sg, .slice (some ⟨b, off, none⟩) en ec, .slice xo xn xc] #[.int .i64 pv, .int .i64 qv, .int .i64 dv, .slice ko kn kc, .slice vo vn vc, .slice uo un uc, .slice so sn sc, .slice tt tn tc])
  case first =>
    clear k0 k1 k2 k3 k4 k5 k6 k7 OE0 hW
    cases ok
    all_goals
      refine wp_region_quiet_below (by kernel_rfl) (by kernel_rfl) ?_
      repeat (any_goals (first | go_big_quiet_step (first | exact cO _ _ | exact cP _ _) | quiet_step (first | exact cO _ _ | exact cP _ _)))
      refine wpQuiet_nil ?_
      intro _ hw'
      obtain ⟨⟨dq, osq⟩, hw''⟩ := hw'
      subst hw''
      go_wp2
      go_meet
      exact ⟨rfl, OE1.out.below (below_regrown W dq osq)⟩
  case rest =>
    obtain ⟨rfl, hoe⟩ := hcut
    have E0 := hid hoe
    obtain ⟨u0, u1, u2⟩ := three_cells hoe.sy
    obtain ⟨v0, v1, v2, v3, v4, v5, v6, v7⟩ := eight_cells hoe.ob
    clear hoe k0 k1 k2 k3 k4 k5 k6 k7 y0 y1 y2 z0 z1 z2 z3 z4 z5 z6 z7 cO cP OE0 OE1 hW OO HPR
    by_cases hbad : (!ok || du) = true
    · have E2 : Hid (objFault sg os xn i = (2, 0)) := hid (obf_two (fun h => by
        rw [← EX.out, ← EOK.out, ← EDU.out] at h
        rw [h.1, h.2] at hbad
        cases hbad))
      rw [hbad]
      clear hbad
      go_wp2_with fail
      go_ret2
      rw [E2.out]
      exact ⟨rfl, E0.out.bel⟩
    · have hbad' : (!ok || du) = false := by simpa using hbad
      have OKK : Hid (objOK (os.getD i ob0) = true ∧ dupB os i = false) := hid (by
        rw [← EX.out, ← EOK.out, ← EDU.out]
        cases ok <;> cases du <;> simp_all)
      have EX2 := EX
      rw [hbad']
      clear hbad hbad'
      go_wp2_with fail
      go_loopg [31] un (fun mm i wr => ∃ q : Nat, q ≤ un ∧ mm = un - q ∧ i = .int .i64 q ∧ Hid (∀ j, j < q → badSub sg x.subs j = false) ∧ OE w wr #[.int .i64 sg, .slice (some ⟨b, off, none⟩) en ec, .slice xo xn xc] #[.int .i64 pv, .int .i64 qv, .int .i64 dv, .slice ko kn kc, .slice vo vn vc, .slice uo un uc, .slice so sn sc, .slice tt tn tc])
      case atStart => exact ⟨0, Nat.zero_le _, by omega, rfl, hid (fun j h => absurd h (by omega)), E0.out⟩
      case round =>
        obtain ⟨q, hq, rfl, rfl, HP, hE⟩ := hrel
        have E := hid hE
        obtain ⟨y0, y1, y2⟩ := three_cells hE.sy
        obtain ⟨z0, z1, z2, z3, z4, z5, z6, z7⟩ := eight_cells hE.ob
        have hzl : w.heap.size + 1 < wr.heap.size := lt_of_block hE.ob
        have hzl0 : w.heap.size < wr.heap.size := by omega
        have hb := hE.bel
        clear hE
        by_cases hlt2 : q < un
        · obtain ⟨bu, offu, hue, hbul, hcu⟩ := (HO.out w (Below.refl _ _)).hu.2 (show 0 < un by omega)
          dsimp only at hue
          subst hue
          obtain ⟨xv, hxv⟩ : ∃ xv, xv = x.subs.getD q 0 := ⟨_, rfl⟩
          have kq := (hb.cell (p := ⟨bu, offu + q, none⟩) hbul).trans (hcu q hlt2)
          rw [← hxv] at kq
          obtain ⟨bb, hbb⟩ : ∃ bb, bb = decide (0 ≤ xv ∧ xv < sg) := ⟨_, rfl⟩
          have CB := hid (within_of' xv sg bb hbb)
          have EB : Hid (betB (x.subs.getD q 0) 0 (sg - 1) = bb) := hid (by rw [← hxv, betB_within, hbb])
          obtain ⟨cc, hcc⟩ : ∃ cc, cc = (firstB (fun j => decide (x.subs.getD j 0 = xv)) q).isSome := ⟨_, rfl⟩
          have CN := hid (contains_any bu offu q uc xv x.subs wr (by omega) (fun j hj => (hb.cell (p := ⟨bu, offu + j, none⟩) hbul).trans (hcu j (Nat.lt_trans hj hlt2))))
          rw [← hcc] at CN
          have EC : Hid ((firstB (sameSub x.subs q) q).isSome = cc) := hid (by rw [hcc, hxv]; rfl)
          have qn : (q : Int) < (un : Int) := by omega
          have qc : (q : Int) ≤ (uc : Int) := by omega
          clear hcu hb hxv hbb hcc
          by_cases hbc : bb = true ∧ cc = false
          · obtain ⟨rfl, rfl⟩ := hbc
            have BS : Hid (badSub sg x.subs q = false) := hid (by unfold badSub; rw [EB.out, EC.out]; rfl)
            go_wp2_with (first
              | (go_at_call 76; refine (CB.out _).mono ?_; rintro e wa ⟨rfl, hw⟩; obtain rfl := hw.symm)
              | (go_at_call 124; refine CN.out.mono ?_; rintro e wa ⟨rfl, hw⟩; obtain rfl := hw.symm))
            go_roundg (un - (q + 1))
            case measure => omega
            case rel =>
              refine ⟨q + 1, by omega, rfl, by go_num, hid (fun j hj => ?_), E.out⟩
              by_cases e : j = q
              · subst e; exact BS.out
              · exact HP.out j (by omega)
          · have BS : Hid (badSub sg x.subs q = true) := hid (by unfold badSub; rw [EB.out, EC.out]; cases bb <;> cases cc <;> simp_all)
            have E3 : Hid (objFault sg os xn i = (3, (q : Int))) := hid (obf_three OKK.out (by rw [← EX2.out, EU.out]; exact hlt2) (by rw [← EX2.out]; exact BS.out) (by rw [← EX2.out]; exact HP.out))
            cases bb with
            | false =>
              go_wp2_with (go_at_call 76; refine (CB.out _).mono ?_; rintro e wa ⟨rfl, hw⟩; obtain rfl := hw.symm)
              go_ret2
              rw [E3.out]
              exact ⟨rfl, E.out.bel⟩
            | true =>
              cases cc with
              | false => exact absurd ⟨rfl, rfl⟩ hbc
              | true =>
                clear hbc
                go_wp2_with (first
                  | (go_at_call 76; refine (CB.out _).mono ?_; rintro e wa ⟨rfl, hw⟩; obtain rfl := hw.symm)
                  | (go_at_call 124; refine CN.out.mono ?_; rintro e wa ⟨rfl, hw⟩; obtain rfl := hw.symm))
                go_ret2
                rw [E3.out]
                exact ⟨rfl, E.out.bel⟩
        · have e : q = un := by omega
          subst e
          have HP' : Hid (∀ j, j < (os.getD i ob0).subs.length → badSub sg (os.getD i ob0).subs j = false) := hid (by rw [← EX2.out, EU.out]; exact HP.out)
          clear hb HP
          obtain ⟨fc, hfc⟩ : ∃ fc, fc = (checkOf x.sts x.trs ⟨(en : Int), sg, (xn : Int), (vn : Int)⟩).1 := ⟨_, rfl⟩
          obtain ⟨fp, hfp⟩ : ∃ fp, fp = (checkOf x.sts x.trs ⟨(en : Int), sg, (xn : Int), (vn : Int)⟩).2 := ⟨_, rfl⟩
          have rng := checkOf_code x.sts x.trs ⟨(en : Int), sg, (xn : Int), (vn : Int)⟩
          have EF : Hid (objFault sg os xn i = if fc = 0 then (0, 0) else (10 + fc, fp)) := hid (by
            rw [obf_chart OKK.out HP'.out, ← EX2.out]
            have : limOf sg os xn i = ⟨(en : Int), sg, (xn : Int), (vn : Int)⟩ := by unfold limOf; rw [← EX2.out, HL.out, EVV.out]
            rw [this, ← hfc, ← hfp])
          rw [← hfc, ← hfp] at CK
          rw [← hfc] at rng
          obtain ⟨rg0, rg6⟩ := rng
          have D := hid (E.out.below ((Below.refl _ _).drew))
          clear hfc hfp
          by_cases h0 : fc = 0
          · subst h0
            go_wp2_with fail
            go_region_with (first
              | (go_at_call 72; refine (LL.out _ (HE.out _ D.out.bel)).mono ?_; rintro e w1 ⟨rfl, hb1⟩; have V1 := hid (D.out.below hb1); obtain ⟨a0, a1, a2, a3, a4, a5, a6, a7⟩ := eight_cells V1.out.ob; clear hb1)
              | (go_at_call 125; refine (CK.out _ (HO.out _ V1.out.bel).hs (HO.out _ V1.out.bel).ht).mono ?_; rintro e w2 ⟨rfl, hb2⟩; have V2 := hid (V1.out.below hb2); clear hb2))
            all_goals
              go_wp2_with fail
              go_ret2
              rw [EF.out]
              exact ⟨rfl, V2.out.bel⟩
          · have h0' : (fc != 0) = true := by simpa using h0
            have EF2 : Hid (objFault sg os xn i = (10 + fc, fp)) := hid (by rw [EF.out, if_neg h0])
            go_wp2_with fail
            go_region_with (first
              | (go_at_call 72; refine (LL.out _ (HE.out _ D.out.bel)).mono ?_; rintro e w1 ⟨rfl, hb1⟩; have V1 := hid (D.out.below hb1); obtain ⟨a0, a1, a2, a3, a4, a5, a6, a7⟩ := eight_cells V1.out.ob; clear hb1)
              | (go_at_call 125; refine (CK.out _ (HO.out _ V1.out.bel).hs (HO.out _ V1.out.bel).ht).mono ?_; rintro e w2 ⟨rfl, hb2⟩; have V2 := hid (V1.out.below hb2); clear hb2))
            all_goals
              go_wp2_with fail
              go_ret2
              rw [EF2.out]
              exact ⟨rfl, V2.out.bel⟩
end Go.Proofs.YthaklmdhkkfigaaGreat
