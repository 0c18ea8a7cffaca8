import Derived.Test.YthaklmdhkkfigaaGreatU5
import Derived.Test.YthaklmdhkkfigaaGreatU6
namespace Go.Proofs.YthaklmdhkkfigaaGreat
open Go.RowKit Go.Sort
set_option linter.unusedVariables false
attribute [local go_sem ↓] Go.wp_at_zero Go.wp_at_succ

set_option maxRecDepth 100000 in
set_option maxHeartbeats 12800000 in
theorem kernelFits_any (sg : Int) (eo xo : Option Addr) (en ec xn xc : Nat) (os : List ObD) (ts : List (Int × Int)) (h : KerS) (kd : KerD) (w : World) (hsy : (sysFault sg os ts).1 = 0) (hm : KerMax h) (he : ObsOf w eo en os) (hx : ItemsOf w xo xn ts) (hk : KerOf w h kd) :
    Calls Tryz.prog 71 #[.agg #[.int .i64 sg, .slice eo en ec, .slice xo xn xc], kerV h] w fun e w' => e = .returned (.bool (kerB sg os ts kd)) ∧ Below w.heap.size w w' := by
  obtain ⟨lo, ln, lc, vo, vn, vc, qo, qn, qc, po, pn, pc, fo, fn, fc, go, gn, gc⟩ := h
  obtain ⟨ml, mv, mq, mp, me, mf⟩ := hm
  obtain ⟨hl, hv, hq, hp, hf, hg⟩ := hk
  dsimp only at ml mv mq mp me mf hl hv hq hp hf hg
  unfold kerV
  dsimp only
  have HL := hid he.1
  have HT := hid hx.1
  have LN : Hid (lenP os ts kd ↔ ((ln = en ∧ vn = en ∧ qn = en ∧ pn = en) ∧ fn = xn ∧ gn = xn)) := hid (by unfold lenP; rw [hl.1, hv.1, hq.1, hp.1, hf.1, hg.1, HL.out, HT.out])
  have EN := ke_start w #[.int .i64 sg, .slice eo en ec, .slice xo xn xc] #[.slice lo ln lc, .slice vo vn vc, .slice qo qn qc, .slice po pn pc, .slice fo fn fc, .slice go gn gc]
  have GO : Hid (∀ j, j < en → GoodT (os.getD j ob0).sts (os.getD j ob0).trs.length) := hid (fun j hj => obj_good (sys_objs hsy (by rw [HL.out]; exact hj)))
  have SY := hid hsy
  have CN := sys_cnt hsy
  rw [HL.out, HT.out] at CN
  obtain ⟨⟨s1, s2⟩, ⟨n1, n2⟩, x2⟩ := CN
  obtain ⟨W, hW⟩ : ∃ W, W = (w.alloc (.cells #[.int .i64 sg, .slice eo en ec, .slice xo xn xc] 42)).alloc (.cells #[.slice lo ln lc, .slice vo vn vc, .slice qo qn qc, .slice po pn pc, .slice fo fn fc, .slice go gn gc] 35) := ⟨_, rfl⟩
  rw [← hW] at EN
  have E0 := hid EN
  obtain ⟨y0, y1, y2⟩ := three_cells EN.sy
  obtain ⟨z0, z1, z2, z3, z4, z5⟩ := six_cells EN.ke
  have y1 := cell_regrown y1
  have y2 := cell_regrown y2
  clear EN hsy y0 z0 z1 z2 z3 z4 z5
  go_enter Tryz.func71, Tryz.ntmps71
  go_wp2_with fail
  rw [← hW]
  have HW := hid hW
  clear hW
  refine wp_region_quiet_below (by kernel_rfl) (by kernel_rfl) ?_
  repeat (any_goals (first | go_big_quiet_step (fail) | quiet_step (fail)))
  refine wpQuiet_nil ?_
  intro _ hw'
  obtain ⟨⟨dq, osq⟩, hw''⟩ := hw'
  subst hw''
  obtain ⟨W1, hW1⟩ : ∃ W1, W1 = grow (redrawn W dq) osq := ⟨_, rfl⟩
  have E1 : Hid (KE w W1 #[.int .i64 sg, .slice eo en ec, .slice xo xn xc] #[.slice lo ln lc, .slice vo vn vc, .slice qo qn qc, .slice po pn pc, .slice fo fn fc, .slice go gn gc]) := hid (by rw [hW1]; exact E0.out.below (below_regrown W dq osq))
  rw [← hW1]
  clear y1 y2 E0 HW hW1
  obtain ⟨y0, y1, y2⟩ := three_cells E1.out.sy
  obtain ⟨z0, z1, z2, z3, z4, z5⟩ := six_cells E1.out.ke
  by_cases hln : (ln = en ∧ vn = en ∧ qn = en ∧ pn = en) ∧ fn = xn ∧ gn = xn
  case neg =>
    have E : Hid (kerB sg os ts kd = false) := hid (ker_len (fun h => hln (LN.out.1 h)))
    clear he hx hl hv hq hp hf hg
    by_cases l1 : ln = en
    case neg =>
      have l1' : ((ln : Int) != (en : Int)) = true := by simp; omega
      skip
      clear hln
      go_wp2_with fail
      go_ret
      exact ⟨ret_bool E.out.symm, E1.out.bel⟩
    by_cases l2 : vn = en
    case neg =>
      have l2' : ((vn : Int) != (en : Int)) = true := by simp; omega
      subst l1
      clear hln
      go_wp2_with fail
      go_ret
      exact ⟨ret_bool E.out.symm, E1.out.bel⟩
    by_cases l3 : qn = en
    case neg =>
      have l3' : ((qn : Int) != (en : Int)) = true := by simp; omega
      subst l1 l2
      clear hln
      go_wp2_with fail
      go_ret
      exact ⟨ret_bool E.out.symm, E1.out.bel⟩
    by_cases l4 : pn = en
    case neg =>
      have l4' : ((pn : Int) != (en : Int)) = true := by simp; omega
      subst l1 l2 l3
      clear hln
      go_wp2_with fail
      go_ret
      exact ⟨ret_bool E.out.symm, E1.out.bel⟩
    by_cases l5 : fn = xn
    case neg =>
      have l5' : ((fn : Int) != (xn : Int)) = true := by simp; omega
      subst l1 l2 l3 l4
      clear hln
      go_wp2_with fail
      go_ret
      exact ⟨ret_bool E.out.symm, E1.out.bel⟩
    have l6 : ¬ gn = xn := fun h => hln ⟨⟨l1, l2, l3, l4⟩, l5, h⟩
    have l6' : ((gn : Int) != (xn : Int)) = true := by simp; omega
    subst l1 l2 l3 l4 l5
    clear hln
    go_wp2_with fail
    go_ret
    exact ⟨ret_bool E.out.symm, E1.out.bel⟩
  have LP : Hid (lenP os ts kd) := hid (LN.out.2 hln)
  obtain rfl : en = ln := hln.1.1.symm
  obtain rfl : en = vn := hln.1.2.1.symm
  obtain rfl : en = qn := hln.1.2.2.1.symm
  obtain rfl : en = pn := hln.1.2.2.2.symm
  obtain rfl : xn = fn := hln.2.1.symm
  obtain rfl : xn = gn := hln.2.2.symm
  obtain ⟨b, off, rfl, hbl, hc⟩ := he.2 (by omega)
  obtain ⟨bl, offl, rfl, hbll, hcl⟩ := hl.2 (by omega)
  obtain ⟨bv, offv, rfl, hbvl, hcv⟩ := hv.2 (by omega)
  obtain ⟨bq, offq, rfl, hbql, hcq⟩ := hq.2 (by omega)
  obtain ⟨bp, offp, rfl, hbpl, hcp⟩ := hp.2 (by omega)
  have HC : Hid (∀ j, j < en → ObAt w b (off + j * 8) (os.getD j ob0)) := hid hc
  have HCL := hid hcl
  have HCV := hid hcv
  have HCQ := hid hcq
  have HCP := hid hcp
  have HF := hid hf
  have HG := hid hg
  clear he hx hl hv hq hp hf hg hc hcl hcv hcq hcp hln ml mv mq mp me mf
  go_wp2_with fail
  go_loopg [60] en (fun mm i wr => ∃ k : Nat, k ≤ en ∧ mm = en - k ∧ i = .int .i64 k ∧ Hid (∀ j, j < k → obKi sg os kd j = true) ∧ KE w wr #[.int .i64 sg, .slice (some ⟨b, off, none⟩) en ec, .slice xo xn xc] #[.slice (some ⟨bl, offl, none⟩) en lc, .slice (some ⟨bv, offv, none⟩) en vc, .slice (some ⟨bq, offq, none⟩) en qc, .slice (some ⟨bp, offp, none⟩) en pc, .slice fo xn fc, .slice go xn gc])
  case atStart => exact ⟨0, Nat.zero_le _, by omega, rfl, hid (fun j h => absurd h (by omega)), E1.out⟩
  case round =>
    obtain ⟨k, hk, rfl, rfl, HP, hE⟩ := hrel
    have E := hid hE
    clear y0 y1 y2 z0 z1 z2 z3 z4 z5
    obtain ⟨y0, y1, y2⟩ := three_cells hE.sy
    obtain ⟨z0, z1, z2, z3, z4, z5⟩ := six_cells hE.ke
    have hzl : w.heap.size + 1 < wr.heap.size := lt_of_block hE.ke
    have hzl0 : w.heap.size < wr.heap.size := by omega
    have hb := hE.bel
    clear hE
    by_cases hlt : k < en
    · obtain ⟨g, hcs, hmx, hof⟩ := HC.out k hlt
      have GK := hid (GO.out k hlt)
      obtain ⟨k0, k1, k2, k3, k4, k5, k6, k7⟩ := hcs.below hbl hb
      obtain ⟨x, ex⟩ : ∃ x, x = os.getD k ob0 := ⟨_, rfl⟩
      rw [← ex] at k0 k1 k2 hof GK
      obtain ⟨pv, hpv⟩ : ∃ pv, pv = x.prio := ⟨_, rfl⟩
      obtain ⟨qv, hqv⟩ : ∃ qv, qv = x.qcap := ⟨_, rfl⟩
      obtain ⟨dv, hdv⟩ : ∃ dv, dv = x.dcap := ⟨_, rfl⟩
      rw [← hpv] at k0
      rw [← hqv] at k1
      rw [← hdv] at k2
      obtain ⟨ko2, kn2, kc2, vo2, vn2, vc2, uo2, un2, uc2, so2, sn2, sc2, tt2, tn2, tc2⟩ := g
      obtain ⟨gk, gv, gu, gs, gt, gcap⟩ := hmx
      obtain ⟨ok, ov, ou, os2, ot⟩ := hof
      dsimp only at k3 k4 k5 k6 k7 gk gv gu gs gt gcap ok ov ou os2 ot
      have kn' : (k : Int) < (en : Int) := by omega
      obtain ⟨W, hW⟩ : ∃ W, W = wr.alloc (.cells #[.int .i64 pv, .int .i64 qv, .int .i64 dv, .slice ko2 kn2 kc2, .slice vo2 vn2 vc2, .slice uo2 un2 uc2, .slice so2 sn2 sc2, .slice tt2 tn2 tc2] 134) := ⟨_, rfl⟩
      have EW := E.out.alloc (.cells #[.int .i64 pv, .int .i64 qv, .int .i64 dv, .slice ko2 kn2 kc2, .slice vo2 vn2 vc2, .slice uo2 un2 uc2, .slice so2 sn2 sc2, .slice tt2 tn2 tc2] 134)
      have OW := heap_alloc_new wr (.cells #[.int .i64 pv, .int .i64 qv, .int .i64 dv, .slice ko2 kn2 kc2, .slice vo2 vn2 vc2, .slice uo2 un2 uc2, .slice so2 sn2 sc2, .slice tt2 tn2 tc2] 134)
      rw [← hW] at EW OW
      obtain ⟨lv, hlv⟩ : ∃ lv, lv = kd.leaf.getD k 0 := ⟨_, rfl⟩
      obtain ⟨co, cn, cc, c1, hcn, hsl⟩ := HCV.out k hlt
      obtain ⟨ao, an, ac, a1, han, hit⟩ := HCQ.out k hlt
      obtain ⟨do_, dn, dc, d1, hdn, hit2⟩ := HCP.out k hlt
      have lf := HCL.out k hlt
      rw [← hlv] at lf
      obtain ⟨b1, h1⟩ : ∃ b, b = leafB x.sts lv := ⟨_, rfl⟩
      obtain ⟨b2, h2⟩ : ∃ b, b = bankB x.kinds (kd.vals.getD k []) := ⟨_, rfl⟩
      obtain ⟨b3, h3⟩ : ∃ b, b = evB (kd.qs.getD k []) qv sg := ⟨_, rfl⟩
      obtain ⟨b4, h4⟩ : ∃ b, b = evB (kd.ds.getD k []) dv sg := ⟨_, rfl⟩
      have OB : Hid (obKi sg os kd k = (b1 && (b2 && (b3 && b4)))) := hid (by unfold obKi obK; rw [← ex, ← hlv, ← hqv, ← hdv, h1, h2, h3, h4])
      have lf := (EW.bel.cell (p := ⟨bl, offl + k, none⟩) hbll).trans lf
      have c1 := (EW.bel.cell (p := ⟨bv, offv + k, none⟩) hbvl).trans c1
      have a1 := (EW.bel.cell (p := ⟨bq, offq + k, none⟩) hbql).trans a1
      have d1 := (EW.bel.cell (p := ⟨bp, offp + k, none⟩) hbpl).trans d1
      have cL := hid (fun W1 (h : Below W.heap.size W W1) => leafFits_any so2 tt2 sn2 sc2 tn2 tc2 x.sts lv W1 gs (os2.below (EW.below h).bel))
      have cB := hid (fun W1 (h : Below W.heap.size W W1) => implBankOK_any ko2 co kn2 cn kc2 cc x.kinds (kd.vals.getD k []) W1 gk hcn (ok.below (EW.below h).bel) (hsl.below (EW.below h).bel))
      have cQ := hid (fun W1 (h : Below W.heap.size W W1) => eventsFit_any ao an ac (kd.qs.getD k []) qv sg W1 han (hit.below (EW.below h).bel))
      have cD := hid (fun W1 (h : Below W.heap.size W W1) => eventsFit_any do_ dn dc (kd.ds.getD k []) dv sg W1 hdn (hit2.below (EW.below h).bel))
      rw [iniB_leaf GK.out, ← h1] at cL
      rw [← h2] at cB
      rw [← h3] at cQ
      rw [← h4] at cD
      have dL : ∀ d os', Calls Tryz.prog 99 #[.agg #[.slice so2 sn2 sc2, .slice tt2 tn2 tc2], .int .i64 lv] (grow (redrawn W d) os') fun e w'' => e = .returned (.bool b1) ∧ ∃ p : Regrown, w'' = grow (redrawn W p.d) p.os := fun d os' => Calls.regrown_of (cL.out _ (below_regrown W d os'))
      have dB : ∀ d os', Calls Tryz.prog 100 #[.agg #[.slice ko2 kn2 kc2, .slice co cn cc]] (grow (redrawn W d) os') fun e w'' => e = .returned (.bool b2) ∧ ∃ p : Regrown, w'' = grow (redrawn W p.d) p.os := fun d os' => Calls.regrown_of (cB.out _ (below_regrown W d os'))
      have dQ : ∀ d os', Calls Tryz.prog 101 #[.slice ao an ac, .int .i64 qv, .int .i64 sg] (grow (redrawn W d) os') fun e w'' => e = .returned (.bool b3) ∧ ∃ p : Regrown, w'' = grow (redrawn W p.d) p.os := fun d os' => Calls.regrown_of (cQ.out _ (below_regrown W d os'))
      have dD : ∀ d os', Calls Tryz.prog 101 #[.slice do_ dn dc, .int .i64 dv, .int .i64 sg] (grow (redrawn W d) os') fun e w'' => e = .returned (.bool b4) ∧ ∃ p : Regrown, w'' = grow (redrawn W p.d) p.os := fun d os' => Calls.regrown_of (cD.out _ (below_regrown W d os'))
      clear y0 y1 y2 z0 z1 z2 z3 z4 z5
      obtain ⟨y0, y1, y2⟩ := three_cells EW.sy
      obtain ⟨z0, z1, z2, z3, z4, z5⟩ := six_cells EW.ke
      obtain ⟨o0, o1, o2, o3, o4, o5, o6, o7⟩ := eight_cells OW
      have y0 := cell_regrown y0
      have y1 := cell_regrown y1
      have y2 := cell_regrown y2
      have z0 := cell_regrown z0
      have z1 := cell_regrown z1
      have z2 := cell_regrown z2
      have z3 := cell_regrown z3
      have z4 := cell_regrown z4
      have z5 := cell_regrown z5
      have o0 := cell_regrown o0
      have o1 := cell_regrown o1
      have o2 := cell_regrown o2
      have o3 := cell_regrown o3
      have o4 := cell_regrown o4
      have o5 := cell_regrown o5
      have o6 := cell_regrown o6
      have o7 := cell_regrown o7
      have lf := cell_regrown lf
      have c1 := cell_regrown c1
      have a1 := cell_regrown a1
      have d1 := cell_regrown d1
      obtain ⟨x0, x1, x2⟩ := three_cells E.out.sy
      have EE := hid EW
      clear hcs ok ov ou os2 ot hb ex hpv hqv hdv hlv hcn hsl han hit hdn hit2 h1 h2 h3 h4 OW gk gv gu gs gt gcap cL cB cQ cD EW GK
      have EW := EE.out
      by_cases hall : b1 = true ∧ b2 = true ∧ b3 = true ∧ b4 = true
      case neg =>
        have E5 : Hid (kerB sg os ts kd = false) := hid (ker_ob (i := k) (by rw [HL.out]; exact hlt) (by rw [OB.out]; exact no_14 hall))
        clear EE
        cases b1 with
        | false =>
          clear hall
          go_wp2_with fail
          rw [← hW]
          clear hW k0 k1 k2 k3 k4 k5 k6 k7
          refine wp_region_quiet_below (by kernel_rfl) (by kernel_rfl) ?_
          repeat (any_goals (first | go_big_quiet_step (first | with_reducible exact dL _ _ | with_reducible exact dB _ _ | with_reducible exact dQ _ _ | with_reducible exact dD _ _) | quiet_step (first | with_reducible exact dL _ _ | with_reducible exact dB _ _ | with_reducible exact dQ _ _ | with_reducible exact dD _ _)))
          refine wpQuiet_nil ?_
          intro _ hw'
          obtain ⟨⟨dq, osq⟩, hw''⟩ := hw'
          subst hw''
          go_wp2_with fail
          go_ret
          exact ⟨ret_bool E5.out.symm, EW.bel.trans ((below_regrown W dq osq).mono EW.bel.size)⟩
        | true =>
          cases b2 with
          | false =>
            clear hall
            go_wp2_with fail
            rw [← hW]
            clear hW k0 k1 k2 k3 k4 k5 k6 k7
            refine wp_region_quiet_below (by kernel_rfl) (by kernel_rfl) ?_
            repeat (any_goals (first | go_big_quiet_step (first | with_reducible exact dL _ _ | with_reducible exact dB _ _ | with_reducible exact dQ _ _ | with_reducible exact dD _ _) | quiet_step (first | with_reducible exact dL _ _ | with_reducible exact dB _ _ | with_reducible exact dQ _ _ | with_reducible exact dD _ _)))
            refine wpQuiet_nil ?_
            intro _ hw'
            obtain ⟨⟨dq, osq⟩, hw''⟩ := hw'
            subst hw''
            go_wp2_with fail
            go_ret
            exact ⟨ret_bool E5.out.symm, EW.bel.trans ((below_regrown W dq osq).mono EW.bel.size)⟩
          | true =>
            cases b3 with
            | false =>
              clear hall
              go_wp2_with fail
              rw [← hW]
              clear hW k0 k1 k2 k3 k4 k5 k6 k7
              refine wp_region_quiet_below (by kernel_rfl) (by kernel_rfl) ?_
              repeat (any_goals (first | go_big_quiet_step (first | with_reducible exact dL _ _ | with_reducible exact dB _ _ | with_reducible exact dQ _ _ | with_reducible exact dD _ _) | quiet_step (first | with_reducible exact dL _ _ | with_reducible exact dB _ _ | with_reducible exact dQ _ _ | with_reducible exact dD _ _)))
              refine wpQuiet_nil ?_
              intro _ hw'
              obtain ⟨⟨dq, osq⟩, hw''⟩ := hw'
              subst hw''
              go_wp2_with fail
              go_ret
              exact ⟨ret_bool E5.out.symm, EW.bel.trans ((below_regrown W dq osq).mono EW.bel.size)⟩
            | true =>
              cases b4 with
              | false =>
                clear hall
                go_wp2_with fail
                rw [← hW]
                clear hW k0 k1 k2 k3 k4 k5 k6 k7
                refine wp_region_quiet_below (by kernel_rfl) (by kernel_rfl) ?_
                repeat (any_goals (first | go_big_quiet_step (first | with_reducible exact dL _ _ | with_reducible exact dB _ _ | with_reducible exact dQ _ _ | with_reducible exact dD _ _) | quiet_step (first | with_reducible exact dL _ _ | with_reducible exact dB _ _ | with_reducible exact dQ _ _ | with_reducible exact dD _ _)))
                refine wpQuiet_nil ?_
                intro _ hw'
                obtain ⟨⟨dq, osq⟩, hw''⟩ := hw'
                subst hw''
                go_wp2_with fail
                go_ret
                exact ⟨ret_bool E5.out.symm, EW.bel.trans ((below_regrown W dq osq).mono EW.bel.size)⟩
              | true => exact absurd ⟨rfl, rfl, rfl, rfl⟩ hall
      obtain ⟨rfl, rfl, rfl, rfl⟩ := hall
      go_wp2_with fail
      rw [← hW]
      clear hW k0 k1 k2 k3 k4 k5 k6 k7
      refine wp_region_quiet_below (by kernel_rfl) (by kernel_rfl) ?_
      repeat (any_goals (first | go_big_quiet_step (first | with_reducible exact dL _ _ | with_reducible exact dB _ _ | with_reducible exact dQ _ _ | with_reducible exact dD _ _) | quiet_step (first | with_reducible exact dL _ _ | with_reducible exact dB _ _ | with_reducible exact dQ _ _ | with_reducible exact dD _ _)))
      refine wpQuiet_nil ?_
      intro _ hw'
      obtain ⟨⟨dq, osq⟩, hw''⟩ := hw'
      subst hw''
      go_wp2_with fail
      go_roundg (en - (k + 1))
      case measure => omega
      case rel =>
        refine ⟨k + 1, by omega, rfl, by go_num, hid (fun j hj => ?_), EE.out.below (below_regrown W dq osq)⟩
        by_cases e : j = k
        · subst e; rw [OB.out]; rfl
        · exact HP.out j (by omega)
    · have e : k = en := by omega
      subst e
      have HP' : Hid (∀ i, i < os.length → obKi sg os kd i = true) := hid (by rw [HL.out]; exact HP.out)
      clear hb HP
      go_wp2_with fail
      go_loopg [117] xn (fun mm i wr => ∃ q : Nat, q ≤ xn ∧ mm = xn - q ∧ i = .int .i64 q ∧ Hid (∀ j, j < q → tmKi kd j = true) ∧ KE w wr #[.int .i64 sg, .slice (some ⟨b, off, none⟩) k ec, .slice xo xn xc] #[.slice (some ⟨bl, offl, none⟩) k lc, .slice (some ⟨bv, offv, none⟩) k vc, .slice (some ⟨bq, offq, none⟩) k qc, .slice (some ⟨bp, offp, none⟩) k pc, .slice fo xn fc, .slice go xn gc])
      case atStart => exact ⟨0, Nat.zero_le _, by omega, rfl, hid (fun j h => absurd h (by omega)), E.out⟩
      case round =>
        obtain ⟨q, hq, rfl, rfl, HQ, hE⟩ := hrel
        have E := hid hE
        clear y0 y1 y2 z0 z1 z2 z3 z4 z5
        obtain ⟨y0, y1, y2⟩ := three_cells hE.sy
        obtain ⟨z0, z1, z2, z3, z4, z5⟩ := six_cells hE.ke
        have hzl : w.heap.size + 1 < wr.heap.size := lt_of_block hE.ke
        have hzl0 : w.heap.size < wr.heap.size := by omega
        have hb := hE.bel
        clear hE
        by_cases hlt : q < xn
        · obtain ⟨bf, offf, rfl, hbfl, hcf⟩ := HF.out.2 (by omega)
          obtain ⟨bg, offg, rfl, hbgl, hcg⟩ := HG.out.2 (by omega)
          have t1 := (hb.cell (p := ⟨bf, offf + q, none⟩) hbfl).trans (hcf q hlt)
          have t2 := (hb.cell (p := ⟨bg, offg + q, none⟩) hbgl).trans (hcg q hlt)
          obtain ⟨lv, hlv⟩ : ∃ lv, lv = kd.left.getD q 0 := ⟨_, rfl⟩
          obtain ⟨ev, hev⟩ : ∃ ev, ev = kd.every.getD q 0 := ⟨_, rfl⟩
          rw [← hlv] at t1
          rw [← hev] at t2
          have TK : Hid (tmKi kd q = tmK lv ev) := hid (by unfold tmKi; rw [← hlv, ← hev])
          have qn : (q : Int) < (xn : Int) := by omega
          clear hcf hcg hb hlv hev
          by_cases h1 : lv < 0
          · have E5 : Hid (kerB sg os ts kd = false) := hid (ker_tm (t := q) (by rw [HT.out]; exact hlt) (by rw [TK.out]; unfold tmK; rw [decide_eq_false_iff_not]; omega))
            go_wp2_with fail
            go_ret
            exact ⟨ret_bool E5.out.symm, E.out.bel⟩
          by_cases h2 : 0 ≤ ev ∧ ev ≤ 999999999
          case neg =>
            have E5 : Hid (kerB sg os ts kd = false) := hid (ker_tm (t := q) (by rw [HT.out]; exact hlt) (by rw [TK.out]; unfold tmK; rw [decide_eq_false_iff_not]; omega))
            have CB := hid (between_of ev 0 999999999 false (betB_not h2))
            clear h2
            go_wp2_with (go_at_call 97; refine (CB.out _).mono ?_; rintro e wa ⟨rfl, hw⟩; obtain rfl := hw.symm)
            go_ret
            exact ⟨ret_bool E5.out.symm, E.out.bel⟩
          have CB := hid (between_of ev 0 999999999 true (betB_yes h2))
          by_cases h3 : lv = 0
          · by_cases h4 : ev = 0
            · have TT : Hid (tmKi kd q = true) := hid (by rw [TK.out]; unfold tmK; rw [decide_eq_true_iff]; omega)
              subst h3 h4
              clear h1 h2
              go_wp2_with (go_at_call 97; refine (CB.out _).mono ?_; rintro e wa ⟨rfl, hw⟩; obtain rfl := hw.symm)
              go_roundg (xn - (q + 1))
              case measure => omega
              case rel =>
                refine ⟨q + 1, by omega, rfl, by go_num, hid (fun j hj => ?_), E.out⟩
                by_cases e : j = q
                · subst e; exact TT.out
                · exact HQ.out j (by omega)
            · have E5 : Hid (kerB sg os ts kd = false) := hid (ker_tm (t := q) (by rw [HT.out]; exact hlt) (by rw [TK.out]; unfold tmK; rw [decide_eq_false_iff_not]; omega))
              have h4' : (ev != 0) = true := by simpa using h4
              subst h3
              clear h1 h2
              go_wp2_with (go_at_call 97; refine (CB.out _).mono ?_; rintro e wa ⟨rfl, hw⟩; obtain rfl := hw.symm)
              go_ret
              exact ⟨ret_bool E5.out.symm, E.out.bel⟩
          · have TT : Hid (tmKi kd q = true) := hid (by rw [TK.out]; unfold tmK; rw [decide_eq_true_iff]; omega)
            have h3' : (lv == 0) = false := by simpa using h3
            clear h2
            go_wp2_with (go_at_call 97; refine (CB.out _).mono ?_; rintro e wa ⟨rfl, hw⟩; obtain rfl := hw.symm)
            go_roundg (xn - (q + 1))
            case measure => omega
            case rel =>
              refine ⟨q + 1, by omega, rfl, by go_num, hid (fun j hj => ?_), E.out⟩
              by_cases e : j = q
              · subst e; exact TT.out
              · exact HQ.out j (by omega)
        · have e : q = xn := by omega
          subst e
          have E5 : Hid (kerB sg os ts kd = true) := hid (ker_yes SY.out LP.out HP'.out (by rw [HT.out]; exact HQ.out))
          clear hb
          go_wp2_with fail
          go_ret
          exact ⟨ret_bool E5.out.symm, E.out.bel⟩

set_option maxHeartbeats 1600000 in
theorem implKernelOK_any (sg : Int) (eo xo : Option Addr) (en ec xn xc : Nat) (os : List ObD) (ts : List (Int × Int)) (h : KerS) (kd : KerD) (w : World) (hen : en ≤ 9223372036854775807) (hec : en ≤ ec) (hxn : xn ≤ 9223372036854775807) (hm : KerMax h) (he : ObsOf w eo en os) (hx : ItemsOf w xo xn ts) (hk : KerOf w h kd) :
    Calls Tryz.prog 39 #[.agg #[.int .i64 sg, .slice eo en ec, .slice xo xn xc], kerV h] w fun e w' => e = .returned (.bool (kerB sg os ts kd)) ∧ Below w.heap.size w w' := by
  have HX : Hid (∀ w', Below w.heap.size w w' → ObsOf w' eo en os ∧ ItemsOf w' xo xn ts ∧ KerOf w' h kd) := fun w' hb => ⟨he.below hb, hx.below hb, hk.below hb⟩
  have CF := hid (fun hsy w he hx hk => kernelFits_any sg eo xo en ec xn xc os ts h kd w hsy hm he hx hk)
  obtain ⟨lo, ln, lc, vo, vn, vc, qo, qn, qc, po, pn, pc, fo, fn, fc, go, gn, gc⟩ := h
  unfold kerV at CF ⊢
  dsimp only at CF ⊢
  have EN := hid (ke_start w #[.int .i64 sg, .slice eo en ec, .slice xo xn xc] #[.slice lo ln lc, .slice vo vn vc, .slice qo qn qc, .slice po pn pc, .slice fo fn fc, .slice go gn gc])
  have C := hid (implSystem_any sg eo xo en ec xn xc os ts _ hen hec hxn (HX.out _ EN.out.bel).1 (HX.out _ EN.out.bel).2.1)
  by_cases hsy : (sysFault sg os ts).1 = 0
  · have CF2 := hid (CF.out hsy)
    have s1 : (sysFault sg os ts).1 = 0 := hsy
    obtain ⟨f1, hf1⟩ : ∃ f, f = (sysFault sg os ts).2.1 := ⟨_, rfl⟩
    obtain ⟨f2, hf2⟩ : ∃ f, f = (sysFault sg os ts).2.2 := ⟨_, rfl⟩
    rw [s1, ← hf1, ← hf2] at C
    obtain ⟨kb, hkb⟩ : ∃ kb, kb = kerB sg os ts kd := ⟨_, rfl⟩
    rw [← hkb] at CF2 ⊢
    clear he hx hk hsy s1 hf1 hf2 CF hkb hm
    go_enter Tryz.func39, Tryz.ntmps39
    go_wp2_with (first
      | (go_at_call 70; refine C.out.mono ?_; rintro e w1 ⟨rfl, hb1⟩; have B1 := hid (EN.out.below hb1); obtain ⟨r0, r1, r2⟩ := three_cells B1.out.sy; obtain ⟨q0, q1, q2, q3, q4, q5⟩ := six_cells B1.out.ke; clear hb1)
      | (go_at_call 71; refine (CF2.out _ (HX.out _ B1.out.bel).1 (HX.out _ B1.out.bel).2.1 (HX.out _ B1.out.bel).2.2).mono ?_; rintro e w2 ⟨rfl, hb2⟩; have B2 := hid (B1.out.below hb2); clear hb2))
    go_ret
    exact ⟨rfl, B2.out.bel⟩
  · have E : Hid (kerB sg os ts kd = false) := hid (ker_sys hsy)
    rw [E.out]
    obtain ⟨f0, hf0⟩ : ∃ f, f = (sysFault sg os ts).1 := ⟨_, rfl⟩
    obtain ⟨f1, hf1⟩ : ∃ f, f = (sysFault sg os ts).2.1 := ⟨_, rfl⟩
    obtain ⟨f2, hf2⟩ : ∃ f, f = (sysFault sg os ts).2.2 := ⟨_, rfl⟩
    rw [← hf0, ← hf1, ← hf2] at C
    rw [← hf0] at hsy
    have hne : (f0 != 0) = true := by simpa using hsy
    clear he hx hk hf0 hf1 hf2 CF hm
    go_enter Tryz.func39, Tryz.ntmps39
    go_wp2_with (go_at_call 70; refine C.out.mono ?_; rintro e w1 ⟨rfl, hb1⟩; have B1 := hid (EN.out.below hb1); clear hb1)
    go_ret
    exact ⟨rfl, B1.out.bel⟩
end Go.Proofs.YthaklmdhkkfigaaGreat
