import Derived.Test.YthaklmdhkkfigaaGreatU4
namespace Go.Proofs.YthaklmdhkkfigaaGreat
open Go.RowKit Go.Sort
set_option linter.unusedVariables false
attribute [local go_sem ↓] Go.wp_at_zero Go.wp_at_succ

theorem no_12 {a b c d : Bool} (h : ¬ (a = true ∧ b = true)) : (a && (b && (c && d))) = false := by cases a <;> cases b <;> simp_all
theorem no_34 {a b c d : Bool} (h : ¬ (c = true ∧ d = true)) : (a && (b && (c && d))) = false := by cases a <;> cases b <;> cases c <;> cases d <;> simp_all
theorem no_14 {a b c d : Bool} (h : ¬ (a = true ∧ b = true ∧ c = true ∧ d = true)) : (a && (b && (c && d))) = false := by cases a <;> cases b <;> cases c <;> cases d <;> simp_all
/-- What stays of the boxes of a system and of a kernel. -/
structure KE (w wr : World) (s k : Array Value) : Prop where
  bel : Below w.heap.size w wr
  sy : wr.heap[w.heap.size]? = some (.cells s 42 (0, 0))
  ke : wr.heap[w.heap.size + 1]? = some (.cells k 35 (0, 0))
theorem KE.below {w wr w1 : World} {s k : Array Value} (h : KE w wr s k) (hb : Below wr.heap.size wr w1) : KE w w1 s k := ⟨h.bel.trans (hb.mono h.bel.size), block_below h.sy hb, block_below h.ke hb⟩
theorem KE.alloc {w wr : World} {s k : Array Value} (h : KE w wr s k) (x : Obj) : KE w (wr.alloc x) s k := h.below (below1 _ _)
theorem ke_start (w : World) (s k : Array Value) : KE w ((w.alloc (.cells s 42)).alloc (.cells k 35)) s k :=
  ⟨below2 _ _ _, block_below (heap_alloc_new w _) (below1 _ _), by simpa using heap_alloc_new (w.alloc (.cells s 42)) (.cells k 35)⟩

set_option maxRecDepth 100000 in
set_option maxHeartbeats 12800000 in
theorem specKernelOK_any (sg : Int) (eo xo : Option Addr) (en ec xn xc : Nat) (os : List ObD) (ts : List (Int × Int)) (h : KerS) (kd : KerD) (w : World) (hen : en ≤ 9223372036854775807) (hec : en ≤ ec) (hxn : xn ≤ 9223372036854775807) (hm : KerMax h) (he : ObsOf w eo en os) (hx : ItemsOf w xo xn ts) (hk : KerOf w h kd) :
    Calls Tryz.prog 29 #[.agg #[.int .i64 sg, .slice eo en ec, .slice xo xn xc], kerV h] w fun e w' => e = .returned (.bool (kerB sg os ts kd)) ∧ Below w.heap.size w w' := by
  obtain ⟨lo, ln, lc, vo, vn, vc, qo, qn, qc, po, pn, pc, fo, fn, fc, go, gn, gc⟩ := h
  obtain ⟨ml, mv, mq, mp, me, mf⟩ := hm
  obtain ⟨hl, hv, hq, hp, hf, hg⟩ := hk
  dsimp only at ml mv mq mp me mf hl hv hq hp hf hg
  unfold kerV
  dsimp only
  have HL := hid he.1
  have HT := hid hx.1
  have LN : Hid (lenP os ts kd ↔ ((ln = en ∧ vn = en ∧ qn = en ∧ pn = en) ∧ fn = xn ∧ gn = xn)) := hid (by unfold lenP; rw [hl.1, hv.1, hq.1, hp.1, hf.1, hg.1, HL.out, HT.out])
  have EN := hid (ke_start w #[.int .i64 sg, .slice eo en ec, .slice xo xn xc] #[.slice lo ln lc, .slice vo vn vc, .slice qo qn qc, .slice po pn pc, .slice fo fn fc, .slice go gn gc])
  have C := hid (l4SystemOK_any sg eo xo en ec xn xc os ts _ hen hec hxn (he.below EN.out.bel) (hx.below EN.out.bel))
  by_cases hsy : (sysFault sg os ts).1 = 0
  case neg =>
    rw [show decide ((sysFault sg os ts).1 = 0) = false from by simpa using hsy] at C
    have E : Hid (kerB sg os ts kd = false) := hid (ker_sys hsy)
    rw [E.out]
    clear he hx hl hv hq hp hf hg hsy
    go_enter Tryz.func29, Tryz.ntmps29
    go_wp2_with (go_at_call 62; refine C.out.mono ?_; rintro e w1 ⟨rfl, hb1⟩; have B1 := hid (EN.out.below hb1); clear hb1)
    go_ret
    exact ⟨rfl, B1.out.bel⟩
  rw [show decide ((sysFault sg os ts).1 = 0) = true from by simpa using hsy] at C
  have SY := hid hsy
  have CN := sys_cnt hsy
  rw [HL.out, HT.out] at CN
  obtain ⟨⟨s1, s2⟩, ⟨n1, n2⟩, x2⟩ := CN
  by_cases hln : (ln = en ∧ vn = en ∧ qn = en ∧ pn = en) ∧ fn = xn ∧ gn = xn
  case neg =>
    have E : Hid (kerB sg os ts kd = false) := hid (ker_len (fun h => hln (LN.out.1 h)))
    rw [E.out]
    clear he hx hl hv hq hp hf hg hsy
    by_cases l1 : ln = en
    case neg =>
      have l1' : ((ln : Int) != (en : Int)) = true := by simp; omega
      go_enter Tryz.func29, Tryz.ntmps29
      go_wp2_with (go_at_call 62; refine C.out.mono ?_; rintro e w1 ⟨rfl, hb1⟩; have B1 := hid (EN.out.below hb1); obtain ⟨q0, q1, q2, q3, q4, q5⟩ := six_cells B1.out.ke; obtain ⟨r0, r1, r2⟩ := three_cells B1.out.sy; clear hb1)
      go_ret
      exact ⟨rfl, B1.out.bel⟩
    by_cases l2 : vn = en
    case neg =>
      have l2' : ((vn : Int) != (en : Int)) = true := by simp; omega
      subst l1
      go_enter Tryz.func29, Tryz.ntmps29
      go_wp2_with (go_at_call 62; refine C.out.mono ?_; rintro e w1 ⟨rfl, hb1⟩; have B1 := hid (EN.out.below hb1); obtain ⟨q0, q1, q2, q3, q4, q5⟩ := six_cells B1.out.ke; obtain ⟨r0, r1, r2⟩ := three_cells B1.out.sy; clear hb1)
      go_ret
      exact ⟨rfl, B1.out.bel⟩
    by_cases l3 : qn = en
    case neg =>
      have l3' : ((qn : Int) != (en : Int)) = true := by simp; omega
      subst l1 l2
      go_enter Tryz.func29, Tryz.ntmps29
      go_wp2_with (go_at_call 62; refine C.out.mono ?_; rintro e w1 ⟨rfl, hb1⟩; have B1 := hid (EN.out.below hb1); obtain ⟨q0, q1, q2, q3, q4, q5⟩ := six_cells B1.out.ke; obtain ⟨r0, r1, r2⟩ := three_cells B1.out.sy; clear hb1)
      go_ret
      exact ⟨rfl, B1.out.bel⟩
    by_cases l4 : pn = en
    case neg =>
      have l4' : ((pn : Int) != (en : Int)) = true := by simp; omega
      subst l1 l2 l3
      go_enter Tryz.func29, Tryz.ntmps29
      go_wp2_with (go_at_call 62; refine C.out.mono ?_; rintro e w1 ⟨rfl, hb1⟩; have B1 := hid (EN.out.below hb1); obtain ⟨q0, q1, q2, q3, q4, q5⟩ := six_cells B1.out.ke; obtain ⟨r0, r1, r2⟩ := three_cells B1.out.sy; clear hb1)
      go_ret
      exact ⟨rfl, B1.out.bel⟩
    by_cases l5 : fn = xn
    case neg =>
      have l5' : ((fn : Int) != (xn : Int)) = true := by simp; omega
      subst l1 l2 l3 l4
      go_enter Tryz.func29, Tryz.ntmps29
      go_wp2_with (go_at_call 62; refine C.out.mono ?_; rintro e w1 ⟨rfl, hb1⟩; have B1 := hid (EN.out.below hb1); obtain ⟨q0, q1, q2, q3, q4, q5⟩ := six_cells B1.out.ke; obtain ⟨r0, r1, r2⟩ := three_cells B1.out.sy; clear hb1)
      go_ret
      exact ⟨rfl, B1.out.bel⟩
    have l6 : ¬ gn = xn := fun h => hln ⟨⟨l1, l2, l3, l4⟩, l5, h⟩
    have l6' : ((gn : Int) != (xn : Int)) = true := by simp; omega
    subst l1 l2 l3 l4 l5
    clear hln
    go_enter Tryz.func29, Tryz.ntmps29
    go_wp2_with (go_at_call 62; refine C.out.mono ?_; rintro e w1 ⟨rfl, hb1⟩; have B1 := hid (EN.out.below hb1); obtain ⟨q0, q1, q2, q3, q4, q5⟩ := six_cells B1.out.ke; obtain ⟨r0, r1, r2⟩ := three_cells B1.out.sy; clear hb1)
    go_ret
    exact ⟨rfl, B1.out.bel⟩
  have LP : Hid (lenP os ts kd) := hid (LN.out.2 hln)
  obtain rfl : en = ln := hln.1.1.symm
  obtain rfl : en = vn := hln.1.2.1.symm
  obtain rfl : en = qn := hln.1.2.2.1.symm
  obtain rfl : en = pn := hln.1.2.2.2.symm
  obtain rfl : xn = fn := hln.2.1.symm
  obtain rfl : xn = gn := hln.2.2.symm
  obtain ⟨b, off, rfl, hbl, hc⟩ := he.2 (by omega)
  obtain ⟨bl, offl, rfl, hbll, hcl⟩ := hl.2 (by omega)
  obtain ⟨bv, offv, rfl, hbvl, hcv⟩ := hv.2 (by omega)
  obtain ⟨bq, offq, rfl, hbql, hcq⟩ := hq.2 (by omega)
  obtain ⟨bp, offp, rfl, hbpl, hcp⟩ := hp.2 (by omega)
  have HC : Hid (∀ j, j < en → ObAt w b (off + j * 8) (os.getD j ob0)) := hid hc
  have HCL := hid hcl
  have HCV := hid hcv
  have HCQ := hid hcq
  have HCP := hid hcp
  have HF := hid hf
  have HG := hid hg
  clear he hx hl hv hq hp hf hg hsy hc hcl hcv hcq hcp hln ml mv mq mp me mf hen hxn
  go_enter Tryz.func29, Tryz.ntmps29
  go_wp2_with (go_at_call 62; refine C.out.mono ?_; rintro e w1 ⟨rfl, hb1⟩; have B1 := hid (EN.out.below hb1); obtain ⟨q0, q1, q2, q3, q4, q5⟩ := six_cells B1.out.ke; obtain ⟨r0, r1, r2⟩ := three_cells B1.out.sy; clear hb1)
  go_loopg [62] en (fun mm i wr => ∃ k : Nat, k ≤ en ∧ mm = en - k ∧ i = .int .i64 k ∧ Hid (∀ j, j < k → obKi sg os kd j = true) ∧ KE w wr #[.int .i64 sg, .slice (some ⟨b, off, none⟩) en ec, .slice xo xn xc] #[.slice (some ⟨bl, offl, none⟩) en lc, .slice (some ⟨bv, offv, none⟩) en vc, .slice (some ⟨bq, offq, none⟩) en qc, .slice (some ⟨bp, offp, none⟩) en pc, .slice fo xn fc, .slice go xn gc])
  case atStart => exact ⟨0, Nat.zero_le _, by omega, rfl, hid (fun j h => absurd h (by omega)), B1.out⟩
  case round =>
    obtain ⟨k, hk, rfl, rfl, HP, hE⟩ := hrel
    have E := hid hE
    obtain ⟨y0, y1, y2⟩ := three_cells hE.sy
    obtain ⟨z0, z1, z2, z3, z4, z5⟩ := six_cells hE.ke
    have hzl : w.heap.size + 1 < wr.heap.size := lt_of_block hE.ke
    have hzl0 : w.heap.size < wr.heap.size := by omega
    have hb := hE.bel
    clear hE
    by_cases hlt : k < en
    · obtain ⟨g, hcs, hmx, hof⟩ := HC.out k hlt
      obtain ⟨k0, k1, k2, k3, k4, k5, k6, k7⟩ := hcs.below hbl hb
      obtain ⟨x, ex⟩ : ∃ x, x = os.getD k ob0 := ⟨_, rfl⟩
      rw [← ex] at k0 k1 k2 hof
      obtain ⟨pv, hpv⟩ : ∃ pv, pv = x.prio := ⟨_, rfl⟩
      obtain ⟨qv, hqv⟩ : ∃ qv, qv = x.qcap := ⟨_, rfl⟩
      obtain ⟨dv, hdv⟩ : ∃ dv, dv = x.dcap := ⟨_, rfl⟩
      rw [← hpv] at k0
      rw [← hqv] at k1
      rw [← hdv] at k2
      obtain ⟨ko2, kn2, kc2, vo2, vn2, vc2, uo2, un2, uc2, so2, sn2, sc2, tt2, tn2, tc2⟩ := g
      obtain ⟨gk, gv, gu, gs, gt, gcap⟩ := hmx
      obtain ⟨ok, ov, ou, os2, ot⟩ := hof
      dsimp only at k3 k4 k5 k6 k7 gk gv gu gs gt gcap ok ov ou os2 ot
      have kn' : (k : Int) < (en : Int) := by omega
      obtain ⟨W, hW⟩ : ∃ W, W = wr.alloc (.cells #[.int .i64 pv, .int .i64 qv, .int .i64 dv, .slice ko2 kn2 kc2, .slice vo2 vn2 vc2, .slice uo2 un2 uc2, .slice so2 sn2 sc2, .slice tt2 tn2 tc2] 134) := ⟨_, rfl⟩
      have EW := E.out.alloc (.cells #[.int .i64 pv, .int .i64 qv, .int .i64 dv, .slice ko2 kn2 kc2, .slice vo2 vn2 vc2, .slice uo2 un2 uc2, .slice so2 sn2 sc2, .slice tt2 tn2 tc2] 134)
      have OW := heap_alloc_new wr (.cells #[.int .i64 pv, .int .i64 qv, .int .i64 dv, .slice ko2 kn2 kc2, .slice vo2 vn2 vc2, .slice uo2 un2 uc2, .slice so2 sn2 sc2, .slice tt2 tn2 tc2] 134)
      rw [← hW] at EW OW
      obtain ⟨lv, hlv⟩ : ∃ lv, lv = kd.leaf.getD k 0 := ⟨_, rfl⟩
      obtain ⟨co, cn, cc, c1, hcn, hsl⟩ := HCV.out k hlt
      obtain ⟨ao, an, ac, a1, han, hit⟩ := HCQ.out k hlt
      obtain ⟨do_, dn, dc, d1, hdn, hit2⟩ := HCP.out k hlt
      have lf := HCL.out k hlt
      rw [← hlv] at lf
      have cells : ∀ W1, Below W.heap.size W W1 → KE w W1 #[.int .i64 sg, .slice (some ⟨b, off, none⟩) en ec, .slice xo xn xc] #[.slice (some ⟨bl, offl, none⟩) en lc, .slice (some ⟨bv, offv, none⟩) en vc, .slice (some ⟨bq, offq, none⟩) en qc, .slice (some ⟨bp, offp, none⟩) en pc, .slice fo xn fc, .slice go xn gc] ∧ W1.heap[wr.heap.size]? = some (.cells #[.int .i64 pv, .int .i64 qv, .int .i64 dv, .slice ko2 kn2 kc2, .slice vo2 vn2 vc2, .slice uo2 un2 uc2, .slice so2 sn2 sc2, .slice tt2 tn2 tc2] 134 (0, 0)) ∧
          W1.cell? ⟨bl, offl + k, none⟩ = some (.int .i64 lv) ∧ W1.cell? ⟨bv, offv + k, none⟩ = some (.slice co cn cc) ∧ W1.cell? ⟨bq, offq + k, none⟩ = some (.slice ao an ac) ∧ W1.cell? ⟨bp, offp + k, none⟩ = some (.slice do_ dn dc) := fun W1 h =>
        ⟨EW.below h, block_below OW h, ((EW.below h).bel.cell (p := ⟨bl, offl + k, none⟩) hbll).trans lf, ((EW.below h).bel.cell (p := ⟨bv, offv + k, none⟩) hbvl).trans c1, ((EW.below h).bel.cell (p := ⟨bq, offq + k, none⟩) hbql).trans a1, ((EW.below h).bel.cell (p := ⟨bp, offp + k, none⟩) hbpl).trans d1⟩
      have CW := hid cells
      obtain ⟨b1, h1⟩ : ∃ b, b = leafB x.sts lv := ⟨_, rfl⟩
      obtain ⟨b2, h2⟩ : ∃ b, b = bankB x.kinds (kd.vals.getD k []) := ⟨_, rfl⟩
      obtain ⟨b3, h3⟩ : ∃ b, b = evB (kd.qs.getD k []) qv sg := ⟨_, rfl⟩
      obtain ⟨b4, h4⟩ : ∃ b, b = evB (kd.ds.getD k []) dv sg := ⟨_, rfl⟩
      have OB : Hid (obKi sg os kd k = (b1 && (b2 && (b3 && b4)))) := hid (by unfold obKi obK; rw [← ex, ← hlv, ← hqv, ← hdv, h1, h2, h3, h4])
      have cL := hid (fun W1 (h : Below W.heap.size W W1) => l3Leaf_any so2 tt2 sn2 sc2 tn2 tc2 x.sts lv W1 gs (os2.below (EW.below h).bel))
      have cB := hid (fun W1 (h : Below W.heap.size W W1) => specBankOK_any ko2 co kn2 cn kc2 cc x.kinds (kd.vals.getD k []) W1 gk hcn (ok.below (EW.below h).bel) (hsl.below (EW.below h).bel))
      have cQ := hid (fun W1 (h : Below W.heap.size W W1) => l4EventsOK_any ao an ac (kd.qs.getD k []) qv sg W1 han s1 s2 (hit.below (EW.below h).bel))
      have cD := hid (fun W1 (h : Below W.heap.size W W1) => l4EventsOK_any do_ dn dc (kd.ds.getD k []) dv sg W1 hdn s1 s2 (hit2.below (EW.below h).bel))
      rw [← h1] at cL
      rw [← h2] at cB
      rw [← h3] at cQ
      rw [← h4] at cD
      clear hcs ok ov ou os2 ot hb ex hpv hqv hdv hlv hcn hsl han hit hdn hit2 lf c1 a1 d1 cells h1 h2 h3 h4 EW OW gk gv gu gs gt gcap
      have RB : Below W.heap.size W W := Below.refl _ _
      obtain ⟨EW, OW, lf, c1, a1, d1⟩ := CW.out W RB
      obtain ⟨y0, y1, y2⟩ := three_cells EW.sy
      obtain ⟨z0, z1, z2, z3, z4, z5⟩ := six_cells EW.ke
      obtain ⟨o0, o1, o2, o3, o4, o5, o6, o7⟩ := eight_cells OW
      have y0 := cell_regrown y0
      have y1 := cell_regrown y1
      have y2 := cell_regrown y2
      have z0 := cell_regrown z0
      have z1 := cell_regrown z1
      have z2 := cell_regrown z2
      have z3 := cell_regrown z3
      have z4 := cell_regrown z4
      have z5 := cell_regrown z5
      have o0 := cell_regrown o0
      have o1 := cell_regrown o1
      have o2 := cell_regrown o2
      have o3 := cell_regrown o3
      have o4 := cell_regrown o4
      have o5 := cell_regrown o5
      have o6 := cell_regrown o6
      have o7 := cell_regrown o7
      have lf := cell_regrown lf
      have c1 := cell_regrown c1
      have a1 := cell_regrown a1
      have d1 := cell_regrown d1

      have dL : ∀ d os', Calls Tryz.prog 63 #[.agg #[.slice so2 sn2 sc2, .slice tt2 tn2 tc2], .int .i64 lv] (grow (redrawn W d) os') fun e w'' => e = .returned (.bool b1) ∧ ∃ p : Regrown, w'' = grow (redrawn W p.d) p.os := fun d os' => Calls.regrown_of (cL.out _ (below_regrown W d os'))
      have dB : ∀ d os', Calls Tryz.prog 64 #[.agg #[.slice ko2 kn2 kc2, .slice co cn cc]] (grow (redrawn W d) os') fun e w'' => e = .returned (.bool b2) ∧ ∃ p : Regrown, w'' = grow (redrawn W p.d) p.os := fun d os' => Calls.regrown_of (cB.out _ (below_regrown W d os'))
      by_cases h12 : b1 = true ∧ b2 = true
      case neg =>
        have E5 : Hid (kerB sg os ts kd = false) := hid (ker_ob (i := k) (by rw [HL.out]; exact hlt) (by rw [OB.out]; exact no_12 h12))
        clear cL cB cQ cD
        cases b1 with
        | false =>
          clear h12
          go_wp2_with fail
          rw [← hW]
          clear hW k0 k1 k2 k3 k4 k5 k6 k7
          refine wp_region_quiet_below (by kernel_rfl) (by kernel_rfl) ?_
          repeat (any_goals (first | go_big_quiet_step (first | exact dL _ _ | exact dB _ _) | quiet_step (first | exact dL _ _ | exact dB _ _)))
          refine wpQuiet_nil ?_
          intro _ hw'
          obtain ⟨⟨dq, osq⟩, hw''⟩ := hw'
          subst hw''
          go_wp2_with fail
          go_ret
          exact ⟨ret_bool E5.out.symm, EW.bel.trans ((below_regrown W dq osq).mono EW.bel.size)⟩
        | true =>
          cases b2 with
          | true => exact absurd ⟨rfl, rfl⟩ h12
          | false =>
            clear h12
            go_wp2_with fail
            rw [← hW]
            clear hW k0 k1 k2 k3 k4 k5 k6 k7
            refine wp_region_quiet_below (by kernel_rfl) (by kernel_rfl) ?_
            repeat (any_goals (first | go_big_quiet_step (first | exact dL _ _ | exact dB _ _) | quiet_step (first | exact dL _ _ | exact dB _ _)))
            refine wpQuiet_nil ?_
            intro _ hw'
            obtain ⟨⟨dq, osq⟩, hw''⟩ := hw'
            subst hw''
            go_wp2_with fail
            go_ret
            exact ⟨ret_bool E5.out.symm, EW.bel.trans ((below_regrown W dq osq).mono EW.bel.size)⟩
      obtain ⟨rfl, rfl⟩ := h12
      clear cL cB
      go_wp2_with fail
      rw [← hW]
      clear hW k0 k1 k2 k3 k4 k5 k6 k7
      refine wp_region_quiet_below (by kernel_rfl) (by kernel_rfl) ?_
      repeat (any_goals (first | go_big_quiet_step (first | exact dL _ _ | exact dB _ _) | quiet_step (first | exact dL _ _ | exact dB _ _)))
      refine wpQuiet_nil ?_
      intro _ hw'
      obtain ⟨⟨dq, osq⟩, hw''⟩ := hw'
      subst hw''
      obtain ⟨W1, hW1⟩ : ∃ W1, W1 = grow (redrawn W dq) osq := ⟨_, rfl⟩
      have BW1 : Below W.heap.size W W1 := by rw [hW1]; exact below_regrown W dq osq
      rw [← hW1]
      clear y0 y1 y2 z0 z1 z2 z3 z4 z5 o0 o1 o2 o3 o4 o5 o6 o7 lf c1 a1 d1 EW OW dL dB hW1
      obtain ⟨EW, OW, lf, c1, a1, d1⟩ := CW.out W1 BW1
      obtain ⟨y0, y1, y2⟩ := three_cells EW.sy
      obtain ⟨z0, z1, z2, z3, z4, z5⟩ := six_cells EW.ke
      obtain ⟨o0, o1, o2, o3, o4, o5, o6, o7⟩ := eight_cells OW
      have y0 := cell_regrown y0
      have y1 := cell_regrown y1
      have y2 := cell_regrown y2
      have z0 := cell_regrown z0
      have z1 := cell_regrown z1
      have z2 := cell_regrown z2
      have z3 := cell_regrown z3
      have z4 := cell_regrown z4
      have z5 := cell_regrown z5
      have o0 := cell_regrown o0
      have o1 := cell_regrown o1
      have o2 := cell_regrown o2
      have o3 := cell_regrown o3
      have o4 := cell_regrown o4
      have o5 := cell_regrown o5
      have o6 := cell_regrown o6
      have o7 := cell_regrown o7
      have lf := cell_regrown lf
      have c1 := cell_regrown c1
      have a1 := cell_regrown a1
      have d1 := cell_regrown d1

      have dQ : ∀ d os', Calls Tryz.prog 65 #[.slice ao an ac, .int .i64 qv, .int .i64 sg] (grow (redrawn W1 d) os') fun e w'' => e = .returned (.bool b3) ∧ ∃ p : Regrown, w'' = grow (redrawn W1 p.d) p.os := fun d os' => Calls.regrown_of (cQ.out _ (BW1.trans ((below_regrown W1 d os').mono BW1.size)))
      have dD : ∀ d os', Calls Tryz.prog 65 #[.slice do_ dn dc, .int .i64 dv, .int .i64 sg] (grow (redrawn W1 d) os') fun e w'' => e = .returned (.bool b4) ∧ ∃ p : Regrown, w'' = grow (redrawn W1 p.d) p.os := fun d os' => Calls.regrown_of (cD.out _ (BW1.trans ((below_regrown W1 d os').mono BW1.size)))
      clear cQ cD
      by_cases h34 : b3 = true ∧ b4 = true
      case neg =>
        have E5 : Hid (kerB sg os ts kd = false) := hid (ker_ob (i := k) (by rw [HL.out]; exact hlt) (by rw [OB.out]; exact no_34 h34))
        cases b3 with
        | false =>
          clear h34
          go_wp2_with fail
          refine wp_region_quiet_below (by kernel_rfl) (by kernel_rfl) ?_
          repeat (any_goals (first | go_big_quiet_step (first | with_reducible exact dQ _ _ | with_reducible exact dD _ _) | quiet_step (first | with_reducible exact dQ _ _ | with_reducible exact dD _ _)))
          refine wpQuiet_nil ?_
          intro _ hw'
          obtain ⟨⟨dq, osq⟩, hw''⟩ := hw'
          subst hw''
          go_wp2_with fail
          go_ret
          exact ⟨ret_bool E5.out.symm, EW.bel.trans ((below_regrown W1 dq osq).mono EW.bel.size)⟩
        | true =>
          cases b4 with
          | true => exact absurd ⟨rfl, rfl⟩ h34
          | false =>
            clear h34
            go_wp2_with fail
            refine wp_region_quiet_below (by kernel_rfl) (by kernel_rfl) ?_
            repeat (any_goals (first | go_big_quiet_step (first | with_reducible exact dQ _ _ | with_reducible exact dD _ _) | quiet_step (first | with_reducible exact dQ _ _ | with_reducible exact dD _ _)))
            refine wpQuiet_nil ?_
            intro _ hw'
            obtain ⟨⟨dq, osq⟩, hw''⟩ := hw'
            subst hw''
            go_wp2_with fail
            go_ret
            exact ⟨ret_bool E5.out.symm, EW.bel.trans ((below_regrown W1 dq osq).mono EW.bel.size)⟩
      obtain ⟨rfl, rfl⟩ := h34
      have EW1 := hid EW
      go_wp2_with fail
      refine wp_region_quiet_below (by kernel_rfl) (by kernel_rfl) ?_
      repeat (any_goals (first | go_big_quiet_step (first | with_reducible exact dQ _ _ | with_reducible exact dD _ _) | quiet_step (first | with_reducible exact dQ _ _ | with_reducible exact dD _ _)))
      refine wpQuiet_nil ?_
      intro _ hw'
      obtain ⟨⟨dq, osq⟩, hw''⟩ := hw'
      subst hw''
      go_wp2_with fail
      go_roundg (en - (k + 1))
      case measure => omega
      case rel =>
        refine ⟨k + 1, by omega, rfl, by go_num, hid (fun j hj => ?_), EW1.out.below (below_regrown W1 dq osq)⟩
        by_cases e : j = k
        · subst e; rw [OB.out]; rfl
        · exact HP.out j (by omega)
    · have e : k = en := by omega
      subst e
      have HP' : Hid (∀ i, i < os.length → obKi sg os kd i = true) := hid (by rw [HL.out]; exact HP.out)
      clear hb HP
      go_wp2_with fail
      go_loopg [117] xn (fun mm i wr => ∃ q : Nat, q ≤ xn ∧ mm = xn - q ∧ i = .int .i64 q ∧ Hid (∀ j, j < q → tmKi kd j = true) ∧ KE w wr #[.int .i64 sg, .slice (some ⟨b, off, none⟩) k ec, .slice xo xn xc] #[.slice (some ⟨bl, offl, none⟩) k lc, .slice (some ⟨bv, offv, none⟩) k vc, .slice (some ⟨bq, offq, none⟩) k qc, .slice (some ⟨bp, offp, none⟩) k pc, .slice fo xn fc, .slice go xn gc])
      case atStart => exact ⟨0, Nat.zero_le _, by omega, rfl, hid (fun j h => absurd h (by omega)), E.out⟩
      case round =>
        obtain ⟨q, hq, rfl, rfl, HQ, hE⟩ := hrel
        have E := hid hE
        obtain ⟨y0, y1, y2⟩ := three_cells hE.sy
        obtain ⟨z0, z1, z2, z3, z4, z5⟩ := six_cells hE.ke
        have hzl : w.heap.size + 1 < wr.heap.size := lt_of_block hE.ke
        have hzl0 : w.heap.size < wr.heap.size := by omega
        have hb := hE.bel
        clear hE
        by_cases hlt : q < xn
        · obtain ⟨bf, offf, rfl, hbfl, hcf⟩ := HF.out.2 (by omega)
          obtain ⟨bg, offg, rfl, hbgl, hcg⟩ := HG.out.2 (by omega)
          have t1 := (hb.cell (p := ⟨bf, offf + q, none⟩) hbfl).trans (hcf q hlt)
          have t2 := (hb.cell (p := ⟨bg, offg + q, none⟩) hbgl).trans (hcg q hlt)
          obtain ⟨lv, hlv⟩ : ∃ lv, lv = kd.left.getD q 0 := ⟨_, rfl⟩
          obtain ⟨ev, hev⟩ : ∃ ev, ev = kd.every.getD q 0 := ⟨_, rfl⟩
          rw [← hlv] at t1
          rw [← hev] at t2
          have TK : Hid (tmKi kd q = tmK lv ev) := hid (by unfold tmKi; rw [← hlv, ← hev])
          have CB := hid (l1Between_any ev 0 999999999)
          have qn : (q : Int) < (xn : Int) := by omega
          clear hcf hcg hb hlv hev
          by_cases h1 : lv < 0
          · have E5 : Hid (kerB sg os ts kd = false) := hid (ker_tm (t := q) (by rw [HT.out]; exact hlt) (by rw [TK.out]; unfold tmK; rw [decide_eq_false_iff_not]; omega))
            go_wp2_with fail
            go_ret
            exact ⟨ret_bool E5.out.symm, E.out.bel⟩
          by_cases h2 : 0 ≤ ev ∧ ev ≤ 999999999
          case neg =>
            have E5 : Hid (kerB sg os ts kd = false) := hid (ker_tm (t := q) (by rw [HT.out]; exact hlt) (by rw [TK.out]; unfold tmK; rw [decide_eq_false_iff_not]; omega))
            rw [show betB ev 0 999999999 = false from (betB_not h2).symm] at CB
            clear h2
            go_wp2_with (go_at_call 31; refine (CB.out _).mono ?_; rintro e wa ⟨rfl, hw⟩; obtain rfl := hw.symm)
            go_ret
            exact ⟨ret_bool E5.out.symm, E.out.bel⟩
          rw [show betB ev 0 999999999 = true from (betB_yes h2).symm] at CB
          by_cases h3 : lv = 0
          · by_cases h4 : ev = 0
            · have TT : Hid (tmKi kd q = true) := hid (by rw [TK.out]; unfold tmK; rw [decide_eq_true_iff]; omega)
              subst h3 h4
              clear h1 h2
              go_wp2_with (go_at_call 31; refine (CB.out _).mono ?_; rintro e wa ⟨rfl, hw⟩; obtain rfl := hw.symm)
              go_roundg (xn - (q + 1))
              case measure => omega
              case rel =>
                refine ⟨q + 1, by omega, rfl, by go_num, hid (fun j hj => ?_), E.out⟩
                by_cases e : j = q
                · subst e; exact TT.out
                · exact HQ.out j (by omega)
            · have E5 : Hid (kerB sg os ts kd = false) := hid (ker_tm (t := q) (by rw [HT.out]; exact hlt) (by rw [TK.out]; unfold tmK; rw [decide_eq_false_iff_not]; omega))
              have h4' : (ev != 0) = true := by simpa using h4
              subst h3
              clear h1 h2
              go_wp2_with (go_at_call 31; refine (CB.out _).mono ?_; rintro e wa ⟨rfl, hw⟩; obtain rfl := hw.symm)
              go_ret
              exact ⟨ret_bool E5.out.symm, E.out.bel⟩
          · have TT : Hid (tmKi kd q = true) := hid (by rw [TK.out]; unfold tmK; rw [decide_eq_true_iff]; omega)
            have h3' : (lv == 0) = false := by simpa using h3
            clear h2
            go_wp2_with (go_at_call 31; refine (CB.out _).mono ?_; rintro e wa ⟨rfl, hw⟩; obtain rfl := hw.symm)
            go_roundg (xn - (q + 1))
            case measure => omega
            case rel =>
              refine ⟨q + 1, by omega, rfl, by go_num, hid (fun j hj => ?_), E.out⟩
              by_cases e : j = q
              · subst e; exact TT.out
              · exact HQ.out j (by omega)
        · have e : q = xn := by omega
          subst e
          have E5 : Hid (kerB sg os ts kd = true) := hid (ker_yes SY.out LP.out HP'.out (by rw [HT.out]; exact HQ.out))
          clear hb
          go_wp2_with fail
          go_ret
          exact ⟨ret_bool E5.out.symm, E.out.bel⟩
end Go.Proofs.YthaklmdhkkfigaaGreat
