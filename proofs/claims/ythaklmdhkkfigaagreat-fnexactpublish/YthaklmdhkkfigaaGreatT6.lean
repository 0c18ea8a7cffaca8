import Derived.Test.YthaklmdhkkfigaaGreatT5
namespace Go.Proofs.YthaklmdhkkfigaaGreat
open Go.RowKit Go.Sort
set_option linter.unusedVariables false
attribute [local go_sem ↓] Go.wp_at_zero Go.wp_at_succ

set_option maxRecDepth 100000 in
set_option maxHeartbeats 6400000 in
theorem l4ObjectFault_any (sg : Int) (eo xo : Option Addr) (en ec xn xc : Nat) (os : List ObD) (i : Nat) (w : World) (hi : i < en) (hen : en ≤ 64) (hec : en ≤ ec) (hxn : xn ≤ 200) (hs1 : 1 ≤ sg) (hs2 : sg ≤ 64) (he : ObsOf w eo en os) :
    Calls Tryz.prog 118 #[.agg #[.int .i64 sg, .slice eo en ec, .slice xo xn xc], .int .i64 (i : Int)] w fun e w' => e = .returned (.tuple #[.int .i64 (objFault sg os xn i).1, .int .i64 (objFault sg os xn i).2]) ∧ Below w.heap.size w w' := by
  have HL := hid he.1
  have LL := hid (fun w he => l4Limits_any sg eo xo en ec xn xc os i w hi hen hxn he)
  have HE : Hid (∀ w', Below w.heap.size w w' → ObsOf w' eo en os) := fun w' h => he.below h
  obtain ⟨b, off, rfl, hbl, hc⟩ := he.2 (by omega)
  have HC : Hid (∀ j, j < en → ObAt w b (off + j * 8) (os.getD j ob0)) := hid hc
  obtain ⟨x, ex⟩ : ∃ x, x = os.getD i ob0 := ⟨_, rfl⟩
  obtain ⟨h, hcs, hmx, hof⟩ := hc i hi
  rw [← ex] at hcs hof
  have EX := hid ex
  obtain ⟨k0, k1, k2, k3, k4, k5, k6, k7⟩ := hcs.below hbl (below1 w (.cells #[.int .i64 sg, .slice (some ⟨b, off, none⟩) en ec, .slice xo xn xc] 42))
  obtain ⟨ko, kn, kc, vo, vn, vc, uo, un, uc, so, sn, sc, tt, tn, tc⟩ := h
  obtain ⟨mk, mv, mu, ms, mt, mc⟩ := hmx
  dsimp only at k3 k4 k5 k6 k7 mk mv mu ms mt mc
  have HO : Hid (∀ w', Below w.heap.size w w' → ObOf w' ⟨ko, kn, kc, vo, vn, vc, uo, un, uc, so, sn, sc, tt, tn, tc⟩ x) := fun w' h => hof.below h
  have EU : Hid (x.subs.length = un) := hid hof.hu.1
  have EVV : Hid (x.vals.length = vn) := hid hof.hv.1
  obtain ⟨pv, hpv⟩ : ∃ pv, pv = x.prio := ⟨_, rfl⟩
  obtain ⟨qv, hqv⟩ : ∃ qv, qv = x.qcap := ⟨_, rfl⟩
  obtain ⟨dv, hdv⟩ : ∃ dv, dv = x.dcap := ⟨_, rfl⟩
  rw [← hpv] at k0
  rw [← hqv] at k1
  rw [← hdv] at k2
  obtain ⟨b1, h1⟩ : ∃ b, b = betB pv 1 1000 := ⟨_, rfl⟩
  obtain ⟨b2, h2⟩ : ∃ b, b = betB qv 1 1000 := ⟨_, rfl⟩
  obtain ⟨b3, h3⟩ : ∃ b, b = betB dv 0 1000 := ⟨_, rfl⟩
  obtain ⟨b4, h4⟩ : ∃ b, b = bankB x.kinds x.vals := ⟨_, rfl⟩
  have C1 := hid (l1Between_of pv 1 1000 b1 h1)
  have C2 := hid (l1Between_of qv 1 1000 b2 h2)
  have C3 := hid (l1Between_of dv 0 1000 b3 h3)
  have C4 := hid (fun w a b => specBankOK_any ko vo kn vn kc vc x.kinds x.vals w mk mv a b)
  rw [← h4] at C4
  have EOK : Hid (objOK x = (b1 && (b2 && (b3 && b4)))) := hid (by unfold objOK; rw [← hpv, ← hqv, ← hdv, h1, h2, h3, h4])
  have OE0 := hid (oe_start w #[.int .i64 sg, .slice (some ⟨b, off, none⟩) en ec, .slice xo xn xc] #[.int .i64 pv, .int .i64 qv, .int .i64 dv, .slice ko kn kc, .slice vo vn vc, .slice uo un uc, .slice so sn sc, .slice tt tn tc])
  have EP := hid hpv
  rw [← ex, EVV.out] at LL
  have CK := hid (fun w a c => specCheck_any so tt sn sc tn tc x.sts x.trs (en : Int) sg (xn : Int) (vn : Int) w ms mt a c)
  have ii : (i : Int) < (en : Int) := by omega
  clear he hc hcs hof ex hpv hqv hdv h1 h2 h3 h4 ms mt mk mv
  go_enter Tryz.func118, Tryz.ntmps118
  go_upto_region 2 with fail
  go_cut [7] (fun c wx => c = .bool (b1 && (b2 && (b3 && b4))) ∧ OE w wx #[.int .i64 sg, .slice (some ⟨b, off, none⟩) en ec, .slice xo xn xc] #[.int .i64 pv, .int .i64 qv, .int .i64 dv, .slice ko kn kc, .slice vo vn vc, .slice uo un uc, .slice so sn sc, .slice tt tn tc])
  case first =>
    have B0 := OE0
    clear k0 k1 k2 k3 k4 k5 k6 k7
    cases b1 <;> (try cases b2) <;> (try cases b3) <;> (try cases b4)
    all_goals
      go_wp2_with (first
        | (go_at_call_of 31 (Value.int .i64 pv); refine (C1.out _).mono ?_; rintro e wa ⟨rfl, hw⟩; obtain rfl := hw.symm)
        | (go_at_call_of 31 (Value.int .i64 qv); refine (C2.out _).mono ?_; rintro e wa ⟨rfl, hw⟩; obtain rfl := hw.symm)
        | (go_at_call_of 31 (Value.int .i64 dv); refine (C3.out _).mono ?_; rintro e wa ⟨rfl, hw⟩; obtain rfl := hw.symm)
        | (go_at_call 64; refine (C4.out _ (HO.out _ OE0.out.bel).hk (HO.out _ OE0.out.bel).hv).mono ?_; rintro e w1 ⟨rfl, hb1⟩; have B0 := hid (OE0.out.below hb1); clear hb1))
      go_meet
      exact ⟨rfl, B0.out⟩
  case rest =>
    obtain ⟨rfl, hoe⟩ := hcut
    obtain ⟨r0, hr0⟩ : ∃ r0, r0 = (b1 && (b2 && (b3 && b4))) := ⟨_, rfl⟩
    rw [← hr0] at EOK
    rw [← hr0]
    have E0 := hid hoe
    obtain ⟨y0, y1, y2⟩ := three_cells hoe.sy
    clear hoe hr0 C1 C2 C3 C4 OE0 k0 k1 k2 k3 k4 k5 k6 k7
    go_wp2_with fail
    go_loopg [7, 44] i (fun mm c j wr => ∃ (k : Nat) (r : Bool), k ≤ i ∧ mm = i - k ∧ j = .int .i64 k ∧ c = .bool r ∧ Hid (r = true ↔ (r0 = true ∧ ∀ j, j < k → samePr os i j = false)) ∧ OE w wr #[.int .i64 sg, .slice (some ⟨b, off, none⟩) en ec, .slice xo xn xc] #[.int .i64 pv, .int .i64 qv, .int .i64 dv, .slice ko kn kc, .slice vo vn vc, .slice uo un uc, .slice so sn sc, .slice tt tn tc])
    case atStart => exact ⟨0, r0, Nat.zero_le _, by omega, rfl, rfl, hid ⟨fun h => ⟨h, fun j h => absurd h (by omega)⟩, fun h => h.1⟩, E0.out⟩
    case round =>
      obtain ⟨k, r, hk, rfl, rfl, rfl, HP, hE⟩ := hrel
      have E := hid hE
      obtain ⟨y0, y1, y2⟩ := three_cells hE.sy
      obtain ⟨z0, z1, z2, z3, z4, z5, z6, z7⟩ := eight_cells hE.ob
      have hzl : w.heap.size + 1 < wr.heap.size := lt_of_block hE.ob
      have hzl0 : w.heap.size < wr.heap.size := by omega
      have hb := hE.bel
      clear hE
      by_cases hlt : k < i
      · obtain ⟨g, hcs, hmx, hof⟩ := HC.out k (by omega)
        obtain ⟨k0, k1, k2, k3, k4, k5, k6, k7⟩ := hcs.below hbl hb
        obtain ⟨pj, hpj⟩ : ∃ pj, pj = (os.getD k ob0).prio := ⟨_, rfl⟩
        obtain ⟨qj, hqj⟩ : ∃ qj, qj = (os.getD k ob0).qcap := ⟨_, rfl⟩
        obtain ⟨dj, hdj⟩ : ∃ dj, dj = (os.getD k ob0).dcap := ⟨_, rfl⟩
        rw [← hpj] at k0
        rw [← hqj] at k1
        rw [← hdj] at k2
        obtain ⟨ko2, kn2, kc2, vo2, vn2, vc2, uo2, un2, uc2, so2, sn2, sc2, tt2, tn2, tc2⟩ := g
        dsimp only at k3 k4 k5 k6 k7
        have kn' : (k : Int) < (i : Int) := by omega
        have SP : Hid (samePr os i k = decide (pj = pv)) := hid (by unfold samePr; rw [← EX.out, ← EP.out, ← hpj])
        clear hcs hmx hof hb hpj hqj hdj
        by_cases hp : pj = pv
        · have SPT : Hid (samePr os i k = true) := hid (by rw [SP.out]; simpa using hp)
          subst hp
          go_wp2_with fail
          go_roundg (i - (k + 1))
          case measure => omega
          case rel => exact ⟨k + 1, false, by omega, rfl, by go_num, rfl, hid ⟨fun h => (by cases h), fun h => (by have := h.2 k (by omega); rw [SPT.out] at this; cases this)⟩, E.out.alloc _⟩
        · have SPF : Hid (samePr os i k = false) := hid (by rw [SP.out]; simpa using hp)
          have hpb : (pj == pv) = false := by simpa using hp
          go_wp2_with fail
          go_roundg (i - (k + 1))
          case measure => omega
          case rel =>
            refine ⟨k + 1, r, by omega, rfl, by go_num, rfl, hid (HP.out.trans ⟨fun h => ⟨h.1, fun j hj => ?_⟩, fun h => ⟨h.1, fun j hj => h.2 j (by omega)⟩⟩), E.out.alloc _⟩
            by_cases e : j = k
            · subst e; exact SPF.out
            · exact h.2 j (by omega)
      · have e : k = i := by omega
        subst e
        clear hb
        cases r with
        | false =>
          have E2 : Hid (objFault sg os xn k = (2, 0)) := hid (obf_two (fun h => by
            have := HP.out.2 ⟨by rw [← EOK.out, EX.out]; exact h.1, fun j hj => by
              cases e : samePr os k j with
              | false => rfl
              | true => have := dup_yes hj e; rw [h.2] at this; cases this⟩
            cases this))
          go_wp2_with fail
          go_ret2
          rw [E2.out]
          exact ⟨rfl, E.out.bel⟩
        | true =>
          have OKK : Hid (objOK (os.getD k ob0) = true ∧ dupB os k = false) := hid ⟨by rw [← EX.out, EOK.out]; exact (HP.out.1 rfl).1, dup_no (HP.out.1 rfl).2⟩
          have EX2 := EX
          clear HP
          go_wp2_with fail
          go_loopg [59] un (fun mm i wr => ∃ q : Nat, q ≤ un ∧ mm = un - q ∧ i = .int .i64 q ∧ Hid (∀ j, j < q → badSub sg x.subs j = false) ∧ OE w wr #[.int .i64 sg, .slice (some ⟨b, off, none⟩) en ec, .slice xo xn xc] #[.int .i64 pv, .int .i64 qv, .int .i64 dv, .slice ko kn kc, .slice vo vn vc, .slice uo un uc, .slice so sn sc, .slice tt tn tc])
          case atStart => exact ⟨0, Nat.zero_le _, by omega, rfl, hid (fun j h => absurd h (by omega)), E.out⟩
          case round =>
            obtain ⟨q, hq, rfl, rfl, HP, hE⟩ := hrel
            have E := hid hE
            obtain ⟨y0, y1, y2⟩ := three_cells hE.sy
            obtain ⟨z0, z1, z2, z3, z4, z5, z6, z7⟩ := eight_cells hE.ob
            have hzl : w.heap.size + 1 < wr.heap.size := lt_of_block hE.ob
            have hzl0 : w.heap.size < wr.heap.size := by omega
            have hb := hE.bel
            clear hE
            by_cases hlt2 : q < un
            · obtain ⟨bu, offu, hue, hbul, hcu⟩ := (HO.out w (Below.refl _ _)).hu.2 (show 0 < un by omega)
              dsimp only at hue
              subst hue
              have HU : Hid (∀ j, j < un → w.cell? ⟨bu, offu + j, none⟩ = some (.int .i64 (x.subs.getD j 0))) := hid hcu
              obtain ⟨xv, hxv⟩ : ∃ xv, xv = x.subs.getD q 0 := ⟨_, rfl⟩
              have kq := (hb.cell (p := ⟨bu, offu + q, none⟩) hbul).trans (hcu q hlt2)
              rw [← hxv] at kq
              obtain ⟨bb, hbb⟩ : ∃ bb, bb = betB xv 0 (sg - 1) := ⟨_, rfl⟩
              have CB := hid (l1Between_of xv 0 (sg - 1) bb hbb)
              have EB : Hid (betB (x.subs.getD q 0) 0 (sg - 1) = bb) := hid (by rw [← hxv, hbb])
              have EV := hid hxv
              have qn : (q : Int) < (un : Int) := by omega
              have qc : (q : Int) ≤ (uc : Int) := by omega
              clear hcu hb hxv hbb
              cases bb with
              | false =>
                have E3 : Hid (objFault sg os xn k = (3, (q : Int))) := hid (obf_three OKK.out (by rw [← EX2.out, EU.out]; exact hlt2) (by rw [← EX2.out]; exact badSub_out EB.out) (by rw [← EX2.out]; exact HP.out))
                go_wp2_with (go_at_call 31; refine (CB.out _).mono ?_; rintro e wa ⟨rfl, hw⟩; obtain rfl := hw.symm)
                go_ret2
                rw [E3.out]
                exact ⟨rfl, E.out.bel⟩
              | true =>
                go_wp2_with (go_at_call 31; refine (CB.out _).mono ?_; rintro e wa ⟨rfl, hw⟩; obtain rfl := hw.symm)
                go_loopg [76] q (fun mm j wr => ∃ p : Nat, p ≤ q ∧ mm = q - p ∧ j = .int .i64 p ∧ Hid (∀ j, j < p → sameSub x.subs q j = false) ∧ OE w wr #[.int .i64 sg, .slice (some ⟨b, off, none⟩) en ec, .slice xo xn xc] #[.int .i64 pv, .int .i64 qv, .int .i64 dv, .slice ko kn kc, .slice vo vn vc, .slice (some ⟨bu, offu, none⟩) un uc, .slice so sn sc, .slice tt tn tc])
                case atStart => exact ⟨0, Nat.zero_le _, by omega, rfl, hid (fun j h => absurd h (by omega)), E.out⟩
                case round =>
                  obtain ⟨p, hp, rfl, rfl, HQ, hE⟩ := hrel
                  have F := hid hE
                  have hb := hE.bel
                  clear hE
                  by_cases hlt3 : p < q
                  · have kp := (hb.cell (p := ⟨bu, offu + p, none⟩) hbul).trans (HU.out p (by omega))
                    obtain ⟨zv, hzv⟩ : ∃ zv, zv = x.subs.getD p 0 := ⟨_, rfl⟩
                    rw [← hzv] at kp
                    have pn : (p : Int) < (q : Int) := by omega
                    have SS : Hid (sameSub x.subs q p = decide (zv = xv)) := hid (by unfold sameSub; rw [← EV.out, ← hzv])
                    clear hb hzv
                    by_cases hzx : zv = xv
                    · have E3 : Hid (objFault sg os xn k = (3, (q : Int))) := hid (obf_three OKK.out (by rw [← EX2.out, EU.out]; exact hlt2) (by rw [← EX2.out]; exact badSub_twice hlt3 (by rw [SS.out]; simpa using hzx)) (by rw [← EX2.out]; exact HP.out))
                      subst hzx
                      go_wp2_with fail
                      go_ret2
                      rw [E3.out]
                      exact ⟨rfl, F.out.bel⟩
                    · have hzb : (zv == xv) = false := by simpa using hzx
                      have SF : Hid (sameSub x.subs q p = false) := hid (by rw [SS.out]; simpa using hzx)
                      go_wp2_with fail
                      go_roundg (q - (p + 1))
                      case measure => omega
                      case rel =>
                        refine ⟨p + 1, by omega, rfl, by go_num, hid (fun j hj => ?_), F.out⟩
                        by_cases e : j = p
                        · subst e; exact SF.out
                        · exact HQ.out j (by omega)
                  · have e : p = q := by omega
                    subst e
                    clear hb
                    go_wp2_with fail
                    go_roundg (un - (p + 1))
                    case measure => omega
                    case rel =>
                      refine ⟨p + 1, by omega, rfl, by go_num, hid (fun j hj => ?_), F.out⟩
                      by_cases e : j = p
                      · subst e; exact badSub_no EB.out HQ.out
                      · exact HP.out j (by omega)
            · have e : q = un := by omega
              subst e
              have HP' : Hid (∀ j, j < (os.getD k ob0).subs.length → badSub sg (os.getD k ob0).subs j = false) := hid (by rw [← EX2.out, EU.out]; exact HP.out)
              clear hb HP
              obtain ⟨fc, hfc⟩ : ∃ fc, fc = (checkOf x.sts x.trs ⟨(en : Int), sg, (xn : Int), (vn : Int)⟩).1 := ⟨_, rfl⟩
              obtain ⟨fp, hfp⟩ : ∃ fp, fp = (checkOf x.sts x.trs ⟨(en : Int), sg, (xn : Int), (vn : Int)⟩).2 := ⟨_, rfl⟩
              have rng := checkOf_code x.sts x.trs ⟨(en : Int), sg, (xn : Int), (vn : Int)⟩
              have EF : Hid (objFault sg os xn k = if fc = 0 then (0, 0) else (10 + fc, fp)) := hid (by
                rw [obf_chart OKK.out HP'.out, ← EX2.out]
                have : limOf sg os xn k = ⟨(en : Int), sg, (xn : Int), (vn : Int)⟩ := by unfold limOf; rw [← EX2.out, HL.out, EVV.out]
                rw [this, ← hfc, ← hfp])
              rw [← hfc, ← hfp] at CK
              rw [← hfc] at rng
              obtain ⟨rg0, rg6⟩ := rng
              have D := hid (E.out.below ((Below.refl _ _).drew))
              clear hfc hfp
              by_cases h0 : fc = 0
              · subst h0
                go_wp2_with fail
                go_region_with (first
                  | (go_at_call 141; refine (LL.out _ (HE.out _ D.out.bel)).mono ?_; rintro e w1 ⟨rfl, hb1⟩; have V1 := hid (D.out.below hb1); obtain ⟨a0, a1, a2, a3, a4, a5, a6, a7⟩ := eight_cells V1.out.ob; clear hb1)
                  | (go_at_call 140; refine (CK.out _ (HO.out _ V1.out.bel).hs (HO.out _ V1.out.bel).ht).mono ?_; rintro e w2 ⟨rfl, hb2⟩; have V2 := hid (V1.out.below hb2); clear hb2))
                all_goals
                  go_wp2_with fail
                  go_ret2
                  rw [EF.out]
                  exact ⟨rfl, V2.out.bel⟩
              · have h0' : (fc != 0) = true := by simpa using h0
                have EF2 : Hid (objFault sg os xn k = (10 + fc, fp)) := hid (by rw [EF.out, if_neg h0])
                go_wp2_with fail
                go_region_with (first
                  | (go_at_call 141; refine (LL.out _ (HE.out _ D.out.bel)).mono ?_; rintro e w1 ⟨rfl, hb1⟩; have V1 := hid (D.out.below hb1); obtain ⟨a0, a1, a2, a3, a4, a5, a6, a7⟩ := eight_cells V1.out.ob; clear hb1)
                  | (go_at_call 140; refine (CK.out _ (HO.out _ V1.out.bel).hs (HO.out _ V1.out.bel).ht).mono ?_; rintro e w2 ⟨rfl, hb2⟩; have V2 := hid (V1.out.below hb2); clear hb2))
                all_goals
                  go_wp2_with fail
                  go_ret2
                  rw [EF2.out]
                  exact ⟨rfl, V2.out.bel⟩
end Go.Proofs.YthaklmdhkkfigaaGreat
