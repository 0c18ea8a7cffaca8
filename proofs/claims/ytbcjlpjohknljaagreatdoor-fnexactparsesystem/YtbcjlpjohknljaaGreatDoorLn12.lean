import Derived.Test.YtbcjlpjohknljaaGreatDoorLc
namespace Go.Proofs.YtbcjlpjohknljaaGreatDoor
open Go.RowKit Go.Sort
set_option linter.unusedVariables false
set_option linter.unusedSimpArgs false
attribute [local go_sem ↓] Go.wp_at_zero Go.wp_at_succ

set_option maxRecDepth 100000 in
set_option maxHeartbeats 6400000 in
/-- A line of a statement: exit. -/
theorem line_exi (sg : Int) (ov tv : Value) (pp : List ObG) (o : ObG) (ts : List (Int × Int)) (R : List Rw) (B b off n c : Nat) (fs : List (List UInt8)) (w : World) (h : LnC (SyG.mk sg ⟨ov, pp ++ [o]⟩ ⟨tv, ts⟩) R B b off n c fs w) (qq : List StG) (el : StG) (hss : o.st.xs = qq ++ [el]) (xk xa xb : Int) (its : List (Int × Int)) (hk : fs.getD 0 [] = kExi) (hq : stmW fs.tail = some ⟨xk, xa, xb, its⟩) : Calls Tryz.prog 10 #[(SyG.mk sg ⟨ov, pp ++ [o]⟩ ⟨tv, ts⟩).val, .slice (some ⟨b, off, none⟩) (n + 1) c, .bool true] w fun e w' => LnR (SyG.mk sg ⟨ov, pp ++ [o]⟩ ⟨tv, ts⟩) R B fs true w e w' := by
  obtain ⟨pO, qO, dO, ⟨kv, ks⟩, ⟨vv, vs⟩, ⟨uv, us⟩, ⟨sv, ss⟩, ⟨rv, rs⟩⟩ := o
  simp only at hss
  subst hss
  obtain ⟨par, ini, ⟨enV, enL⟩, ⟨exV, exL⟩⟩ := el
  obtain ⟨go, co, hov, hco, hcm, hgo, hgol⟩ := row_has (h.hF.own (ObsG.mk ov (pp ++ [⟨pO, qO, dO, ⟨kv, ks⟩, ⟨vv, vs⟩, ⟨uv, us⟩, ⟨sv, qq ++ [⟨par, ini, ⟨enV, enL⟩, ⟨exV, exL⟩⟩]⟩, ⟨rv, rs⟩⟩])).row (by simp [SyG.rows, ObsG.rows])) (by simp [ObsG.row])
  simp only [ObsG.row, List.length_append, List.length_cons, List.length_nil, Nat.zero_add] at hov
  subst hov
  obtain ⟨xo, xc, htv, _, _⟩ := pairs_read (h.hF.own (TmG.mk tv ts).row (by simp [SyG.rows]))
  obtain ⟨ka, kc, hkv, _, _, _⟩ := ints_read (h.hF.own (InG.mk kv ks).row (by simp [SyG.rows, ObsG.rows, ObG.rows]))
  obtain ⟨va, vc, hvv, _, _, _⟩ := ints_read (h.hF.own (InG.mk vv vs).row (by simp [SyG.rows, ObsG.rows, ObG.rows]))
  obtain ⟨ua, uc, huv, _, _, _⟩ := ints_read (h.hF.own (InG.mk uv us).row (by simp [SyG.rows, ObsG.rows, ObG.rows]))
  obtain ⟨gs, cs0, hsv, hcs, hcs2, hgs, hgsl⟩ := row_has (h.hF.own (StsG.mk sv (qq ++ [⟨par, ini, ⟨enV, enL⟩, ⟨exV, exL⟩⟩])).row (by simp [SyG.rows, ObsG.rows, ObG.rows, StsG.rows])) (by simp [StsG.row])
  simp only [StsG.row, List.length_append, List.length_cons, List.length_nil, Nat.zero_add] at hsv
  obtain ⟨ea, ec0, henV, _, _, _⟩ := row_read SmG.cells 4 (fun _ => rfl) (h.hF.own (SmsG.mk enV enL).row (by simp [SyG.rows, ObsG.rows, ObG.rows, StsG.rows, StG.rows, SmsG.rows]))
  obtain ⟨fa, fc0, hexV, _, _, _⟩ := row_read SmG.cells 4 (fun _ => rfl) (h.hF.own (SmsG.mk exV exL).row (by simp [SyG.rows, ObsG.rows, ObG.rows, StsG.rows, StG.rows, SmsG.rows]))
  simp only [SmsG.row] at henV hexV
  obtain ⟨ra0, rc0, hrv, _, _, _⟩ := row_read TrG.cells 5 (fun _ => rfl) (h.hF.own (TrsG.mk rv rs).row (by simp [SyG.rows, ObsG.rows, ObG.rows, TrsG.rows]))
  simp only [TmG.row, InG.row, TrsG.row] at htv hkv hvv huv hrv
  subst htv hkv hvv huv hsv hrv henV hexV
  have SO := h.hz.a _ (show ObG.dat (ObG.mk pO qO dO ⟨.slice ka ks.length kc, ks⟩ ⟨.slice va vs.length vc, vs⟩ ⟨.slice ua us.length uc, us⟩ ⟨(.slice (some ⟨gs, 0, none⟩) (qq.length + 1) cs0), qq ++ [⟨par, ini, ⟨.slice ea enL.length ec0, enL⟩, ⟨.slice fa exL.length fc0, exL⟩⟩]⟩ ⟨.slice ra0 rs.length rc0, rs⟩) ∈ (SyG.dat (SyG.mk sg ⟨.slice (some ⟨go, 0, none⟩) (pp.length + 1) co, pp ++ [⟨pO, qO, dO, ⟨.slice ka ks.length kc, ks⟩, ⟨.slice va vs.length vc, vs⟩, ⟨.slice ua us.length uc, us⟩, ⟨(.slice (some ⟨gs, 0, none⟩) (qq.length + 1) cs0), qq ++ [⟨par, ini, ⟨.slice ea enL.length ec0, enL⟩, ⟨.slice fa exL.length fc0, exL⟩⟩]⟩, ⟨.slice ra0 rs.length rc0, rs⟩⟩]⟩ ⟨.slice xo ts.length xc, ts⟩)).obs by simp [SyG.dat])
  have NS := hid SO
  have hpl : pp.length + 1 ≤ 1048577 := by have := h.hz.o; simp [SyG.dat] at this; omega
  have hp0 : ¬ ((pp.length : Int) + 1 = 0) := by omega
  have hp1 : ((pp.length : Int) + 1 == 0) = false := by simp; omega
  clear SO
  have LW : Hid (lineW (SyG.dat (SyG.mk sg ⟨.slice (some ⟨go, 0, none⟩) (pp.length + 1) co, pp ++ [⟨pO, qO, dO, ⟨.slice ka ks.length kc, ks⟩, ⟨.slice va vs.length vc, vs⟩, ⟨.slice ua us.length uc, us⟩, ⟨(.slice (some ⟨gs, 0, none⟩) (qq.length + 1) cs0), qq ++ [⟨par, ini, ⟨.slice ea enL.length ec0, enL⟩, ⟨.slice fa exL.length fc0, exL⟩⟩]⟩, ⟨.slice ra0 rs.length rc0, rs⟩⟩]⟩ ⟨.slice xo ts.length xc, ts⟩)) (fs.getD 0 []) fs.tail true = oneOb (SyG.dat (SyG.mk sg ⟨.slice (some ⟨go, 0, none⟩) (pp.length + 1) co, pp ++ [⟨pO, qO, dO, ⟨.slice ka ks.length kc, ks⟩, ⟨.slice va vs.length vc, vs⟩, ⟨.slice ua us.length uc, us⟩, ⟨(.slice (some ⟨gs, 0, none⟩) (qq.length + 1) cs0), qq ++ [⟨par, ini, ⟨.slice ea enL.length ec0, enL⟩, ⟨.slice fa exL.length fc0, exL⟩⟩]⟩, ⟨.slice ra0 rs.length rc0, rs⟩⟩]⟩ ⟨.slice xo ts.length xc, ts⟩)) (fun o => { o with sts := turnL o.sts (fun t => { t with exit := t.exit ++ [⟨xk, xa, xb, its⟩] }) })) := hid (by
    rw [hk, lineW_exi, hq]
    simp only [SyG.dat, List.map_append, List.map_cons, List.map_nil, lastOb_snoc]
    rw [if_neg (by simp [ObG.dat])])
  obtain ⟨i0, hi, hz0, hz1, hz2⟩ := info_parts infoSmL
  obtain ⟨c0, hbl, hT⟩ := h.hs.one
  have HT := hid hT
  have HC := hid h
  have hn := h.hn
  have hc := h.hc
  have TL : fs.tail.length = n := by rw [List.length_tail, h.hs.1]; omega
  obtain ⟨t, ht⟩ : ∃ t : ByteArray, t = ⟨(fs.getD 0 []).toArray⟩ := ⟨_, rfl⟩
  have c1 : w.cell? ⟨b, off, none⟩ = some (.string t) := by rw [ht]; exact c0
  have hbt : fs.getD 0 [] = bl t := ba_bl.1 ht.symm
  clear c0 ht
  obtain rfl : t = ⟨#[101, 120, 105, 116]⟩ := by rw [hk] at hbt; exact (ba_bl.2 hbt).symm
  clear hbt
  have FV := hid (h.boxes (.int .i64 sg) (.slice (some ⟨go, 0, none⟩) (pp.length + 1) co) (.slice xo ts.length xc))
  have BV := hid (below2 w (sysO (.int .i64 sg) (.slice (some ⟨go, 0, none⟩) (pp.length + 1) co) (.slice xo ts.length xc)) (sysO (.int .i64 0) nilV nilV))
  have SV : Hid (((w.alloc (sysO (.int .i64 sg) (.slice (some ⟨go, 0, none⟩) (pp.length + 1) co) (.slice xo ts.length xc))).alloc (sysO (.int .i64 0) nilV nilV)).heap.size = w.heap.size + 2) := hid (by simp)
  clear h hT
  simp only [SyG.val]
  go_enter Tryz.func10, Tryz.ntmps10
  go_upto_region 1 with fail
  obtain ⟨V, hV⟩ : ∃ V, V = (w.alloc (sysO (.int .i64 sg) (.slice (some ⟨go, 0, none⟩) (pp.length + 1) co) (.slice xo ts.length xc))).alloc (sysO (.int .i64 0) nilV nilV) := ⟨_, rfl⟩
  rw [← hV] at FV BV SV ⊢
  obtain ⟨H3, e3⟩ : ∃ H, H = w.heap.size := ⟨_, rfl⟩
  have E3 := hid e3
  rw [← e3] at FV SV ⊢
  have k0 := (BV.out.cell (p := ⟨b, off, none⟩) hbl).trans c1
  clear c1 e3 hV
  go_upto_region 2 with fail
  go_cut [9] from 29 to 30 (fun r wx => ∃ ao cp, r = .slice ao n cp ∧ n ≤ cp ∧ StrsOf w ao n fs.tail ∧ wx = V)
  case first =>
    by_cases hc1 : c = 1
    · have hn0 : n = 0 := by omega
      subst hn0
      subst hc1
      go_wp2_with fail
      go_meet
      exact ⟨_, _, rfl, Nat.le_refl _, HT.out _ (by simp), rfl⟩
    · go_wp2_with fail
      go_meet
      exact ⟨_, _, rfl, by omega, HT.out _ (.inl rfl), rfl⟩
  case rest =>
    obtain ⟨ra, rc, rfl, hrc, hrs, hV⟩ := hcut
    subst hV
    have RS := hid hrs
    have HF : Hid (∀ f ∈ fs.tail, f.length ≤ 1048576) := hid (fun f hf => HC.out.hf f (List.mem_of_mem_tail hf))
    obtain ⟨⟨a0, a1, a2⟩, g0, g1, g2, al⟩ := three_cc (FV.out.mem_box (t := 25) (H := H3) (xs := [.int .i64 sg, .slice (some ⟨go, 0, none⟩) (pp.length + 1) co, .slice xo ts.length xc]) (by simp))
    obtain ⟨⟨b0, b1, b2⟩, q0, q1, q2, ql⟩ := three_cc (FV.out.mem_box (t := 25) (H := H3 + 1) (xs := [.int .i64 0, nilV, nilV]) (by simp))
    clear hrs k0
    have NU : Hid (∀ (k : Nat) W, k ≤ 100 → Below w.heap.size w W → Calls Tryz.prog 19 #[.slice ra n rc, .int .i64 (k : Int)] W fun e w' => (∃ v, e = .returned (.tuple #[v, .bool (numsN fs.tail k).isSome]) ∧ (∃ a l c, v = .slice a l c) ∧ ∀ zs, numsN fs.tail k = some zs → IntRow w' W.heap.size v zs) ∧ Below W.heap.size W w') := hid (fun k W hk hW => l5Numbers_any ra n rc k fs.tail W (by omega) hk HF.out (RS.out.below hW))
    have BB : Hid (Below B w wc) := hid (BV.out.mono HC.out.hB)
    have B6 : Hid (B ≤ H3 + 1) := hid (by have := HC.out.hB; have := E3.out; omega)
    have H3B : Hid (B ≤ H3) := hid (by have := HC.out.hB; have := E3.out; omega)
    have BW : Hid (B ≤ wc.heap.size) := hid (Nat.le_trans HC.out.hB BV.out.size)
    have HGS : Hid (B ≤ gs) := hid hgs
    have LA : Hid (∀ W, Calls Tryz.prog 20 #[.string ⟨#[101, 120, 105, 116]⟩] W fun e w' => e = .returned (.int .i64 0) ∧ w' = W) := hid (fun W => by
      have h1 := leading_any ⟨#[101, 120, 105, 116]⟩ W
      rw [show lead (bl ⟨#[101, 120, 105, 116]⟩) = 0 from rfl] at h1
      exact h1)
    have NK : Hid (∀ W, Below w.heap.size w W → Calls Tryz.prog 19 #[.slice ra n rc, .int .i64 0] W fun e w' => (∃ v, e = .returned (.tuple #[v, .bool true]) ∧ (∃ a l c, v = .slice a l c)) ∧ Below W.heap.size W w') := hid (fun W hW => by
      have h1 := NU.out 0 W (by omega) hW
      rw [show numsN fs.tail 0 = some [] by simp [numsN, nums]] at h1
      exact h1.mono (by rintro e w' ⟨⟨v, h1, h2, _⟩, h3⟩; exact ⟨⟨v, h1, h2⟩, h3⟩))
    have ST : Hid (∀ W, Below w.heap.size w W → Calls Tryz.prog 25 #[.slice ra n rc] W fun e w' => (∃ co cn cc, e = .returned (.tuple #[.agg #[.int .i64 xk, .int .i64 xa, .int .i64 xb, .slice co cn cc], .bool true]) ∧ ItRow w' W.heap.size (.slice co cn cc) its) ∧ Below W.heap.size W w') := hid (fun W hW =>
      (l5Stm_any ra n rc fs.tail W (by omega) hrc HF.out (RS.out.below hW)).mono (by
        rintro e w' ⟨⟨k', a', b', co, cn, cc, h1, h2⟩, h3⟩
        obtain ⟨⟨e1, e2, e3⟩, h4⟩ := h2 _ hq
        dsimp only at e1 e2 e3 h4
        subst e1 e2 e3
        rw [hq] at h1
        exact ⟨⟨co, cn, cc, h1, h4⟩, h3⟩))
    clear NU TL hq hk
    have hql : (0 : Int) < (qq.length : Int) + 1 := by omega
    have hqb : qq.length + 1 ≤ 1048577 := by have := NS.out.s; simp [ObG.dat] at this; omega
    have hq0 : (0 : Int) ≤ (qq.length : Int) := by omega
    have hq1 : (qq.length : Int) < (qq.length : Int) + 1 := by omega
    have hqw : IntKind.i64.wrap ((qq.length : Int) + 1 - 1) = (qq.length : Int) := by rw [IntWalk.i64_in _ (by omega)]; omega
    have hqw2 : IntKind.i64.wrap (qq.length : Int) = (qq.length : Int) := IntWalk.i64_in _ (by omega)
    have F2x : Hid (∀ Y, Below wc.heap.size wc Y → (ObsG.mk (.slice (some ⟨go, 0, none⟩) (pp.length + 1) co) (pp ++ [(ObG.mk pO qO dO ⟨.slice ka ks.length kc, ks⟩ ⟨.slice va vs.length vc, vs⟩ ⟨.slice ua us.length uc, us⟩ ⟨(.slice (some ⟨gs, 0, none⟩) (qq.length + 1) cs0), qq ++ [⟨par, ini, ⟨.slice ea enL.length ec0, enL⟩, ⟨.slice fa exL.length fc0, exL⟩⟩]⟩ ⟨.slice ra0 rs.length rc0, rs⟩)])).row.own Y B) := hid (fun Y hY => (FV.out.below hY).own _ (by simp [SyG.rows, ObsG.rows]))
    go_upto_region 45 with (first
        | (go_at_call 20; refine (LA.out _).mono ?_; rintro e w1 ⟨rfl, hw1⟩; obtain rfl := hw1.symm)
        | (go_at_call 19; refine (NK.out _ BV.out).mono ?_; rintro e w2 ⟨⟨v, rfl, ⟨a7, l7, p7, rfl⟩⟩, hb⟩; have HB := hid hb; have BX := hid (BV.out.trans (hb.mono BV.out.size)); have oc6 : w2.cell? ⟨go, pp.length * 8 + 6, none⟩ = some (.slice (some ⟨gs, 0, none⟩) (qq.length + 1) cs0) := ob_cell (F2x.out w2 hb) 6 (by omega); obtain ⟨_, ogl⟩ := ob_froz (F2x.out w2 hb) 0; have F2 := hid (FV.out.below hb); obtain ⟨⟨m0, m1, m2⟩, m3, m4, m5, ml⟩ := three_cc (F2.out.mem_box (t := 25) (H := H3) (xs := [.int .i64 sg, .slice (some ⟨go, 0, none⟩) (pp.length + 1) co, .slice xo ts.length xc]) (by simp)); clear hb)
        | (go_at_call 25; refine (ST.out _ BX.out).mono ?_; rintro e w4 ⟨⟨k9, m9, c9, rfl, h9⟩, hb⟩; have H9 := hid h9; have HB4 := hid hb; clear h9 hb))
    have F4 := hid ((F2.out.fresh (Nat.le_trans BW.out HB.out.size) HB4.out (r := (CdG.mk (.slice k9 m9 c9) its).row) H9.out).box (Nat.le_trans BW.out (Nat.le_trans HB.out.size HB4.out.size)) 75 [.int .i64 xk, .int .i64 xa, .int .i64 xb, .slice k9 m9 c9])
    have B4 : Hid (Below B w (w4.alloc (.cells #[.int .i64 xk, .int .i64 xa, .int .i64 xb, .slice k9 m9 c9] 75))) := hid (((BB.out.trans (HB.out.mono BW.out)).trans (HB4.out.mono (Nat.le_trans BW.out HB.out.size))).trans ((below1 _ _).mono (Nat.le_trans BW.out (Nat.le_trans HB.out.size HB4.out.size))))
    obtain ⟨V4, hV4⟩ : ∃ V, V = w4.alloc (.cells #[.int .i64 xk, .int .i64 xa, .int .i64 xb, .slice k9 m9 c9] 75) := ⟨_, rfl⟩
    obtain ⟨H21, hH21⟩ : ∃ H, H = w4.heap.size := ⟨_, rfl⟩
    have F4 : Hid (Flat V4 B (boxR 75 H21 [.int .i64 xk, .int .i64 xa, .int .i64 xb, .slice k9 m9 c9] :: (CdG.mk (.slice k9 m9 c9) its).row :: sysB (H3 + 1) (.int .i64 0) nilV nilV :: sysB H3 (.int .i64 sg) (.slice (some ⟨go, 0, none⟩) (pp.length + 1) co) (.slice xo ts.length xc) :: ((SyG.mk sg ⟨.slice (some ⟨go, 0, none⟩) (pp.length + 1) co, pp ++ [⟨pO, qO, dO, ⟨.slice ka ks.length kc, ks⟩, ⟨.slice va vs.length vc, vs⟩, ⟨.slice ua us.length uc, us⟩, ⟨(.slice (some ⟨gs, 0, none⟩) (qq.length + 1) cs0), qq ++ [⟨par, ini, ⟨.slice ea enL.length ec0, enL⟩, ⟨.slice fa exL.length fc0, exL⟩⟩]⟩, ⟨.slice ra0 rs.length rc0, rs⟩⟩]⟩ ⟨.slice xo ts.length xc, ts⟩).rows ++ R))) := hid (by rw [hV4, hH21]; exact F4.out)
    rw [← hV4] at B4
    have Z4 : Hid (B ≤ V4.heap.size) := hid (Nat.le_trans HC.out.hB B4.out.size)
    rw [← hV4, ← hH21]
    clear hV4 hH21 FV BV BB BW NK HB HB4 H9 F2 F2x oc6 ogl BX m0 m1 m2 m3 m4 m5 ml a0 a1 a2 g0 g1 g2 al b0 b1 b2 q0 q1 q2 ql ST LA RS HF
    have OW : Hid (∀ Y, Flat Y B (boxR 75 H21 [.int .i64 xk, .int .i64 xa, .int .i64 xb, .slice k9 m9 c9] :: (CdG.mk (.slice k9 m9 c9) its).row :: sysB (H3 + 1) (.int .i64 0) nilV nilV :: sysB H3 (.int .i64 sg) (.slice (some ⟨go, 0, none⟩) (pp.length + 1) co) (.slice xo ts.length xc) :: ((SyG.mk sg ⟨.slice (some ⟨go, 0, none⟩) (pp.length + 1) co, pp ++ [⟨pO, qO, dO, ⟨.slice ka ks.length kc, ks⟩, ⟨.slice va vs.length vc, vs⟩, ⟨.slice ua us.length uc, us⟩, ⟨(.slice (some ⟨gs, 0, none⟩) (qq.length + 1) cs0), qq ++ [⟨par, ini, ⟨.slice ea enL.length ec0, enL⟩, ⟨.slice fa exL.length fc0, exL⟩⟩]⟩, ⟨.slice ra0 rs.length rc0, rs⟩⟩]⟩ ⟨.slice xo ts.length xc, ts⟩).rows ++ R)) → (ObsG.mk (.slice (some ⟨go, 0, none⟩) (pp.length + 1) co) (pp ++ [(ObG.mk pO qO dO ⟨.slice ka ks.length kc, ks⟩ ⟨.slice va vs.length vc, vs⟩ ⟨.slice ua us.length uc, us⟩ ⟨(.slice (some ⟨gs, 0, none⟩) (qq.length + 1) cs0), qq ++ [⟨par, ini, ⟨.slice ea enL.length ec0, enL⟩, ⟨.slice fa exL.length fc0, exL⟩⟩]⟩ ⟨.slice ra0 rs.length rc0, rs⟩)])).row.own Y B) := hid (fun Y hY => hY.own _ (by simp [SyG.rows, ObsG.rows]))
    have oc6 : V4.cell? ⟨go, pp.length * 8 + 6, none⟩ = some (.slice (some ⟨gs, 0, none⟩) (qq.length + 1) cs0) := ob_cell (OW.out V4 F4.out) 6 (by omega)
    obtain ⟨_, ogl⟩ := ob_froz (OW.out V4 F4.out) 0
    go_upto_region 52 with fail
    go_region_held3 (fun X => X.cell? ⟨go, pp.length * 8 + 6, none⟩ = some (.slice (some ⟨gs, 0, none⟩) (qq.length + 1) cs0)) (go_keep) (fail)
    go_upto_region 53 with fail
    obtain ⟨W4, hW4⟩ : ∃ W, W = V4.drew := ⟨_, rfl⟩
    have F5' : Hid (Flat W4 B (boxR 75 H21 [.int .i64 xk, .int .i64 xa, .int .i64 xb, .slice k9 m9 c9] :: (CdG.mk (.slice k9 m9 c9) its).row :: sysB (H3 + 1) (.int .i64 0) nilV nilV :: sysB H3 (.int .i64 sg) (.slice (some ⟨go, 0, none⟩) (pp.length + 1) co) (.slice xo ts.length xc) :: ((SyG.mk sg ⟨.slice (some ⟨go, 0, none⟩) (pp.length + 1) co, pp ++ [⟨pO, qO, dO, ⟨.slice ka ks.length kc, ks⟩, ⟨.slice va vs.length vc, vs⟩, ⟨.slice ua us.length uc, us⟩, ⟨(.slice (some ⟨gs, 0, none⟩) (qq.length + 1) cs0), qq ++ [⟨par, ini, ⟨.slice ea enL.length ec0, enL⟩, ⟨.slice fa exL.length fc0, exL⟩⟩]⟩, ⟨.slice ra0 rs.length rc0, rs⟩⟩]⟩ ⟨.slice xo ts.length xc, ts⟩).rows ++ R))) := hid (by rw [hW4]; exact F4.out.drew)
    have B2 : Hid (Below B w W4) := hid (by rw [hW4]; exact B4.out.drew)
    have Z2 : Hid (B ≤ W4.heap.size) := hid (by rw [hW4]; exact Z4.out)
    rw [← hW4]
    clear hW4 oc6 ogl F4 B4 Z4 OW
    have LU : exL.length ≤ 1048576 := by have := NS.out.e _ (show StG.dat ⟨par, ini, ⟨.slice ea enL.length ec0, enL⟩, ⟨.slice fa exL.length fc0, exL⟩⟩ ∈ _ by simp [ObG.dat]); simp [StG.dat, SmsG.dat] at this; omega
    have FW : Hid (Flat W4 B ((SmsG.mk (.slice fa exL.length fc0) exL).row :: (StsG.mk (.slice (some ⟨gs, 0, none⟩) (qq.length + 1) cs0) (qq ++ [⟨par, ini, ⟨.slice ea enL.length ec0, enL⟩, ⟨.slice fa exL.length fc0, exL⟩⟩])).row :: (sysB (H3 + 1) (.int .i64 0) nilV nilV :: sysB H3 (.int .i64 sg) (.slice (some ⟨go, 0, none⟩) (pp.length + 1) co) (.slice xo ts.length xc) :: boxR 75 H21 [.int .i64 xk, .int .i64 xa, .int .i64 xb, .slice k9 m9 c9] :: (CdG.mk (.slice k9 m9 c9) its).row :: (ObsG.mk (.slice (some ⟨go, 0, none⟩) (pp.length + 1) co) (pp ++ [(ObG.mk pO qO dO ⟨.slice ka ks.length kc, ks⟩ ⟨.slice va vs.length vc, vs⟩ ⟨.slice ua us.length uc, us⟩ ⟨(.slice (some ⟨gs, 0, none⟩) (qq.length + 1) cs0), qq ++ [⟨par, ini, ⟨.slice ea enL.length ec0, enL⟩, ⟨.slice fa exL.length fc0, exL⟩⟩]⟩ ⟨.slice ra0 rs.length rc0, rs⟩)])).row :: (InG.mk (.slice ka ks.length kc) ks).row :: (InG.mk (.slice va vs.length vc) vs).row :: (InG.mk (.slice ua us.length uc) us).row :: (exL.flatMap SmG.rows ++ ((SmsG.mk (.slice ea enL.length ec0) enL).rows ++ (qq.flatMap StG.rows ++ ((TrsG.mk (.slice ra0 rs.length rc0) rs).rows ++ (pp.flatMap ObG.rows ++ (TmG.mk (.slice xo ts.length xc) ts).row :: R)))))))) := hid (F5'.out.perm (by
        refine perm_count fun f g hf => ?_
        simp only [SyG.rows, ObsG.rows, ObsG.row, ob1, ObG.rows, InG.row, StsG.rows, TrsG.rows, StsG.row, TrsG.row, TmG.row, StG.rows, TrG.rows, SmsG.rows, SmsG.row, SmG.rows, CdG.row, itC_append, itC, List.map_append, List.map_cons, List.flatMap_append, List.flatMap_cons, List.flatMap_nil, List.append_nil, List.length_append, List.length_cons, List.length_nil, List.map_nil, List.cons_append, List.nil_append, hf.c, hf.a, hf.z, Nat.zero_add]
        omega))
    have CS : Hid (∀ X, Flat X B ((StsG.mk (.slice (some ⟨gs, 0, none⟩) (qq.length + 1) cs0) (qq ++ [⟨par, ini, ⟨.slice ea enL.length ec0, enL⟩, ⟨.slice fa exL.length fc0, exL⟩⟩])).row :: (sysB (H3 + 1) (.int .i64 0) nilV nilV :: sysB H3 (.int .i64 sg) (.slice (some ⟨go, 0, none⟩) (pp.length + 1) co) (.slice xo ts.length xc) :: boxR 75 H21 [.int .i64 xk, .int .i64 xa, .int .i64 xb, .slice k9 m9 c9] :: (CdG.mk (.slice k9 m9 c9) its).row :: (ObsG.mk (.slice (some ⟨go, 0, none⟩) (pp.length + 1) co) (pp ++ [(ObG.mk pO qO dO ⟨.slice ka ks.length kc, ks⟩ ⟨.slice va vs.length vc, vs⟩ ⟨.slice ua us.length uc, us⟩ ⟨(.slice (some ⟨gs, 0, none⟩) (qq.length + 1) cs0), qq ++ [⟨par, ini, ⟨.slice ea enL.length ec0, enL⟩, ⟨.slice fa exL.length fc0, exL⟩⟩]⟩ ⟨.slice ra0 rs.length rc0, rs⟩)])).row :: (InG.mk (.slice ka ks.length kc) ks).row :: (InG.mk (.slice va vs.length vc) vs).row :: (InG.mk (.slice ua us.length uc) us).row :: (exL.flatMap SmG.rows ++ ((SmsG.mk (.slice ea enL.length ec0) enL).rows ++ (qq.flatMap StG.rows ++ ((TrsG.mk (.slice ra0 rs.length rc0) rs).rows ++ (pp.flatMap ObG.rows ++ (TmG.mk (.slice xo ts.length xc) ts).row :: R))))))) → X.cell? ⟨gs, qq.length * 4 + 3, none⟩ = some (.slice fa exL.length fc0) ∧ X.cell? ⟨H21, 0, none⟩ = some (.int .i64 xk) ∧ X.cell? ⟨H21, 1, none⟩ = some (.int .i64 xa) ∧ X.cell? ⟨H21, 2, none⟩ = some (.int .i64 xb) ∧ X.cell? ⟨H21, 3, none⟩ = some (.slice k9 m9 c9)) := hid (fun X hX => by
      obtain ⟨z0, z1, z2, z3⟩ := four_cellsS (hX.mem_box (t := 75) (H := H21) (xs := [.int .i64 xk, .int .i64 xa, .int .i64 xb, .slice k9 m9 c9]) (by simp))
      exact ⟨st_cell hX.head 3 (by omega), z0, z1, z2, z3⟩)
    clear F5'
    obtain ⟨U, hU⟩ : ∃ U, U = (W4.alloc (.cells #[.int .i64 xk, .int .i64 xa, .int .i64 xb, .slice k9 m9 c9] 75)).drew := ⟨_, rfl⟩
    have BU : Hid (Below W4.heap.size W4 U) := hid (by rw [hU]; exact (below1 _ _).drew)
    have FU := hid (FW.out.below BU.out)
    have KU := hid (CS.out U FU.out.tail)
    have HSd := hid (CS.out W4.drew FW.out.tail.drew)
    have NB : U.heap[W4.heap.size]? = some (.cells #[.int .i64 xk, .int .i64 xa, .int .i64 xb, .slice k9 m9 c9] 75 (0, 0)) := by rw [hU]; exact heap_alloc_new W4 _
    have NWU := hid (World.news_of_block NB)
    have SU : Hid (U.heap.size = W4.heap.size + 1) := hid (by rw [hU]; simp)
    clear NB
    have hbU : Hid (B ≤ U.heap.size) := hid (by have := SU.out; have := Z2.out; omega)
    refine wp_region_noPanic ?_
    refine wp_region_till (st := 10) (S := fun u => u.cell? ⟨gs, qq.length * 4 + 3, none⟩ = some (.slice fa exL.length fc0) ∧ u.cell? ⟨H21, 0, none⟩ = some (.int .i64 xk) ∧ u.cell? ⟨H21, 1, none⟩ = some (.int .i64 xa) ∧ u.cell? ⟨H21, 2, none⟩ = some (.int .i64 xb) ∧ u.cell? ⟨H21, 3, none⟩ = some (.slice k9 m9 c9)) (by kernel_rfl) ?_
    refine wpTill_take (i := 0) (d := some 312) (v := ?_) rfl rfl (by kernel_rfl) (by kernel_rfl) (by kernel_rfl) (by kernel_rfl) (by kernel_rfl) (fun _ _ _ h => h) (Or.inl ⟨by rfl, ?_⟩) HSd.out ?_
    case refine_2 => (intro u hu; obtain ⟨s0, s1, s2, s3, s4⟩ := hu; go_simp; first | done | with_reducible rfl)
    simp only [Act.put, List.setIfInBounds_toArray, List.set_cons_zero, List.set_cons_succ]
    refine wpTill_take (i := 1) (d := some 313) (v := ?_) rfl rfl (by kernel_rfl) (by kernel_rfl) (by kernel_rfl) (by kernel_rfl) (by kernel_rfl) (fun _ _ _ h => h) (Or.inl ⟨by rfl, ?_⟩) HSd.out ?_
    case refine_2 => (intro u hu; obtain ⟨s0, s1, s2, s3, s4⟩ := hu; go_simp; first | done | with_reducible rfl)
    simp only [Act.put, List.setIfInBounds_toArray, List.set_cons_zero, List.set_cons_succ]
    refine wpTill_take (i := 2) (d := some 314) (v := ?_) rfl rfl (by kernel_rfl) (by kernel_rfl) (by kernel_rfl) (by kernel_rfl) (by kernel_rfl) (fun _ _ _ h => h) (Or.inl ⟨by rfl, ?_⟩) HSd.out ?_
    case refine_2 => (intro u hu; obtain ⟨s0, s1, s2, s3, s4⟩ := hu; go_simp; first | done | with_reducible rfl)
    simp only [Act.put, List.setIfInBounds_toArray, List.set_cons_zero, List.set_cons_succ]
    refine wpTill_take (i := 3) (d := some 315) (v := ?_) rfl rfl (by kernel_rfl) (by kernel_rfl) (by kernel_rfl) (by kernel_rfl) (by kernel_rfl) (fun _ _ _ h => h) (Or.inl ⟨by rfl, ?_⟩) HSd.out ?_
    case refine_2 => (intro u hu; obtain ⟨s0, s1, s2, s3, s4⟩ := hu; go_simp; first | done | with_reducible rfl)
    simp only [Act.put, List.setIfInBounds_toArray, List.set_cons_zero, List.set_cons_succ]
    refine wpTill_take (i := 4) (d := some 316) (v := ?_) rfl rfl (by kernel_rfl) (by kernel_rfl) (by kernel_rfl) (by kernel_rfl) (by kernel_rfl) (fun _ _ _ h => h) (Or.inl ⟨by rfl, ?_⟩) HSd.out ?_
    case refine_2 => (intro u hu; obtain ⟨s0, s1, s2, s3, s4⟩ := hu; go_simp; first | done | with_reducible rfl)
    simp only [Act.put, List.setIfInBounds_toArray, List.set_cons_zero, List.set_cons_succ]
    refine wpTill_take (i := 5) (d := some 317) (v := ?_) rfl rfl (by kernel_rfl) (by kernel_rfl) (by kernel_rfl) (by kernel_rfl) (by kernel_rfl) (fun _ _ _ h => h) (Or.inl ⟨by rfl, ?_⟩) HSd.out ?_
    case refine_2 => (intro u hu; obtain ⟨s0, s1, s2, s3, s4⟩ := hu; go_simp; first | done | with_reducible rfl)
    simp only [Act.put, List.setIfInBounds_toArray, List.set_cons_zero, List.set_cons_succ]
    refine wpTill_step (i := 6) (by kernel_rfl) rfl (fun K hK => ?_)
    go_simp
    rw [← hU]
    refine hK _ _ KU.out ?_
    clear hU hK K
    refine wpTill_step (i := 7) (by kernel_rfl) rfl (fun K hK => ?_)
    refine step_append_lies _ (by rfl) _ _ _ (by rfl) B 75 i0 _ 4 48 Tryz.underlying66 hi hz0 hz1 hz2 rfl (by omega) (.slice fa exL.length fc0) exL.length (exL.flatMap SmG.cells) (by simp [Act.eval]) FU.out.head ⟨W4.heap.size, 0, none⟩ 1 1 [.int .i64 xk, .int .i64 xa, .int .i64 xb, .slice k9 m9 c9] (by simp [Act.eval]) (by simp) NWU.out (by intro u hu; simp at hu; rcases hu with rfl | rfl | rfl | rfl <;> rfl) (by omega) (by unfold maxLen; omega) (by omega) (by have := SU.out; have := Z2.out; omega) U.heap.size rfl ?_
    intro gg cap5 w5 hown hgrow hat hlt5
    have F5 := hid (FU.out.app hgrow hown hat)
    have K5 := hid (CS.out w5 F5.out.tail)
    have G5 : Hid (Below B U w5) := hid ((Below.refl B U).grown hgrow hbU.out (fun k hk => (FU.out.head.lt k hk).1))
    clear hown hgrow hat
    refine hK _ _ K5.out ?_
    clear hK K
    refine wpTill_step (i := 8) (by kernel_rfl) rfl (fun K hK => ?_)
    go_simp
    refine hK _ _ K5.out ?_
    clear hK K
    refine wpTill_step (i := 9) (by kernel_rfl) rfl (fun K hK => ?_)
    go_simp
    refine hK _ _ K5.out ?_
    clear hK K
    have c5 : w5.cell? ⟨gs, qq.length * 4 + 3, none⟩ = some (.slice fa exL.length fc0) := st_cell F5.out.tail.head 3 (by omega)
    obtain ⟨fz5, fl5⟩ := st_froz F5.out.tail.head (qq.length * 4 + 3)
    refine wpTill_last (by kernel_rfl) rfl (by kernel_rfl) (fun K hK => ?_)
    go_simp
    refine hK _ _ ?_
    clear hK K
    refine wpTill_done (by kernel_rfl) ?_ _
    refine NoPanic.normal ?_
    have F6 : Hid (Flat (w5.setCell ⟨gs, qq.length * 4 + 3, none⟩ (.slice (some ⟨gg, 0, none⟩) (exL.length + 1) cap5)) B ((StsG.mk (.slice (some ⟨gs, 0, none⟩) (qq.length + 1) cs0) (qq ++ [⟨par, ini, ⟨.slice ea enL.length ec0, enL⟩, ⟨(.slice (some ⟨gg, 0, none⟩) (exL.length + 1) cap5), exL ++ [⟨xk, xa, xb, ⟨.slice k9 m9 c9, its⟩⟩]⟩⟩])).row :: (⟨75, 4, (.slice (some ⟨gg, 0, none⟩) (exL.length + 1) cap5), exL.length + 1, exL.flatMap SmG.cells ++ (SmG.mk xk xa xb ⟨.slice k9 m9 c9, its⟩).cells⟩ : Rw) :: (sysB (H3 + 1) (.int .i64 0) nilV nilV :: sysB H3 (.int .i64 sg) (.slice (some ⟨go, 0, none⟩) (pp.length + 1) co) (.slice xo ts.length xc) :: boxR 75 H21 [.int .i64 xk, .int .i64 xa, .int .i64 xb, .slice k9 m9 c9] :: (CdG.mk (.slice k9 m9 c9) its).row :: (ObsG.mk (.slice (some ⟨go, 0, none⟩) (pp.length + 1) co) (pp ++ [(ObG.mk pO qO dO ⟨.slice ka ks.length kc, ks⟩ ⟨.slice va vs.length vc, vs⟩ ⟨.slice ua us.length uc, us⟩ ⟨(.slice (some ⟨gs, 0, none⟩) (qq.length + 1) cs0), qq ++ [⟨par, ini, ⟨.slice ea enL.length ec0, enL⟩, ⟨.slice fa exL.length fc0, exL⟩⟩]⟩ ⟨.slice ra0 rs.length rc0, rs⟩)])).row :: (InG.mk (.slice ka ks.length kc) ks).row :: (InG.mk (.slice va vs.length vc) vs).row :: (InG.mk (.slice ua us.length uc) us).row :: (exL.flatMap SmG.rows ++ ((SmsG.mk (.slice ea enL.length ec0) enL).rows ++ (qq.flatMap StG.rows ++ ((TrsG.mk (.slice ra0 rs.length rc0) rs).rows ++ (pp.flatMap ObG.rows ++ (TmG.mk (.slice xo ts.length xc) ts).row :: R)))))))) := hid (st_set (o' := ⟨par, ini, ⟨.slice ea enL.length ec0, enL⟩, ⟨(.slice (some ⟨gg, 0, none⟩) (exL.length + 1) cap5), exL ++ [⟨xk, xa, xb, ⟨.slice k9 m9 c9, its⟩⟩]⟩⟩) F5.out.swap 3 (.slice (some ⟨gg, 0, none⟩) (exL.length + 1) cap5) (by omega) rfl)
    have ER : (ObsG.mk (.slice (some ⟨go, 0, none⟩) (pp.length + 1) co) (pp ++ [(ObG.mk pO qO dO ⟨.slice ka ks.length kc, ks⟩ ⟨.slice va vs.length vc, vs⟩ ⟨.slice ua us.length uc, us⟩ ⟨(.slice (some ⟨gs, 0, none⟩) (qq.length + 1) cs0), qq ++ [⟨par, ini, ⟨.slice ea enL.length ec0, enL⟩, ⟨.slice fa exL.length fc0, exL⟩⟩]⟩ ⟨.slice ra0 rs.length rc0, rs⟩)])).row = (ObsG.mk (.slice (some ⟨go, 0, none⟩) (pp.length + 1) co) (pp ++ [(ObG.mk pO qO dO ⟨.slice ka ks.length kc, ks⟩ ⟨.slice va vs.length vc, vs⟩ ⟨.slice ua us.length uc, us⟩ ⟨(.slice (some ⟨gs, 0, none⟩) (qq.length + 1) cs0), qq ++ [⟨par, ini, ⟨.slice ea enL.length ec0, enL⟩, ⟨(.slice (some ⟨gg, 0, none⟩) (exL.length + 1) cap5), exL ++ [⟨xk, xa, xb, ⟨.slice k9 m9 c9, its⟩⟩]⟩⟩]⟩ ⟨.slice ra0 rs.length rc0, rs⟩)])).row := by simp only [ObsG.row, List.length_append, List.length_cons, List.length_nil, List.flatMap_append, List.flatMap_cons, List.flatMap_nil, ObG.cells]
    rw [ER] at F6
    have F7 : Hid (Flat (w5.setCell ⟨gs, qq.length * 4 + 3, none⟩ (.slice (some ⟨gg, 0, none⟩) (exL.length + 1) cap5)) B (sysB (H3 + 1) (.int .i64 0) nilV nilV :: ([sysB H3 (.int .i64 sg) (.slice (some ⟨go, 0, none⟩) (pp.length + 1) co) (.slice xo ts.length xc), boxR 75 H21 [.int .i64 xk, .int .i64 xa, .int .i64 xb, .slice k9 m9 c9]] ++ ((SyG.mk sg ⟨(.slice (some ⟨go, 0, none⟩) (pp.length + 1) co), pp ++ [(ObG.mk pO qO dO ⟨.slice ka ks.length kc, ks⟩ ⟨.slice va vs.length vc, vs⟩ ⟨.slice ua us.length uc, us⟩ ⟨(.slice (some ⟨gs, 0, none⟩) (qq.length + 1) cs0), qq ++ [⟨par, ini, ⟨.slice ea enL.length ec0, enL⟩, ⟨(.slice (some ⟨gg, 0, none⟩) (exL.length + 1) cap5), exL ++ [⟨xk, xa, xb, ⟨.slice k9 m9 c9, its⟩⟩]⟩⟩]⟩ ⟨.slice ra0 rs.length rc0, rs⟩)]⟩ ⟨.slice xo ts.length xc, ts⟩).rows ++ R)))) := hid (F6.out.perm (by
        refine perm_count fun f g hf => ?_
        simp only [SyG.rows, ObsG.rows, ObsG.row, ob1, ObG.rows, InG.row, StsG.rows, TrsG.rows, StsG.row, TrsG.row, TmG.row, StG.rows, TrG.rows, SmsG.rows, SmsG.row, SmG.rows, CdG.row, itC_append, itC, List.map_append, List.map_cons, List.flatMap_append, List.flatMap_cons, List.flatMap_nil, List.append_nil, List.length_append, List.length_cons, List.length_nil, List.map_nil, List.cons_append, List.nil_append, hf.c, hf.a, hf.z, Nat.zero_add]
        omega))
    have B5 : Hid (Below B w (w5.setCell ⟨gs, qq.length * 4 + 3, none⟩ (.slice (some ⟨gg, 0, none⟩) (exL.length + 1) cap5))) := hid ((((B2.out.trans (BU.out.mono Z2.out)).trans G5.out).setCell (p := ⟨gs, _, none⟩) HGS.out _))
    clear F5 F6 FU FW K5 KU HSd NWU CS ER
    obtain ⟨⟨a0, a1, a2⟩, g0, g1, g2, al⟩ := three_cc (box_blk F7.out.tail.head)
    obtain ⟨⟨b0, b1, b2⟩, q0, q1, q2, ql⟩ := three_cc (box_blk F7.out.head)
    obtain ⟨Y, hY⟩ : ∃ Y, Y = (w5.setCell ⟨gs, qq.length * 4 + 3, none⟩ (.slice (some ⟨gg, 0, none⟩) (exL.length + 1) cap5)) := ⟨_, rfl⟩
    rw [← hY] at F7 B5 a0 a1 a2 g0 g1 g2 al b0 b1 b2 q0 q1 q2 ql ⊢
    clear hY
    go_wp2_with fail
    obtain ⟨u0, u1, u2⟩ := ln_box F7.out (.int .i64 sg) (.slice (some ⟨go, 0, none⟩) (pp.length + 1) co) (.slice xo ts.length xc)
    exact bodyPost_ret (v := .tuple #[.agg #[.int .i64 sg, .slice (some ⟨go, 0, none⟩) (pp.length + 1) co, .slice xo ts.length xc], .bool true]) (by simp [results, Tryz.results10, go_sem, u0, u1, u2]) rfl (ln_ans (SyG.mk sg ⟨(.slice (some ⟨go, 0, none⟩) (pp.length + 1) co), pp ++ [(ObG.mk pO qO dO ⟨.slice ka ks.length kc, ks⟩ ⟨.slice va vs.length vc, vs⟩ ⟨.slice ua us.length uc, us⟩ ⟨(.slice (some ⟨gs, 0, none⟩) (qq.length + 1) cs0), qq ++ [⟨par, ini, ⟨.slice ea enL.length ec0, enL⟩, ⟨(.slice (some ⟨gg, 0, none⟩) (exL.length + 1) cap5), exL ++ [⟨xk, xa, xb, ⟨.slice k9 m9 c9, its⟩⟩]⟩⟩]⟩ ⟨.slice ra0 rs.length rc0, rs⟩)]⟩ ⟨.slice xo ts.length xc, ts⟩) [sysB H3 (.int .i64 sg) (.slice (some ⟨go, 0, none⟩) (pp.length + 1) co) (.slice xo ts.length xc), boxR 75 H21 [.int .i64 xk, .int .i64 xa, .int .i64 xb, .slice k9 m9 c9]] B5.out B6.out F7.out (List.Perm.refl _) (by rw [LW.out]; simp [SyG.dat, ObG.dat, StG.dat, TrG.dat, SmsG.dat, SmG.dat, oneOb_snoc, turnL_snoc]))
end Go.Proofs.YtbcjlpjohknljaaGreatDoor
