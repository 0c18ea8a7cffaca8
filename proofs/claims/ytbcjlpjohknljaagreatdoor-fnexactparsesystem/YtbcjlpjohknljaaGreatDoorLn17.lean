import Derived.Test.YtbcjlpjohknljaaGreatDoorLc
namespace Go.Proofs.YtbcjlpjohknljaaGreatDoor
open Go.RowKit Go.Sort
set_option linter.unusedVariables false
set_option linter.unusedSimpArgs false
attribute [local go_sem ↓] Go.wp_at_zero Go.wp_at_succ

set_option maxRecDepth 100000 in
set_option maxHeartbeats 6400000 in
/-- A line of a statement that cannot stand. -/
theorem line_late_no (sg : Int) (ov tv : Value) (pp : List ObG) (o : ObG) (ts : List (Int × Int)) (R : List Rw) (B b off n c : Nat) (fs : List (List UInt8)) (w : World) (h : LnC (SyG.mk sg ⟨ov, pp ++ [o]⟩ ⟨tv, ts⟩) R B b off n c fs w) (nkSig : ¬ fs.getD 0 [] = kSig) (nkObj : ¬ fs.getD 0 [] = kObj) (nkTim : ¬ fs.getD 0 [] = kTim) (nkVar : ¬ fs.getD 0 [] = kVar) (nkSub : ¬ fs.getD 0 [] = kSub) (nkSta : ¬ fs.getD 0 [] = kSta) (nkOn : ¬ fs.getD 0 [] = kOn) (hq : stmW fs.tail = none) (hno : lineW (SyG.mk sg ⟨ov, pp ++ [o]⟩ ⟨tv, ts⟩).dat (fs.getD 0 []) fs.tail true = none) : Calls Tryz.prog 10 #[(SyG.mk sg ⟨ov, pp ++ [o]⟩ ⟨tv, ts⟩).val, .slice (some ⟨b, off, none⟩) (n + 1) c, .bool true] w fun e w' => LnR (SyG.mk sg ⟨ov, pp ++ [o]⟩ ⟨tv, ts⟩) R B fs true w e w' := by
  obtain ⟨pO, qO, dO, ⟨kv, ks⟩, ⟨vv, vs⟩, ⟨uv, us⟩, ⟨sv, ss⟩, ⟨rv, rs⟩⟩ := o
  obtain ⟨go, co, hov, hco, hcm, hgo, hgol⟩ := row_has (h.hF.own (ObsG.mk ov (pp ++ [⟨pO, qO, dO, ⟨kv, ks⟩, ⟨vv, vs⟩, ⟨uv, us⟩, ⟨sv, ss⟩, ⟨rv, rs⟩⟩])).row (by simp [SyG.rows, ObsG.rows])) (by simp [ObsG.row])
  simp only [ObsG.row, List.length_append, List.length_cons, List.length_nil, Nat.zero_add] at hov
  subst hov
  obtain ⟨xo, xc, htv, _, _⟩ := pairs_read (h.hF.own (TmG.mk tv ts).row (by simp [SyG.rows]))
  obtain ⟨ka, kc, hkv, _, _, _⟩ := ints_read (h.hF.own (InG.mk kv ks).row (by simp [SyG.rows, ObsG.rows, ObG.rows]))
  obtain ⟨va, vc, hvv, _, _, _⟩ := ints_read (h.hF.own (InG.mk vv vs).row (by simp [SyG.rows, ObsG.rows, ObG.rows]))
  obtain ⟨ua, uc, huv, _, _, _⟩ := ints_read (h.hF.own (InG.mk uv us).row (by simp [SyG.rows, ObsG.rows, ObG.rows]))
  obtain ⟨sa, sc, hsv, _, _, _⟩ := row_read StG.cells 4 (fun _ => rfl) (h.hF.own (StsG.mk sv ss).row (by simp [SyG.rows, ObsG.rows, ObG.rows, StsG.rows]))
  obtain ⟨ra0, rc0, hrv, _, _, _⟩ := row_read TrG.cells 5 (fun _ => rfl) (h.hF.own (TrsG.mk rv rs).row (by simp [SyG.rows, ObsG.rows, ObG.rows, TrsG.rows]))
  simp only at htv hkv hvv huv hsv hrv
  simp only [TmG.row, InG.row, StsG.row, TrsG.row] at htv hkv hvv huv hsv hrv
  subst htv hkv hvv huv hsv hrv
  have SO := h.hz.a _ (show ObG.dat (ObG.mk pO qO dO ⟨.slice ka ks.length kc, ks⟩ ⟨.slice va vs.length vc, vs⟩ ⟨.slice ua us.length uc, us⟩ ⟨.slice sa ss.length sc, ss⟩ ⟨.slice ra0 rs.length rc0, rs⟩) ∈ (SyG.dat (SyG.mk sg ⟨.slice (some ⟨go, 0, none⟩) (pp.length + 1) co, pp ++ [⟨pO, qO, dO, ⟨.slice ka ks.length kc, ks⟩, ⟨.slice va vs.length vc, vs⟩, ⟨.slice ua us.length uc, us⟩, ⟨.slice sa ss.length sc, ss⟩, ⟨.slice ra0 rs.length rc0, rs⟩⟩]⟩ ⟨.slice xo ts.length xc, ts⟩)).obs by simp [SyG.dat])
  have NS := hid SO
  have hpl : pp.length + 1 ≤ 1048577 := by have := h.hz.o; simp [SyG.dat] at this; omega
  have hp0 : ¬ ((pp.length : Int) + 1 = 0) := by omega
  have hp1 : ((pp.length : Int) + 1 == 0) = false := by simp; omega
  clear SO
  have NO := hid hno
  clear hno
  obtain ⟨c0, hbl, hT⟩ := h.hs.one
  have HT := hid hT
  have HC := hid h
  have hn := h.hn
  have hc := h.hc
  have TL : fs.tail.length = n := by rw [List.length_tail, h.hs.1]; omega
  obtain ⟨t, ht⟩ : ∃ t : ByteArray, t = ⟨(fs.getD 0 []).toArray⟩ := ⟨_, rfl⟩
  have c1 : w.cell? ⟨b, off, none⟩ = some (.string t) := by rw [ht]; exact c0
  have hbt : fs.getD 0 [] = bl t := ba_bl.1 ht.symm
  clear c0 ht
  have skSig := str_not (show ¬ bl t = kSig by rw [← hbt]; exact nkSig)
  have skObj := str_not (show ¬ bl t = kObj by rw [← hbt]; exact nkObj)
  have skTim := str_not (show ¬ bl t = kTim by rw [← hbt]; exact nkTim)
  have skVar := str_not (show ¬ bl t = kVar by rw [← hbt]; exact nkVar)
  have skSub := str_not (show ¬ bl t = kSub by rw [← hbt]; exact nkSub)
  have skSta := str_not (show ¬ bl t = kSta by rw [← hbt]; exact nkSta)
  have skOn := str_not (show ¬ bl t = kOn by rw [← hbt]; exact nkOn)
  simp only [kSig, kObj, kTim, kVar, kSub, kSta, kOn] at skSig skObj skTim skVar skSub skSta skOn
  have hl0 : lead (bl t) = 0 := by
    rw [← hbt]
    unfold lead
    rw [if_neg nkObj, if_neg nkOn, if_neg nkSta, if_neg nkTim, if_neg nkSub]
  have LA := hid (fun W => leading_any t W)
  rw [hl0] at LA
  clear hl0 hbt nkSig nkObj nkTim nkVar nkSub nkSta nkOn
  have FV := hid (h.boxes (.int .i64 sg) (.slice (some ⟨go, 0, none⟩) (pp.length + 1) co) (.slice xo ts.length xc))
  have BV := hid (below2 w (sysO (.int .i64 sg) (.slice (some ⟨go, 0, none⟩) (pp.length + 1) co) (.slice xo ts.length xc)) (sysO (.int .i64 0) nilV nilV))
  have SV : Hid (((w.alloc (sysO (.int .i64 sg) (.slice (some ⟨go, 0, none⟩) (pp.length + 1) co) (.slice xo ts.length xc))).alloc (sysO (.int .i64 0) nilV nilV)).heap.size = w.heap.size + 2) := hid (by simp)
  clear h hT
  simp only [SyG.val]
  go_enter Tryz.func10, Tryz.ntmps10
  go_upto_region 1 with fail
  obtain ⟨V, hV⟩ : ∃ V, V = (w.alloc (sysO (.int .i64 sg) (.slice (some ⟨go, 0, none⟩) (pp.length + 1) co) (.slice xo ts.length xc))).alloc (sysO (.int .i64 0) nilV nilV) := ⟨_, rfl⟩
  rw [← hV] at FV BV SV ⊢
  obtain ⟨H3, e3⟩ : ∃ H, H = w.heap.size := ⟨_, rfl⟩
  have E3 := hid e3
  rw [← e3] at FV SV ⊢
  have k0 := (BV.out.cell (p := ⟨b, off, none⟩) hbl).trans c1
  clear c1 e3 hV
  go_upto_region 2 with fail
  go_cut [9] from 29 to 30 (fun r wx => ∃ ao cp, r = .slice ao n cp ∧ n ≤ cp ∧ StrsOf w ao n fs.tail ∧ wx = V)
  case first =>
    by_cases hc1 : c = 1
    · have hn0 : n = 0 := by omega
      subst hn0
      subst hc1
      go_wp2_with fail
      go_meet
      exact ⟨_, _, rfl, Nat.le_refl _, HT.out _ (by simp), rfl⟩
    · go_wp2_with fail
      go_meet
      exact ⟨_, _, rfl, by omega, HT.out _ (.inl rfl), rfl⟩
  case rest =>
    obtain ⟨ra, rc, rfl, hrc, hrs, hV⟩ := hcut
    subst hV
    have RS := hid hrs
    have HF : Hid (∀ f ∈ fs.tail, f.length ≤ 1048576) := hid (fun f hf => HC.out.hf f (List.mem_of_mem_tail hf))
    obtain ⟨⟨a0, a1, a2⟩, g0, g1, g2, al⟩ := three_cc (FV.out.mem_box (t := 25) (H := H3) (xs := [.int .i64 sg, .slice (some ⟨go, 0, none⟩) (pp.length + 1) co, .slice xo ts.length xc]) (by simp))
    obtain ⟨⟨b0, b1, b2⟩, q0, q1, q2, ql⟩ := three_cc (FV.out.mem_box (t := 25) (H := H3 + 1) (xs := [.int .i64 0, nilV, nilV]) (by simp))
    clear hrs k0
    have NU : Hid (∀ (k : Nat) W, k ≤ 100 → Below w.heap.size w W → Calls Tryz.prog 19 #[.slice ra n rc, .int .i64 (k : Int)] W fun e w' => (∃ v, e = .returned (.tuple #[v, .bool (numsN fs.tail k).isSome]) ∧ (∃ a l c, v = .slice a l c) ∧ ∀ zs, numsN fs.tail k = some zs → IntRow w' W.heap.size v zs) ∧ Below W.heap.size W w') := hid (fun k W hk hW => l5Numbers_any ra n rc k fs.tail W (by omega) hk HF.out (RS.out.below hW))
    have BB : Hid (Below B w wc) := hid (BV.out.mono HC.out.hB)
    have B6 : Hid (B ≤ H3 + 1) := hid (by have := HC.out.hB; have := E3.out; omega)
    have H3B : Hid (B ≤ H3) := hid (by have := HC.out.hB; have := E3.out; omega)
    have BW : Hid (B ≤ wc.heap.size) := hid (Nat.le_trans HC.out.hB BV.out.size)
    have ST : Hid (∀ W, Below w.heap.size w W → Calls Tryz.prog 25 #[.slice ra n rc] W fun e w' => (∃ k a b co cn cc, e = .returned (.tuple #[.agg #[.int .i64 k, .int .i64 a, .int .i64 b, .slice co cn cc], .bool false])) ∧ Below W.heap.size W w') := hid (fun W hW =>
      (l5Stm_any ra n rc fs.tail W (by omega) hrc HF.out (RS.out.below hW)).mono (by
        rintro e w' ⟨⟨k', a', b', co, cn, cc, h1, h2⟩, h3⟩
        rw [hq] at h1
        exact ⟨⟨k', a', b', co, cn, cc, h1⟩, h3⟩))
    have NK : Hid (∀ W, Below w.heap.size w W → Calls Tryz.prog 19 #[.slice ra n rc, .int .i64 0] W fun e w' => (∃ v, e = .returned (.tuple #[v, .bool true]) ∧ (∃ a l c, v = .slice a l c)) ∧ Below W.heap.size W w') := hid (fun W hW => by
      have h1 := NU.out 0 W (by omega) hW
      rw [show numsN fs.tail 0 = some [] by simp [numsN, nums]] at h1
      exact h1.mono (by rintro e w' ⟨⟨v, h1, h2, _⟩, h3⟩; exact ⟨⟨v, h1, h2⟩, h3⟩))
    have OW : Hid (∀ Y, Below wc.heap.size wc Y → Flat Y B (sysB (H3 + 1) (.int .i64 0) nilV nilV :: sysB H3 (.int .i64 sg) (.slice (some ⟨go, 0, none⟩) (pp.length + 1) co) (.slice xo ts.length xc) :: ((SyG.mk sg ⟨(.slice (some ⟨go, 0, none⟩) (pp.length + 1) co), pp ++ [(ObG.mk pO qO dO ⟨.slice ka ks.length kc, ks⟩ ⟨.slice va vs.length vc, vs⟩ ⟨.slice ua us.length uc, us⟩ ⟨.slice sa ss.length sc, ss⟩ ⟨.slice ra0 rs.length rc0, rs⟩)]⟩ ⟨.slice xo ts.length xc, ts⟩).rows ++ R))) := hid (fun Y hY => FV.out.below hY)
    clear NU TL hq
    go_upto_region 45 with (first
        | (go_at_call 20; refine (LA.out _).mono ?_; rintro e w1 ⟨rfl, hw1⟩; obtain rfl := hw1.symm)
        | (go_at_call 19; refine (NK.out _ BV.out).mono ?_; rintro e w2 ⟨⟨v, rfl, ⟨a7, l7, p7, rfl⟩⟩, hb⟩; have HB := hid hb; have BX := hid (BV.out.trans (hb.mono BV.out.size)); have F2 := hid (FV.out.below hb); obtain ⟨⟨m0, m1, m2⟩, m3, m4, m5, ml⟩ := three_cc (F2.out.mem_box (t := 25) (H := H3) (xs := [.int .i64 sg, .slice (some ⟨go, 0, none⟩) (pp.length + 1) co, .slice xo ts.length xc]) (by simp)); clear hb)
        | (go_at_call 25; refine (ST.out _ BX.out).mono ?_; rintro e w4 ⟨⟨k9, a9, b9, e9, m9, c9, rfl⟩, hb⟩; have HB4 := hid hb; clear hb))
    have F4 := hid ((F2.out.below HB4.out).below (below1 w4 (.cells #[.int .i64 k9, .int .i64 a9, .int .i64 b9, .slice e9 m9 c9] 75)))
    have B4 : Hid (Below B w (w4.alloc (.cells #[.int .i64 k9, .int .i64 a9, .int .i64 b9, .slice e9 m9 c9] 75))) := hid (((BB.out.trans (HB.out.mono BW.out)).trans (HB4.out.mono (Nat.le_trans BW.out HB.out.size))).trans ((below1 _ _).mono (Nat.le_trans BW.out (Nat.le_trans HB.out.size HB4.out.size))))
    obtain ⟨V4, hV4⟩ : ∃ V, V = w4.alloc (.cells #[.int .i64 k9, .int .i64 a9, .int .i64 b9, .slice e9 m9 c9] 75) := ⟨_, rfl⟩
    rw [← hV4] at B4 F4 ⊢
    clear hV4 FV BV BB BW NK HB HB4 F2 OW BX m0 m1 m2 m3 m4 m5 ml a0 a1 a2 g0 g1 g2 al b0 b1 b2 q0 q1 q2 ql ST LA RS HF
    have OWN : (ObsG.mk (.slice (some ⟨go, 0, none⟩) (pp.length + 1) co) (pp ++ [(ObG.mk pO qO dO ⟨.slice ka ks.length kc, ks⟩ ⟨.slice va vs.length vc, vs⟩ ⟨.slice ua us.length uc, us⟩ ⟨.slice sa ss.length sc, ss⟩ ⟨.slice ra0 rs.length rc0, rs⟩)])).row.own V4 B := F4.out.own _ (by simp [SyG.rows, ObsG.rows])
    have oc6 : V4.cell? ⟨go, pp.length * 8 + 6, none⟩ = some (.slice sa ss.length sc) := ob_cell OWN 6 (by omega)
    have oc7 : V4.cell? ⟨go, pp.length * 8 + 6 + 1, none⟩ = some (.slice ra0 rs.length rc0) := ob_cell OWN 7 (by omega)
    obtain ⟨_, ogl⟩ := ob_froz OWN 0
    obtain ⟨⟨a0, a1, a2⟩, g0, g1, g2, al⟩ := three_cc (F4.out.mem_box (t := 25) (H := H3) (xs := [.int .i64 sg, (.slice (some ⟨go, 0, none⟩) (pp.length + 1) co), .slice xo ts.length xc]) (by simp))
    obtain ⟨⟨b0, b1, b2⟩, q0, q1, q2, ql⟩ := three_cc (F4.out.mem_box (t := 25) (H := H3 + 1) (xs := [.int .i64 0, nilV, nilV]) (by simp))
    clear OWN
    have U6 := hid (ln_box F4.out (.int .i64 sg) (.slice (some ⟨go, 0, none⟩) (pp.length + 1) co) (.slice xo ts.length xc))
    go_wp2_with fail
    obtain ⟨u0, u1, u2⟩ := U6.out
    exact bodyPost_ret (v := .tuple #[.agg #[.int .i64 sg, .slice (some ⟨go, 0, none⟩) (pp.length + 1) co, .slice xo ts.length xc], .bool false]) (by simp [results, Tryz.results10, go_sem, u0, u1, u2]) rfl (ln_no B4.out B6.out NO.out F4.out (by repeat' (first | exact List.Sublist.refl _ | with_reducible refine List.Sublist.cons_cons _ ?_ | refine List.sublist_append_of_sublist_right ?_ | refine List.Sublist.cons _ ?_)) _ _ _ _ _ _ _)
set_option maxRecDepth 100000 in
set_option maxHeartbeats 6400000 in
/-- A line of a statement that cannot stand. -/
theorem line_late_els (sg : Int) (ov tv : Value) (pp : List ObG) (o : ObG) (ts : List (Int × Int)) (R : List Rw) (B b off n c : Nat) (fs : List (List UInt8)) (w : World) (h : LnC (SyG.mk sg ⟨ov, pp ++ [o]⟩ ⟨tv, ts⟩) R B b off n c fs w) (nkSig : ¬ fs.getD 0 [] = kSig) (nkObj : ¬ fs.getD 0 [] = kObj) (nkTim : ¬ fs.getD 0 [] = kTim) (nkVar : ¬ fs.getD 0 [] = kVar) (nkSub : ¬ fs.getD 0 [] = kSub) (nkSta : ¬ fs.getD 0 [] = kSta) (nkOn : ¬ fs.getD 0 [] = kOn) (nkEnt : ¬ fs.getD 0 [] = kEnt) (nkExi : ¬ fs.getD 0 [] = kExi) (nkDo : ¬ fs.getD 0 [] = kDo) : Calls Tryz.prog 10 #[(SyG.mk sg ⟨ov, pp ++ [o]⟩ ⟨tv, ts⟩).val, .slice (some ⟨b, off, none⟩) (n + 1) c, .bool true] w fun e w' => LnR (SyG.mk sg ⟨ov, pp ++ [o]⟩ ⟨tv, ts⟩) R B fs true w e w' := by
  obtain ⟨pO, qO, dO, ⟨kv, ks⟩, ⟨vv, vs⟩, ⟨uv, us⟩, ⟨sv, ss⟩, ⟨rv, rs⟩⟩ := o
  obtain ⟨go, co, hov, hco, hcm, hgo, hgol⟩ := row_has (h.hF.own (ObsG.mk ov (pp ++ [⟨pO, qO, dO, ⟨kv, ks⟩, ⟨vv, vs⟩, ⟨uv, us⟩, ⟨sv, ss⟩, ⟨rv, rs⟩⟩])).row (by simp [SyG.rows, ObsG.rows])) (by simp [ObsG.row])
  simp only [ObsG.row, List.length_append, List.length_cons, List.length_nil, Nat.zero_add] at hov
  subst hov
  obtain ⟨xo, xc, htv, _, _⟩ := pairs_read (h.hF.own (TmG.mk tv ts).row (by simp [SyG.rows]))
  obtain ⟨ka, kc, hkv, _, _, _⟩ := ints_read (h.hF.own (InG.mk kv ks).row (by simp [SyG.rows, ObsG.rows, ObG.rows]))
  obtain ⟨va, vc, hvv, _, _, _⟩ := ints_read (h.hF.own (InG.mk vv vs).row (by simp [SyG.rows, ObsG.rows, ObG.rows]))
  obtain ⟨ua, uc, huv, _, _, _⟩ := ints_read (h.hF.own (InG.mk uv us).row (by simp [SyG.rows, ObsG.rows, ObG.rows]))
  obtain ⟨sa, sc, hsv, _, _, _⟩ := row_read StG.cells 4 (fun _ => rfl) (h.hF.own (StsG.mk sv ss).row (by simp [SyG.rows, ObsG.rows, ObG.rows, StsG.rows]))
  obtain ⟨ra0, rc0, hrv, _, _, _⟩ := row_read TrG.cells 5 (fun _ => rfl) (h.hF.own (TrsG.mk rv rs).row (by simp [SyG.rows, ObsG.rows, ObG.rows, TrsG.rows]))
  simp only at htv hkv hvv huv hsv hrv
  simp only [TmG.row, InG.row, StsG.row, TrsG.row] at htv hkv hvv huv hsv hrv
  subst htv hkv hvv huv hsv hrv
  have SO := h.hz.a _ (show ObG.dat (ObG.mk pO qO dO ⟨.slice ka ks.length kc, ks⟩ ⟨.slice va vs.length vc, vs⟩ ⟨.slice ua us.length uc, us⟩ ⟨.slice sa ss.length sc, ss⟩ ⟨.slice ra0 rs.length rc0, rs⟩) ∈ (SyG.dat (SyG.mk sg ⟨.slice (some ⟨go, 0, none⟩) (pp.length + 1) co, pp ++ [⟨pO, qO, dO, ⟨.slice ka ks.length kc, ks⟩, ⟨.slice va vs.length vc, vs⟩, ⟨.slice ua us.length uc, us⟩, ⟨.slice sa ss.length sc, ss⟩, ⟨.slice ra0 rs.length rc0, rs⟩⟩]⟩ ⟨.slice xo ts.length xc, ts⟩)).obs by simp [SyG.dat])
  have NS := hid SO
  have hpl : pp.length + 1 ≤ 1048577 := by have := h.hz.o; simp [SyG.dat] at this; omega
  have hp0 : ¬ ((pp.length : Int) + 1 = 0) := by omega
  have hp1 : ((pp.length : Int) + 1 == 0) = false := by simp; omega
  clear SO
  have NO : Hid (lineW (SyG.dat (SyG.mk sg ⟨.slice (some ⟨go, 0, none⟩) (pp.length + 1) co, pp ++ [⟨pO, qO, dO, ⟨.slice ka ks.length kc, ks⟩, ⟨.slice va vs.length vc, vs⟩, ⟨.slice ua us.length uc, us⟩, ⟨.slice sa ss.length sc, ss⟩, ⟨.slice ra0 rs.length rc0, rs⟩⟩]⟩ ⟨.slice xo ts.length xc, ts⟩)) (fs.getD 0 []) fs.tail true = none) := hid (lineW_else _ _ nkSig nkObj nkTim nkVar nkSub nkSta nkOn nkEnt nkExi nkDo)
  obtain ⟨c0, hbl, hT⟩ := h.hs.one
  have HT := hid hT
  have HC := hid h
  have hn := h.hn
  have hc := h.hc
  have TL : fs.tail.length = n := by rw [List.length_tail, h.hs.1]; omega
  obtain ⟨t, ht⟩ : ∃ t : ByteArray, t = ⟨(fs.getD 0 []).toArray⟩ := ⟨_, rfl⟩
  have c1 : w.cell? ⟨b, off, none⟩ = some (.string t) := by rw [ht]; exact c0
  have hbt : fs.getD 0 [] = bl t := ba_bl.1 ht.symm
  clear c0 ht
  have skSig := str_not (show ¬ bl t = kSig by rw [← hbt]; exact nkSig)
  have skObj := str_not (show ¬ bl t = kObj by rw [← hbt]; exact nkObj)
  have skTim := str_not (show ¬ bl t = kTim by rw [← hbt]; exact nkTim)
  have skVar := str_not (show ¬ bl t = kVar by rw [← hbt]; exact nkVar)
  have skSub := str_not (show ¬ bl t = kSub by rw [← hbt]; exact nkSub)
  have skSta := str_not (show ¬ bl t = kSta by rw [← hbt]; exact nkSta)
  have skOn := str_not (show ¬ bl t = kOn by rw [← hbt]; exact nkOn)
  have skEnt := str_not (show ¬ bl t = kEnt by rw [← hbt]; exact nkEnt)
  have skExi := str_not (show ¬ bl t = kExi by rw [← hbt]; exact nkExi)
  have skDo := str_not (show ¬ bl t = kDo by rw [← hbt]; exact nkDo)
  simp only [kSig, kObj, kTim, kVar, kSub, kSta, kOn, kEnt, kExi, kDo] at skSig skObj skTim skVar skSub skSta skOn skEnt skExi skDo
  have hl0 : lead (bl t) = 0 := by
    rw [← hbt]
    unfold lead
    rw [if_neg nkObj, if_neg nkOn, if_neg nkSta, if_neg nkTim, if_neg nkSub]
  have LA := hid (fun W => leading_any t W)
  rw [hl0] at LA
  clear hl0 hbt nkSig nkObj nkTim nkVar nkSub nkSta nkOn nkEnt nkExi nkDo
  have FV := hid (h.boxes (.int .i64 sg) (.slice (some ⟨go, 0, none⟩) (pp.length + 1) co) (.slice xo ts.length xc))
  have BV := hid (below2 w (sysO (.int .i64 sg) (.slice (some ⟨go, 0, none⟩) (pp.length + 1) co) (.slice xo ts.length xc)) (sysO (.int .i64 0) nilV nilV))
  have SV : Hid (((w.alloc (sysO (.int .i64 sg) (.slice (some ⟨go, 0, none⟩) (pp.length + 1) co) (.slice xo ts.length xc))).alloc (sysO (.int .i64 0) nilV nilV)).heap.size = w.heap.size + 2) := hid (by simp)
  clear h hT
  simp only [SyG.val]
  go_enter Tryz.func10, Tryz.ntmps10
  go_upto_region 1 with fail
  obtain ⟨V, hV⟩ : ∃ V, V = (w.alloc (sysO (.int .i64 sg) (.slice (some ⟨go, 0, none⟩) (pp.length + 1) co) (.slice xo ts.length xc))).alloc (sysO (.int .i64 0) nilV nilV) := ⟨_, rfl⟩
  rw [← hV] at FV BV SV ⊢
  obtain ⟨H3, e3⟩ : ∃ H, H = w.heap.size := ⟨_, rfl⟩
  have E3 := hid e3
  rw [← e3] at FV SV ⊢
  have k0 := (BV.out.cell (p := ⟨b, off, none⟩) hbl).trans c1
  clear c1 e3 hV
  go_upto_region 2 with fail
  go_cut [9] from 29 to 30 (fun r wx => ∃ ao cp, r = .slice ao n cp ∧ n ≤ cp ∧ StrsOf w ao n fs.tail ∧ wx = V)
  case first =>
    by_cases hc1 : c = 1
    · have hn0 : n = 0 := by omega
      subst hn0
      subst hc1
      go_wp2_with fail
      go_meet
      exact ⟨_, _, rfl, Nat.le_refl _, HT.out _ (by simp), rfl⟩
    · go_wp2_with fail
      go_meet
      exact ⟨_, _, rfl, by omega, HT.out _ (.inl rfl), rfl⟩
  case rest =>
    obtain ⟨ra, rc, rfl, hrc, hrs, hV⟩ := hcut
    subst hV
    have RS := hid hrs
    have HF : Hid (∀ f ∈ fs.tail, f.length ≤ 1048576) := hid (fun f hf => HC.out.hf f (List.mem_of_mem_tail hf))
    obtain ⟨⟨a0, a1, a2⟩, g0, g1, g2, al⟩ := three_cc (FV.out.mem_box (t := 25) (H := H3) (xs := [.int .i64 sg, .slice (some ⟨go, 0, none⟩) (pp.length + 1) co, .slice xo ts.length xc]) (by simp))
    obtain ⟨⟨b0, b1, b2⟩, q0, q1, q2, ql⟩ := three_cc (FV.out.mem_box (t := 25) (H := H3 + 1) (xs := [.int .i64 0, nilV, nilV]) (by simp))
    clear hrs k0
    have NU : Hid (∀ (k : Nat) W, k ≤ 100 → Below w.heap.size w W → Calls Tryz.prog 19 #[.slice ra n rc, .int .i64 (k : Int)] W fun e w' => (∃ v, e = .returned (.tuple #[v, .bool (numsN fs.tail k).isSome]) ∧ (∃ a l c, v = .slice a l c) ∧ ∀ zs, numsN fs.tail k = some zs → IntRow w' W.heap.size v zs) ∧ Below W.heap.size W w') := hid (fun k W hk hW => l5Numbers_any ra n rc k fs.tail W (by omega) hk HF.out (RS.out.below hW))
    have BB : Hid (Below B w wc) := hid (BV.out.mono HC.out.hB)
    have B6 : Hid (B ≤ H3 + 1) := hid (by have := HC.out.hB; have := E3.out; omega)
    have H3B : Hid (B ≤ H3) := hid (by have := HC.out.hB; have := E3.out; omega)
    have BW : Hid (B ≤ wc.heap.size) := hid (Nat.le_trans HC.out.hB BV.out.size)
    obtain ⟨gd, hgd⟩ : ∃ g, g = (stmW fs.tail).isSome := ⟨_, rfl⟩
    have ST : Hid (∀ W, Below w.heap.size w W → Calls Tryz.prog 25 #[.slice ra n rc] W fun e w' => (∃ k a b co cn cc, e = .returned (.tuple #[.agg #[.int .i64 k, .int .i64 a, .int .i64 b, .slice co cn cc], .bool gd])) ∧ Below W.heap.size W w') := hid (fun W hW =>
      (l5Stm_any ra n rc fs.tail W (by omega) hrc HF.out (RS.out.below hW)).mono (by
        rintro e w' ⟨⟨k', a', b', co, cn, cc, h1, h2⟩, h3⟩
        rw [← hgd] at h1
        exact ⟨⟨k', a', b', co, cn, cc, h1⟩, h3⟩))
    have NK : Hid (∀ W, Below w.heap.size w W → Calls Tryz.prog 19 #[.slice ra n rc, .int .i64 0] W fun e w' => (∃ v, e = .returned (.tuple #[v, .bool true]) ∧ (∃ a l c, v = .slice a l c)) ∧ Below W.heap.size W w') := hid (fun W hW => by
      have h1 := NU.out 0 W (by omega) hW
      rw [show numsN fs.tail 0 = some [] by simp [numsN, nums]] at h1
      exact h1.mono (by rintro e w' ⟨⟨v, h1, h2, _⟩, h3⟩; exact ⟨⟨v, h1, h2⟩, h3⟩))
    have OW : Hid (∀ Y, Below wc.heap.size wc Y → Flat Y B (sysB (H3 + 1) (.int .i64 0) nilV nilV :: sysB H3 (.int .i64 sg) (.slice (some ⟨go, 0, none⟩) (pp.length + 1) co) (.slice xo ts.length xc) :: ((SyG.mk sg ⟨(.slice (some ⟨go, 0, none⟩) (pp.length + 1) co), pp ++ [(ObG.mk pO qO dO ⟨.slice ka ks.length kc, ks⟩ ⟨.slice va vs.length vc, vs⟩ ⟨.slice ua us.length uc, us⟩ ⟨.slice sa ss.length sc, ss⟩ ⟨.slice ra0 rs.length rc0, rs⟩)]⟩ ⟨.slice xo ts.length xc, ts⟩).rows ++ R))) := hid (fun Y hY => FV.out.below hY)
    clear NU TL hgd
    go_upto_region 45 with (first
        | (go_at_call 20; refine (LA.out _).mono ?_; rintro e w1 ⟨rfl, hw1⟩; obtain rfl := hw1.symm)
        | (go_at_call 19; refine (NK.out _ BV.out).mono ?_; rintro e w2 ⟨⟨v, rfl, ⟨a7, l7, p7, rfl⟩⟩, hb⟩; have HB := hid hb; have BX := hid (BV.out.trans (hb.mono BV.out.size)); have F2 := hid (FV.out.below hb); obtain ⟨⟨m0, m1, m2⟩, m3, m4, m5, ml⟩ := three_cc (F2.out.mem_box (t := 25) (H := H3) (xs := [.int .i64 sg, .slice (some ⟨go, 0, none⟩) (pp.length + 1) co, .slice xo ts.length xc]) (by simp)); clear hb)
        | (go_at_call 25; refine (ST.out _ BX.out).mono ?_; rintro e w4 ⟨⟨k9, a9, b9, e9, m9, c9, rfl⟩, hb⟩; have HB4 := hid hb; clear hb))
    have F4 := hid ((F2.out.below HB4.out).below (below1 w4 (.cells #[.int .i64 k9, .int .i64 a9, .int .i64 b9, .slice e9 m9 c9] 75)))
    have B4 : Hid (Below B w (w4.alloc (.cells #[.int .i64 k9, .int .i64 a9, .int .i64 b9, .slice e9 m9 c9] 75))) := hid (((BB.out.trans (HB.out.mono BW.out)).trans (HB4.out.mono (Nat.le_trans BW.out HB.out.size))).trans ((below1 _ _).mono (Nat.le_trans BW.out (Nat.le_trans HB.out.size HB4.out.size))))
    obtain ⟨V4, hV4⟩ : ∃ V, V = w4.alloc (.cells #[.int .i64 k9, .int .i64 a9, .int .i64 b9, .slice e9 m9 c9] 75) := ⟨_, rfl⟩
    rw [← hV4] at B4 F4 ⊢
    clear hV4 FV BV BB BW NK HB HB4 F2 OW BX m0 m1 m2 m3 m4 m5 ml a0 a1 a2 g0 g1 g2 al b0 b1 b2 q0 q1 q2 ql ST LA RS HF
    have OWN : (ObsG.mk (.slice (some ⟨go, 0, none⟩) (pp.length + 1) co) (pp ++ [(ObG.mk pO qO dO ⟨.slice ka ks.length kc, ks⟩ ⟨.slice va vs.length vc, vs⟩ ⟨.slice ua us.length uc, us⟩ ⟨.slice sa ss.length sc, ss⟩ ⟨.slice ra0 rs.length rc0, rs⟩)])).row.own V4 B := F4.out.own _ (by simp [SyG.rows, ObsG.rows])
    have oc6 : V4.cell? ⟨go, pp.length * 8 + 6, none⟩ = some (.slice sa ss.length sc) := ob_cell OWN 6 (by omega)
    have oc7 : V4.cell? ⟨go, pp.length * 8 + 6 + 1, none⟩ = some (.slice ra0 rs.length rc0) := ob_cell OWN 7 (by omega)
    obtain ⟨_, ogl⟩ := ob_froz OWN 0
    obtain ⟨⟨a0, a1, a2⟩, g0, g1, g2, al⟩ := three_cc (F4.out.mem_box (t := 25) (H := H3) (xs := [.int .i64 sg, (.slice (some ⟨go, 0, none⟩) (pp.length + 1) co), .slice xo ts.length xc]) (by simp))
    obtain ⟨⟨b0, b1, b2⟩, q0, q1, q2, ql⟩ := three_cc (F4.out.mem_box (t := 25) (H := H3 + 1) (xs := [.int .i64 0, nilV, nilV]) (by simp))
    clear OWN
    have U6 := hid (ln_box F4.out (.int .i64 sg) (.slice (some ⟨go, 0, none⟩) (pp.length + 1) co) (.slice xo ts.length xc))
    cases gd with
    | false =>
      go_wp2_with fail
      obtain ⟨u0, u1, u2⟩ := U6.out
      exact bodyPost_ret (v := .tuple #[.agg #[.int .i64 sg, .slice (some ⟨go, 0, none⟩) (pp.length + 1) co, .slice xo ts.length xc], .bool false]) (by simp [results, Tryz.results10, go_sem, u0, u1, u2]) rfl (ln_no B4.out B6.out NO.out F4.out (by repeat' (first | exact List.Sublist.refl _ | with_reducible refine List.Sublist.cons_cons _ ?_ | refine List.sublist_append_of_sublist_right ?_ | refine List.Sublist.cons _ ?_)) _ _ _ _ _ _ _)
    | true =>
      go_wp2_with fail
      obtain ⟨u0, u1, u2⟩ := U6.out
      exact bodyPost_ret (v := .tuple #[.agg #[.int .i64 sg, .slice (some ⟨go, 0, none⟩) (pp.length + 1) co, .slice xo ts.length xc], .bool false]) (by simp [results, Tryz.results10, go_sem, u0, u1, u2]) rfl (ln_no B4.out B6.out NO.out F4.out (by repeat' (first | exact List.Sublist.refl _ | with_reducible refine List.Sublist.cons_cons _ ?_ | refine List.sublist_append_of_sublist_right ?_ | refine List.Sublist.cons _ ?_)) _ _ _ _ _ _ _)
end Go.Proofs.YtbcjlpjohknljaaGreatDoor
