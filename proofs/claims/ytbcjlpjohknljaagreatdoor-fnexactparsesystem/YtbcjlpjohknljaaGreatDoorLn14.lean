import Derived.Test.YtbcjlpjohknljaaGreatDoorLc
namespace Go.Proofs.YtbcjlpjohknljaaGreatDoor
open Go.RowKit Go.Sort
set_option linter.unusedVariables false
set_option linter.unusedSimpArgs false
attribute [local go_sem ↓] Go.wp_at_zero Go.wp_at_succ

theorem own_tagL {w : World} {B : Nat} {e : TypeId} {size : Nat} {v : Value} {n : Nat} {xs : List Value} (h : w.ownsRow B e size v n xs) {b : Nat} {cs : Array Value} {t : TypeId} {fr : Nat × Nat} (hb : w.heap[b]? = some (.cells cs t fr)) (ht : t ≠ e) : v.ownBlock ≠ some b := by
  intro e2
  rcases h.2 with ⟨h0, _⟩ | ⟨g, cap, cur, h1, h2, h3, h4⟩
  · rw [h0] at e2; cases e2
  · rw [h1] at e2
    simp [Value.ownBlock] at e2
    subst e2
    rw [hb] at h3
    simp at h3
    exact ht h3.2.1
theorem cell_sameL {a b : World} {i : Nat} (h : b.heap[i]? = a.heap[i]?) (o : Nat) : b.cell? ⟨i, o, none⟩ = a.cell? ⟨i, o, none⟩ := by
  unfold World.cell?
  simp only []
  rw [h]
set_option maxRecDepth 100000 in
set_option maxHeartbeats 6400000 in
/-- A line that gives a variable. -/
theorem line_var (sg : Int) (ov tv : Value) (pp : List ObG) (o : ObG) (ts : List (Int × Int)) (R : List Rw) (B b off n c : Nat) (fs : List (List UInt8)) (w : World) (h : LnC (SyG.mk sg ⟨ov, pp ++ [o]⟩ ⟨tv, ts⟩) R B b off n c fs w) (kf vf : List UInt8) (hk : fs.getD 0 [] = kVar) (hq : fs.tail = [kf, vf]) (hp : 0 ≤ placeN kindsL kf 0) : Calls Tryz.prog 10 #[(SyG.mk sg ⟨ov, pp ++ [o]⟩ ⟨tv, ts⟩).val, .slice (some ⟨b, off, none⟩) (n + 1) c, .bool true] w fun e w' => LnR (SyG.mk sg ⟨ov, pp ++ [o]⟩ ⟨tv, ts⟩) R B fs true w e w' := by
  obtain ⟨pO, qO, dO, ⟨kv, ks⟩, ⟨vv, vs⟩, ⟨uv, us⟩, ⟨sv, ss⟩, ⟨rv, rs⟩⟩ := o
  obtain ⟨go, co, hov, hco, hcm, hgo, hgol⟩ := row_has (h.hF.own (ObsG.mk ov (pp ++ [⟨pO, qO, dO, ⟨kv, ks⟩, ⟨vv, vs⟩, ⟨uv, us⟩, ⟨sv, ss⟩, ⟨rv, rs⟩⟩])).row (by simp [SyG.rows, ObsG.rows])) (by simp [ObsG.row])
  simp only [ObsG.row, List.length_append, List.length_cons, List.length_nil, Nat.zero_add] at hov
  subst hov
  obtain ⟨xo, xc, htv, _, _⟩ := pairs_read (h.hF.own (TmG.mk tv ts).row (by simp [SyG.rows]))
  obtain ⟨ka, kc, hkv, _, _, _⟩ := ints_read (h.hF.own (InG.mk kv ks).row (by simp [SyG.rows, ObsG.rows, ObG.rows]))
  obtain ⟨va, vc, hvv, _, _, _⟩ := ints_read (h.hF.own (InG.mk vv vs).row (by simp [SyG.rows, ObsG.rows, ObG.rows]))
  obtain ⟨ua, uc, huv, _, _, _⟩ := ints_read (h.hF.own (InG.mk uv us).row (by simp [SyG.rows, ObsG.rows, ObG.rows]))
  obtain ⟨sa, sc, hsv, _, _, _⟩ := row_read StG.cells 4 (fun _ => rfl) (h.hF.own (StsG.mk sv ss).row (by simp [SyG.rows, ObsG.rows, ObG.rows, StsG.rows]))
  obtain ⟨ra0, rc0, hrv, _, _, _⟩ := row_read TrG.cells 5 (fun _ => rfl) (h.hF.own (TrsG.mk rv rs).row (by simp [SyG.rows, ObsG.rows, ObG.rows, TrsG.rows]))
  simp only at htv hkv hvv huv hsv hrv
  simp only [TmG.row, InG.row, StsG.row, TrsG.row] at htv hkv hvv huv hsv hrv
  subst htv hkv hvv huv hsv hrv
  have SO := h.hz.a _ (show ObG.dat (ObG.mk pO qO dO ⟨.slice ka ks.length kc, ks⟩ ⟨.slice va vs.length vc, vs⟩ ⟨.slice ua us.length uc, us⟩ ⟨.slice sa ss.length sc, ss⟩ ⟨.slice ra0 rs.length rc0, rs⟩) ∈ (SyG.dat (SyG.mk sg ⟨.slice (some ⟨go, 0, none⟩) (pp.length + 1) co, pp ++ [⟨pO, qO, dO, ⟨.slice ka ks.length kc, ks⟩, ⟨.slice va vs.length vc, vs⟩, ⟨.slice ua us.length uc, us⟩, ⟨.slice sa ss.length sc, ss⟩, ⟨.slice ra0 rs.length rc0, rs⟩⟩]⟩ ⟨.slice xo ts.length xc, ts⟩)).obs by simp [SyG.dat])
  have NS := hid SO
  have hpl : pp.length + 1 ≤ 1048577 := by have := h.hz.o; simp [SyG.dat] at this; omega
  have hp0 : ¬ ((pp.length : Int) + 1 = 0) := by omega
  have hp1 : ((pp.length : Int) + 1 == 0) = false := by simp; omega
  clear SO
  have hn3 : n = 2 := by
    have h1 := congrArg List.length hq
    rw [List.length_tail, h.hs.1] at h1
    simp at h1
    exact h1
  have HN := hid hn3
  clear hn3
  have LW : Hid (lineW (SyG.dat (SyG.mk sg ⟨.slice (some ⟨go, 0, none⟩) (pp.length + 1) co, pp ++ [⟨pO, qO, dO, ⟨.slice ka ks.length kc, ks⟩, ⟨.slice va vs.length vc, vs⟩, ⟨.slice ua us.length uc, us⟩, ⟨.slice sa ss.length sc, ss⟩, ⟨.slice ra0 rs.length rc0, rs⟩⟩]⟩ ⟨.slice xo ts.length xc, ts⟩)) (fs.getD 0 []) fs.tail true = match num? vf with
      | some z => oneOb (SyG.dat (SyG.mk sg ⟨.slice (some ⟨go, 0, none⟩) (pp.length + 1) co, pp ++ [⟨pO, qO, dO, ⟨.slice ka ks.length kc, ks⟩, ⟨.slice va vs.length vc, vs⟩, ⟨.slice ua us.length uc, us⟩, ⟨.slice sa ss.length sc, ss⟩, ⟨.slice ra0 rs.length rc0, rs⟩⟩]⟩ ⟨.slice xo ts.length xc, ts⟩)) (fun o => { o with kinds := o.kinds ++ [1 + placeN kindsL kf 0], vals := o.vals ++ [z] })
      | none => none) := hid (by rw [hk, lineW_var, hq]; simp only [if_neg (show ¬ placeN kindsL kf 0 < 0 by omega)]; cases num? vf <;> rfl)
  obtain ⟨i0, hi, hz0, hz1, hz2⟩ := info_parts Tryz.infoI
  obtain ⟨sbc, hsb⟩ := h.ht
  obtain ⟨c0, hbl, hT⟩ := h.hs.one
  have HT := hid hT
  have HC := hid h
  have hn := h.hn
  have hc := h.hc
  have TL : fs.tail.length = n := by rw [List.length_tail, h.hs.1]; omega
  obtain ⟨t, ht⟩ : ∃ t : ByteArray, t = ⟨(fs.getD 0 []).toArray⟩ := ⟨_, rfl⟩
  have c1 : w.cell? ⟨b, off, none⟩ = some (.string t) := by rw [ht]; exact c0
  have hbt : fs.getD 0 [] = bl t := ba_bl.1 ht.symm
  clear c0 ht
  obtain rfl : t = ⟨#[118, 97, 114]⟩ := by rw [hk] at hbt; exact (ba_bl.2 hbt).symm
  clear hbt
  have FV := hid (h.boxes (.int .i64 sg) (.slice (some ⟨go, 0, none⟩) (pp.length + 1) co) (.slice xo ts.length xc))
  have BV := hid (below2 w (sysO (.int .i64 sg) (.slice (some ⟨go, 0, none⟩) (pp.length + 1) co) (.slice xo ts.length xc)) (sysO (.int .i64 0) nilV nilV))
  have SV : Hid (((w.alloc (sysO (.int .i64 sg) (.slice (some ⟨go, 0, none⟩) (pp.length + 1) co) (.slice xo ts.length xc))).alloc (sysO (.int .i64 0) nilV nilV)).heap.size = w.heap.size + 2) := hid (by simp)
  clear h hT
  simp only [SyG.val]
  go_enter Tryz.func10, Tryz.ntmps10
  go_upto_region 1 with fail
  obtain ⟨V, hV⟩ : ∃ V, V = (w.alloc (sysO (.int .i64 sg) (.slice (some ⟨go, 0, none⟩) (pp.length + 1) co) (.slice xo ts.length xc))).alloc (sysO (.int .i64 0) nilV nilV) := ⟨_, rfl⟩
  rw [← hV] at FV BV SV ⊢
  obtain ⟨H3, e3⟩ : ∃ H, H = w.heap.size := ⟨_, rfl⟩
  have E3 := hid e3
  rw [← e3] at FV SV ⊢
  have k0 := (BV.out.cell (p := ⟨b, off, none⟩) hbl).trans c1
  clear c1 e3 hV
  go_upto_region 2 with fail
  go_cut [9] from 29 to 30 (fun r wx => ∃ ao cp, r = .slice ao n cp ∧ n ≤ cp ∧ StrsOf w ao n fs.tail ∧ wx = V ∧ (ao = some ⟨b, off + 1, none⟩ ∨ n = 0))
  case first =>
    by_cases hc1 : c = 1
    · have hn0 : n = 0 := by omega
      subst hn0
      subst hc1
      go_wp2_with fail
      go_meet
      exact ⟨_, _, rfl, Nat.le_refl _, HT.out _ (by simp), rfl, by simp⟩
    · go_wp2_with fail
      go_meet
      exact ⟨_, _, rfl, by omega, HT.out _ (.inl rfl), rfl, .inl rfl⟩
  case rest =>
    obtain ⟨ra, rc, rfl, hrc, hrs, hV, hra⟩ := hcut
    subst hV
    have RS := hid hrs
    have HF : Hid (∀ f ∈ fs.tail, f.length ≤ 1048576) := hid (fun f hf => HC.out.hf f (List.mem_of_mem_tail hf))
    obtain ⟨⟨a0, a1, a2⟩, g0, g1, g2, al⟩ := three_cc (FV.out.mem_box (t := 25) (H := H3) (xs := [.int .i64 sg, .slice (some ⟨go, 0, none⟩) (pp.length + 1) co, .slice xo ts.length xc]) (by simp))
    obtain ⟨⟨b0, b1, b2⟩, q0, q1, q2, ql⟩ := three_cc (FV.out.mem_box (t := 25) (H := H3 + 1) (xs := [.int .i64 0, nilV, nilV]) (by simp))
    clear hrs k0
    have NU : Hid (∀ (k : Nat) W, k ≤ 100 → Below w.heap.size w W → Calls Tryz.prog 19 #[.slice ra n rc, .int .i64 (k : Int)] W fun e w' => (∃ v, e = .returned (.tuple #[v, .bool (numsN fs.tail k).isSome]) ∧ (∃ a l c, v = .slice a l c) ∧ ∀ zs, numsN fs.tail k = some zs → IntRow w' W.heap.size v zs) ∧ Below W.heap.size W w') := hid (fun k W hk hW => l5Numbers_any ra n rc k fs.tail W (by omega) hk HF.out (RS.out.below hW))
    have BB : Hid (Below B w wc) := hid (BV.out.mono HC.out.hB)
    have B6 : Hid (B ≤ H3 + 1) := hid (by have := HC.out.hB; have := E3.out; omega)
    have H3B : Hid (B ≤ H3) := hid (by have := HC.out.hB; have := E3.out; omega)
    have BW : Hid (B ≤ wc.heap.size) := hid (Nat.le_trans HC.out.hB BV.out.size)
    have HGO : Hid (B ≤ go) := hid hgo
    obtain rfl := HN.out
    have hra2 : ra = some ⟨b, off + 1, none⟩ := by rcases hra with e | e; exact e; omega
    subst hra2
    obtain ⟨rb, roff, erb, hrbl, hrcell⟩ := RS.out.2 (by omega)
    simp only [Option.some.injEq, Addr.mk.injEq, and_true] at erb
    obtain ⟨rfl, rfl⟩ := erb
    have r0 := hrcell 0 (by omega)
    have r1 := hrcell 1 (by omega)
    rw [hq] at r0 r1
    obtain ⟨kt, hkt⟩ : ∃ t : ByteArray, t = ⟨kf.toArray⟩ := ⟨_, rfl⟩
    obtain ⟨vt, hvt⟩ : ∃ t : ByteArray, t = ⟨vf.toArray⟩ := ⟨_, rfl⟩
    have r0 : w.cell? ⟨b, off + 1, none⟩ = some (.string kt) := by rw [hkt]; exact r0
    have r1 : w.cell? ⟨b, off + 1 + 1, none⟩ = some (.string vt) := by rw [hvt]; exact r1
    have ekf : kf = bl kt := ba_bl.1 hkt.symm
    have evf : vf = bl vt := ba_bl.1 hvt.symm
    have vl : vt.size ≤ 1048576 := by rw [← bl_len, ← evf]; exact HF.out vf (by rw [hq]; simp)
    have NM := hid (fun W => kindsN_any W)
    obtain ⟨pl, hpl0⟩ : ∃ p, p = placeN kindsL kf 0 := ⟨_, rfl⟩
    have PL : Hid (∀ W g, StrsOf W (some ⟨g, 0, none⟩) 7 kindsL → Calls Tryz.prog 21 #[.slice (some ⟨g, 0, none⟩) 7 7, .string kt] W fun e w' => e = .returned (.int .i64 pl) ∧ w' = W) := hid (fun W g h => by rw [hpl0, ekf]; exact l5Place_any (some ⟨g, 0, none⟩) 7 7 kindsL kt W (by omega) h)
    have hp7 : pl < 7 := by have := placeN_lt kindsL kf 0; rw [← hpl0] at this; simpa [kindsL] using this
    rw [← hpl0] at hp LW
    have hpn : ¬ pl < 0 := by omega
    have NB : Hid (∀ W, Calls Tryz.prog 23 #[.string vt] W fun e w' => numR vf e ∧ Below W.heap.size W w') := hid (fun W => by rw [evf]; exact l5Number_any vt W vl)
    have CB : Hid (∀ Y, Below w.heap.size w Y → Y.cell? ⟨b, off + 1, none⟩ = some (.string kt) ∧ Y.cell? ⟨b, off + 1 + 1, none⟩ = some (.string vt)) := hid (fun Y hY => ⟨(hY.cell (p := ⟨b, off + 1, none⟩) hrbl).trans r0, (hY.cell (p := ⟨b, off + 1 + 1, none⟩) hrbl).trans r1⟩)
    have LA : Hid (∀ W, Calls Tryz.prog 20 #[.string ⟨#[118, 97, 114]⟩] W fun e w' => e = .returned (.int .i64 0) ∧ w' = W) := hid (fun W => by
      have h1 := leading_any ⟨#[118, 97, 114]⟩ W
      rw [show lead (bl ⟨#[118, 97, 114]⟩) = 0 from rfl] at h1
      exact h1)
    have NK : Hid (∀ W, Below w.heap.size w W → Calls Tryz.prog 19 #[.slice (some ⟨b, off + 1, none⟩) 2 rc, .int .i64 0] W fun e w' => (∃ v, e = .returned (.tuple #[v, .bool true]) ∧ (∃ a l c, v = .slice a l c)) ∧ Below W.heap.size W w') := hid (fun W hW => by
      have h1 := NU.out 0 W (by omega) hW
      rw [show numsN fs.tail 0 = some [] by simp [numsN, nums]] at h1
      exact h1.mono (by rintro e w' ⟨⟨v, h1, h2, _⟩, h3⟩; exact ⟨⟨v, h1, h2⟩, h3⟩))
    clear NU TL hq hk hrcell r0 r1 hkt hvt ekf evf hpl0 RS
    have F2x : Hid (∀ Y, Below wc.heap.size wc Y → (ObsG.mk (.slice (some ⟨go, 0, none⟩) (pp.length + 1) co) (pp ++ [(ObG.mk pO qO dO ⟨.slice ka ks.length kc, ks⟩ ⟨.slice va vs.length vc, vs⟩ ⟨.slice ua us.length uc, us⟩ ⟨.slice sa ss.length sc, ss⟩ ⟨.slice ra0 rs.length rc0, rs⟩)])).row.own Y B) := hid (fun Y hY => (FV.out.below hY).own _ (by simp [SyG.rows, ObsG.rows]))
    go_upto_region 28 with (first
        | (go_at_call 20; refine (LA.out _).mono ?_; rintro e w1 ⟨rfl, hw1⟩; obtain rfl := hw1.symm)
        | (go_at_call 19; refine (NK.out _ BV.out).mono ?_; rintro e w2 ⟨⟨v, rfl, ⟨a7, l7, p7, rfl⟩⟩, hb⟩; have HB := hid hb; have BX := hid (BV.out.trans (hb.mono BV.out.size)); have F2 := hid (FV.out.below hb); obtain ⟨⟨m0, m1, m2⟩, m3, m4, m5, ml⟩ := three_cc (F2.out.mem_box (t := 25) (H := H3) (xs := [.int .i64 sg, .slice (some ⟨go, 0, none⟩) (pp.length + 1) co, .slice xo ts.length xc]) (by simp)); clear hb))
    have FN := F2
    have B2 : Hid (Below B w w2) := hid (BB.out.trans (HB.out.mono BW.out))
    have Z2 : Hid (B ≤ w2.heap.size) := hid (Nat.le_trans HC.out.hB B2.out.size)
    clear F2 m0 m1 m2 m3 m4 m5 ml a0 a1 a2 g0 g1 g2 al b0 b1 b2 q0 q1 q2 ql NK LA FV BV BB BW
    go_cut [144] (fun c wx => c = .bool false ∧ Below w2.heap.size w2 wx)
    case first =>
      obtain ⟨k0, k1⟩ := CB.out _ BX.out
      go_region_held3 (fun X => X.cell? ⟨b, off + 1, none⟩ = some (.string kt)) (first | (with_reducible exact KX.out) | go_keep)
        (first
          | (go_at_call 22; refine (NM.out _).mono ?_; rintro e w6 ⟨g6, rfl, hs6, hb6⟩; have S6 := hid hs6; have Q6 : Hid (Below w2.heap.size w2 w6) := hid ((Below.refl _ _).drew.trans hb6); have KX := hid (CB.out _ (BX.out.trans (Q6.out.mono BX.out.size))).1; clear hs6 hb6)
          | (go_at_call 21; with_reducible refine (PL.out _ _ S6.out).mono ?_; rintro e w7 ⟨rfl, hw7⟩; obtain rfl := hw7.symm))
      all_goals
        go_wp2_with fail
        go_meet
        exact ⟨by simp [hpn], Q6.out⟩
    case rest =>
    obtain ⟨rfl, hb8⟩ := hcut
    obtain ⟨w3, hw3⟩ : ∃ W, W = wc := ⟨_, rfl⟩
    subst hw3
    have F3 := hid (FN.out.below hb8)
    have B3 : Hid (Below B w w3) := hid (B2.out.trans (hb8.mono Z2.out))
    have BX3 : Hid (Below w.heap.size w w3) := hid (BX.out.trans (hb8.mono BX.out.size))
    clear FN B2 Z2 BX hb8
    obtain ⟨k0, k1⟩ := CB.out _ BX3.out
    go_upto_region 31 with (go_at_call 23; refine (NB.out _).mono ?_; rintro e w4 ⟨⟨zn, rfl, hzn⟩, hb⟩; have HZN := hid hzn; have HB4 := hid hb; clear hzn hb)
    have F4 := hid (F3.out.below HB4.out)
    have B4 : Hid (Below B w w4) := hid (B3.out.trans (HB4.out.mono (Nat.le_trans HC.out.hB B3.out.size)))
    have BX4 : Hid (Below w.heap.size w w4) := hid (BX3.out.trans (HB4.out.mono BX3.out.size))
    have Z4 : Hid (B ≤ w4.heap.size) := hid (Nat.le_trans HC.out.hB B4.out.size)
    clear F3 B3 BX3 HB4 k0 k1 NB
    have LK : ks.length ≤ 1048576 := NS.out.k
    have LV : vs.length ≤ 1048576 := NS.out.v
    have wp1 : IntKind.i64.wrap (1 + pl) = 1 + pl := IntWalk.i64_in _ (by omega)
    have FW : Hid (Flat w4 B ((InG.mk (.slice ka ks.length kc) ks).row :: (ObsG.mk (.slice (some ⟨go, 0, none⟩) (pp.length + 1) co) (pp ++ [(ObG.mk pO qO dO ⟨.slice ka ks.length kc, ks⟩ ⟨.slice va vs.length vc, vs⟩ ⟨.slice ua us.length uc, us⟩ ⟨.slice sa ss.length sc, ss⟩ ⟨.slice ra0 rs.length rc0, rs⟩)])).row :: (sysB (H3 + 1) (.int .i64 0) nilV nilV :: sysB H3 (.int .i64 sg) (.slice (some ⟨go, 0, none⟩) (pp.length + 1) co) (.slice xo ts.length xc) :: (InG.mk (.slice va vs.length vc) vs).row :: (InG.mk (.slice ua us.length uc) us).row :: ((StsG.mk (.slice sa ss.length sc) ss).rows ++ ((TrsG.mk (.slice ra0 rs.length rc0) rs).rows ++ (pp.flatMap ObG.rows ++ (TmG.mk (.slice xo ts.length xc) ts).row :: R)))))) := hid (F4.out.perm (by
        refine perm_count fun f g hf => ?_
        simp only [SyG.rows, ObsG.rows, ObsG.row, ob1, ObG.rows, InG.row, StsG.rows, TrsG.rows, StsG.row, TrsG.row, TmG.row, StG.rows, TrG.rows, SmsG.rows, SmsG.row, itC_append, itC, List.map_append, List.map_cons, List.flatMap_append, List.flatMap_cons, List.flatMap_nil, List.append_nil, List.length_append, List.length_cons, List.length_nil, List.map_nil, List.cons_append, List.nil_append, hf.c, hf.a, hf.z, Nat.zero_add]
        omega))
    have CS : Hid (∀ X, Flat X B ((ObsG.mk (.slice (some ⟨go, 0, none⟩) (pp.length + 1) co) (pp ++ [(ObG.mk pO qO dO ⟨.slice ka ks.length kc, ks⟩ ⟨.slice va vs.length vc, vs⟩ ⟨.slice ua us.length uc, us⟩ ⟨.slice sa ss.length sc, ss⟩ ⟨.slice ra0 rs.length rc0, rs⟩)])).row :: (sysB (H3 + 1) (.int .i64 0) nilV nilV :: sysB H3 (.int .i64 sg) (.slice (some ⟨go, 0, none⟩) (pp.length + 1) co) (.slice xo ts.length xc) :: (InG.mk (.slice va vs.length vc) vs).row :: (InG.mk (.slice ua us.length uc) us).row :: ((StsG.mk (.slice sa ss.length sc) ss).rows ++ ((TrsG.mk (.slice ra0 rs.length rc0) rs).rows ++ (pp.flatMap ObG.rows ++ (TmG.mk (.slice xo ts.length xc) ts).row :: R))))) → X.cell? ⟨b, off + 1, none⟩ = some (.string kt) → X.cell? ⟨go, pp.length * 8 + 3, none⟩ = some (.slice ka ks.length kc) ∧ X.cell? ⟨b, off + 1, none⟩ = some (.string kt)) := hid (fun X hX hb => ⟨ob_cell hX.head 3 (by omega), hb⟩)
    have KD : Hid (w4.drew.cell? ⟨go, pp.length * 8 + 3, none⟩ = some (.slice ka ks.length kc) ∧ w4.drew.cell? ⟨b, off + 1, none⟩ = some (.string kt)) := hid (CS.out _ FW.out.tail.drew (CB.out _ BX4.out.drew).1)
    clear F4
    refine wp_region_noPanic ?_
    refine wp_region_till (st := 17) (S := fun u => u.cell? ⟨go, pp.length * 8 + 3, none⟩ = some (.slice ka ks.length kc) ∧ u.cell? ⟨b, off + 1, none⟩ = some (.string kt)) (by kernel_rfl) ?_
    refine wpTill_take (i := 0) (d := some 153) (v := ?_) rfl rfl (by kernel_rfl) (by kernel_rfl) (by kernel_rfl) (by kernel_rfl) (by kernel_rfl) (fun _ _ _ h => h) (Or.inl ⟨by rfl, ?_⟩) KD.out ?_
    case refine_2 => (intro u hu; obtain ⟨s0, s1⟩ := hu; go_simp; first | done | with_reducible rfl)
    simp only [Act.put, List.setIfInBounds_toArray, List.set_cons_zero, List.set_cons_succ]
    refine wpTill_take (i := 1) (d := some 154) (v := ?_) rfl rfl (by kernel_rfl) (by kernel_rfl) (by kernel_rfl) (by kernel_rfl) (by kernel_rfl) (fun _ _ _ h => h) (Or.inl ⟨by rfl, ?_⟩) KD.out ?_
    case refine_2 => (intro u hu; obtain ⟨s0, s1⟩ := hu; go_simp; first | done | with_reducible rfl)
    simp only [Act.put, List.setIfInBounds_toArray, List.set_cons_zero, List.set_cons_succ]
    refine wpTill_take (i := 2) (d := some 155) (v := ?_) rfl rfl (by kernel_rfl) (by kernel_rfl) (by kernel_rfl) (by kernel_rfl) (by kernel_rfl) (fun _ _ _ h => h) (Or.inl ⟨by rfl, ?_⟩) KD.out ?_
    case refine_2 => (intro u hu; obtain ⟨s0, s1⟩ := hu; go_simp; first | done | with_reducible rfl)
    simp only [Act.put, List.setIfInBounds_toArray, List.set_cons_zero, List.set_cons_succ]
    refine wpTill_take (i := 3) (d := some 156) (v := ?_) rfl rfl (by kernel_rfl) (by kernel_rfl) (by kernel_rfl) (by kernel_rfl) (by kernel_rfl) (fun _ _ _ h => h) (Or.inl ⟨by rfl, ?_⟩) KD.out ?_
    case refine_2 => (intro u hu; obtain ⟨s0, s1⟩ := hu; go_simp; first | done | with_reducible rfl)
    simp only [Act.put, List.setIfInBounds_toArray, List.set_cons_zero, List.set_cons_succ]
    refine wpTill_take (i := 4) (d := some 157) (v := ?_) rfl rfl (by kernel_rfl) (by kernel_rfl) (by kernel_rfl) (by kernel_rfl) (by kernel_rfl) (fun _ _ _ h => h) (Or.inl ⟨by rfl, ?_⟩) KD.out ?_
    case refine_2 => (intro u hu; obtain ⟨s0, s1⟩ := hu; go_simp; first | done | with_reducible rfl)
    simp only [Act.put, List.setIfInBounds_toArray, List.set_cons_zero, List.set_cons_succ]
    refine wpTill_take (i := 5) (d := some 158) (v := ?_) rfl rfl (by kernel_rfl) (by kernel_rfl) (by kernel_rfl) (by kernel_rfl) (by kernel_rfl) (fun _ _ _ h => h) (Or.inl ⟨by rfl, ?_⟩) KD.out ?_
    case refine_2 => (intro u hu; obtain ⟨s0, s1⟩ := hu; go_simp; first | done | with_reducible rfl)
    simp only [Act.put, List.setIfInBounds_toArray, List.set_cons_zero, List.set_cons_succ]
    refine wpTill_take (i := 7) (d := some 160) (v := ?_) rfl rfl (by kernel_rfl) (by kernel_rfl) (by kernel_rfl) (by kernel_rfl) (by kernel_rfl) (fun _ _ _ h => h) (Or.inl ⟨by rfl, ?_⟩) KD.out ?_
    case refine_2 => (intro u hu; obtain ⟨s0, s1⟩ := hu; go_simp; first | done | with_reducible rfl)
    simp only [Act.put, List.setIfInBounds_toArray, List.set_cons_zero, List.set_cons_succ]
    refine wpTill_take (i := 8) (d := some 161) (v := ?_) rfl rfl (by kernel_rfl) (by kernel_rfl) (by kernel_rfl) (by kernel_rfl) (by kernel_rfl) (fun _ _ _ h => h) (Or.inl ⟨by rfl, ?_⟩) KD.out ?_
    case refine_2 => (intro u hu; obtain ⟨s0, s1⟩ := hu; go_simp; first | done | with_reducible rfl)
    simp only [Act.put, List.setIfInBounds_toArray, List.set_cons_zero, List.set_cons_succ]
    refine wpTill_take (i := 9) (d := some 162) (v := ?_) rfl rfl (by kernel_rfl) (by kernel_rfl) (by kernel_rfl) (by kernel_rfl) (by kernel_rfl) (fun _ _ _ h => h) (Or.inl ⟨by rfl, ?_⟩) KD.out ?_
    case refine_2 => (intro u hu; obtain ⟨s0, s1⟩ := hu; go_simp; first | done | with_reducible rfl)
    simp only [Act.put, List.setIfInBounds_toArray, List.set_cons_zero, List.set_cons_succ]
    refine wpTill_step (i := 6) (by kernel_rfl) rfl (fun K hK => ?_)
    go_simp
    go_wp2_with (go_at_call 22; refine (NM.out _).mono ?_; rintro e w6 ⟨g6, rfl, hs6, hb6⟩; have S6 := hid hs6; have HB6 : Hid (Below w4.heap.size w4 w6) := hid ((Below.refl _ _).drew.trans hb6); clear hs6 hb6)
    have F6a := hid (FW.out.below HB6.out)
    have BX6 : Hid (Below w.heap.size w w6) := hid (BX4.out.trans (HB6.out.mono BX4.out.size))
    have B6a : Hid (Below B w w6) := hid (B4.out.trans (HB6.out.mono Z4.out))
    have Z6 : Hid (B ≤ w6.heap.size) := hid (Nat.le_trans HC.out.hB B6a.out.size)
    have K6 := hid (CS.out w6 F6a.out.tail (CB.out _ BX6.out).1)
    refine hK _ _ K6.out ?_
    clear hK K
    refine wpTill_step (i := 10) (by kernel_rfl) rfl (fun K hK => ?_)
    go_simp
    go_wp2_with (go_at_call 21; with_reducible refine (PL.out _ _ S6.out).mono ?_; rintro e w7 ⟨rfl, hw7⟩; obtain rfl := hw7.symm)
    refine hK _ _ K6.out ?_
    clear hK K
    refine wpTill_step (i := 11) (by kernel_rfl) rfl (fun K hK => ?_)
    go_simp
    refine hK _ _ K6.out ?_
    clear hK K
    obtain ⟨U, hU⟩ : ∃ U, U = w6.alloc (.cells #[.int .i64 (1 + pl)] 3) := ⟨_, rfl⟩
    have BU : Hid (Below w6.heap.size w6 U) := hid (by rw [hU]; exact below1 _ _)
    have FU := hid (F6a.out.below BU.out)
    have KU := hid (CS.out U FU.out.tail (CB.out _ (BX6.out.trans (BU.out.mono BX6.out.size))).1)
    have NWU : Hid (∀ j u, [Value.int .i64 (1 + pl)][j]? = some u → U.cell? ((⟨w6.heap.size, 0, none⟩ : Addr).add j) = some u) := hid (World.news_of_block (cs := #[.int .i64 (1 + pl)]) (by rw [hU]; exact heap_alloc_new w6 _))
    have ZU : Hid (B ≤ U.heap.size) := hid (Nat.le_trans Z6.out BU.out.size)
    have SBU : Hid (U.heap[b]? = some (.cells sbc 9 (0, 0))) := hid (block_below (block_below hsb BX6.out) BU.out)
    refine wpTill_step (i := 12) (by kernel_rfl) rfl (fun K hK => ?_)
    go_simp
    rw [← hU]
    refine hK _ _ KU.out ?_
    clear hU hK K
    refine wpTill_step (i := 13) (by kernel_rfl) rfl (fun K hK => ?_)
    refine step_append_lies _ (by rfl) _ _ _ (by rfl) B 3 i0 _ 1 8 Tryz.underlying46 hi hz0 hz1 hz2 rfl (by omega) (.slice ka ks.length kc) ks.length (ks.map (Value.int .i64)) (by simp [Act.eval]) FU.out.head ⟨w6.heap.size, 0, none⟩ 1 1 [.int .i64 (1 + pl)] (by simp [Act.eval]) (by simp) NWU.out (one_int _) (by omega) (by unfold maxLen; omega) (by omega) ZU.out U.heap.size rfl ?_
    intro gg cap5 w5 hown hgrow hat hlt5
    have F5 := hid (FU.out.app hgrow hown hat)
    have K5 := hid (CS.out w5 F5.out.tail (by
      have hne := own_tagL FU.out.head SBU.out (show (9 : TypeId) ≠ 3 by decide)
      exact (cell_sameL (hgrow.block b (lt_of_block SBU.out) (fun e => hne e.symm)) _).trans KU.out.2))
    have G5 : Hid (Below B U w5) := hid ((Below.refl B U).grown hgrow ZU.out (fun k hk => (FU.out.head.lt k hk).1))
    clear hown hgrow hat
    refine hK _ _ K5.out ?_
    clear hK K
    refine wpTill_step (i := 14) (by kernel_rfl) rfl (fun K hK => ?_)
    go_simp
    refine hK _ _ K5.out ?_
    clear hK K
    refine wpTill_step (i := 15) (by kernel_rfl) rfl (fun K hK => ?_)
    go_simp
    refine hK _ _ K5.out ?_
    clear hK K
    refine wpTill_step (i := 16) (by kernel_rfl) rfl (fun K hK => ?_)
    go_simp
    refine hK _ _ K5.out ?_
    clear hK K
    have c5 : w5.cell? ⟨go, pp.length * 8 + 3, none⟩ = some (.slice ka ks.length kc) := ob_cell F5.out.tail.head 3 (by omega)
    obtain ⟨fz5, fl5⟩ := ob_froz F5.out.tail.head (pp.length * 8 + 3)
    refine wpTill_last (by kernel_rfl) rfl (by kernel_rfl) (fun K hK => ?_)
    go_simp
    refine hK _ _ ?_
    clear hK K
    refine wpTill_done (by kernel_rfl) ?_ _
    refine NoPanic.normal ?_
    have F6 : Hid (Flat (w5.setCell ⟨go, pp.length * 8 + 3, none⟩ (.slice (some ⟨gg, 0, none⟩) (ks.length + 1) cap5)) B ((ObsG.mk (.slice (some ⟨go, 0, none⟩) (pp.length + 1) co) (pp ++ [(ObG.mk pO qO dO ⟨(.slice (some ⟨gg, 0, none⟩) (ks.length + 1) cap5), ks ++ [1 + pl]⟩ ⟨.slice va vs.length vc, vs⟩ ⟨.slice ua us.length uc, us⟩ ⟨.slice sa ss.length sc, ss⟩ ⟨.slice ra0 rs.length rc0, rs⟩)])).row :: (⟨3, 1, (.slice (some ⟨gg, 0, none⟩) (ks.length + 1) cap5), ks.length + 1, ks.map (Value.int .i64) ++ [.int .i64 (1 + pl)]⟩ : Rw) :: (sysB (H3 + 1) (.int .i64 0) nilV nilV :: sysB H3 (.int .i64 sg) (.slice (some ⟨go, 0, none⟩) (pp.length + 1) co) (.slice xo ts.length xc) :: (InG.mk (.slice va vs.length vc) vs).row :: (InG.mk (.slice ua us.length uc) us).row :: ((StsG.mk (.slice sa ss.length sc) ss).rows ++ ((TrsG.mk (.slice ra0 rs.length rc0) rs).rows ++ (pp.flatMap ObG.rows ++ (TmG.mk (.slice xo ts.length xc) ts).row :: R)))))) := hid (ob_set (o' := (ObG.mk pO qO dO ⟨(.slice (some ⟨gg, 0, none⟩) (ks.length + 1) cap5), ks ++ [1 + pl]⟩ ⟨.slice va vs.length vc, vs⟩ ⟨.slice ua us.length uc, us⟩ ⟨.slice sa ss.length sc, ss⟩ ⟨.slice ra0 rs.length rc0, rs⟩)) F5.out.swap 3 (.slice (some ⟨gg, 0, none⟩) (ks.length + 1) cap5) (by omega) rfl)
    have F7 : Hid (Flat (w5.setCell ⟨go, pp.length * 8 + 3, none⟩ (.slice (some ⟨gg, 0, none⟩) (ks.length + 1) cap5)) B ((InG.mk (.slice va vs.length vc) vs).row :: (ObsG.mk (.slice (some ⟨go, 0, none⟩) (pp.length + 1) co) (pp ++ [(ObG.mk pO qO dO ⟨(.slice (some ⟨gg, 0, none⟩) (ks.length + 1) cap5), ks ++ [1 + pl]⟩ ⟨.slice va vs.length vc, vs⟩ ⟨.slice ua us.length uc, us⟩ ⟨.slice sa ss.length sc, ss⟩ ⟨.slice ra0 rs.length rc0, rs⟩)])).row :: (sysB (H3 + 1) (.int .i64 0) nilV nilV :: sysB H3 (.int .i64 sg) (.slice (some ⟨go, 0, none⟩) (pp.length + 1) co) (.slice xo ts.length xc) :: (InG.mk (.slice (some ⟨gg, 0, none⟩) (ks.length + 1) cap5) (ks ++ [1 + pl])).row :: (InG.mk (.slice ua us.length uc) us).row :: ((StsG.mk (.slice sa ss.length sc) ss).rows ++ ((TrsG.mk (.slice ra0 rs.length rc0) rs).rows ++ (pp.flatMap ObG.rows ++ (TmG.mk (.slice xo ts.length xc) ts).row :: R)))))) := hid (F6.out.perm (by
        refine perm_count fun f g hf => ?_
        simp only [SyG.rows, ObsG.rows, ObsG.row, ob1, ObG.rows, InG.row, StsG.rows, TrsG.rows, StsG.row, TrsG.row, TmG.row, StG.rows, TrG.rows, SmsG.rows, SmsG.row, itC_append, itC, List.map_append, List.map_cons, List.flatMap_append, List.flatMap_cons, List.flatMap_nil, List.append_nil, List.length_append, List.length_cons, List.length_nil, List.map_nil, List.cons_append, List.nil_append, hf.c, hf.a, hf.z, Nat.zero_add]
        omega))
    have B5 : Hid (Below B w (w5.setCell ⟨go, pp.length * 8 + 3, none⟩ (.slice (some ⟨gg, 0, none⟩) (ks.length + 1) cap5))) := hid (((B6a.out.trans (BU.out.mono Z6.out)).trans G5.out).setCell (p := ⟨go, _, none⟩) HGO.out _)
    clear F5 F6 FU FW K5 KU NWU CS K6 KD c5 fz5 fl5 F6a BU G5 ZU SBU Z6 B6a BX6 BX4 B4 Z4 S6 HB6 CB NM PL hlt5
    obtain ⟨Y, hY⟩ : ∃ Y, Y = (w5.setCell ⟨go, pp.length * 8 + 3, none⟩ (.slice (some ⟨gg, 0, none⟩) (ks.length + 1) cap5)) := ⟨_, rfl⟩
    rw [← hY] at F7 B5 ⊢
    clear hY
    have ZY : Hid (B ≤ Y.heap.size) := hid (Nat.le_trans HC.out.hB B5.out.size)
    have c4 : Y.cell? ⟨go, pp.length * 8 + 4, none⟩ = some (.slice va vs.length vc) := ob_cell F7.out.tail.head 4 (by omega)
    obtain ⟨fz4, fl4⟩ := ob_froz F7.out.tail.head (pp.length * 8 + 4)
    have FA := hid (F7.out.below (below1 Y (.cells #[.int .i64 zn] 3)))
    have NWY : Hid (∀ j u, [Value.int .i64 zn][j]? = some u → (Y.alloc (.cells #[.int .i64 zn] 3)).cell? ((⟨Y.heap.size, 0, none⟩ : Addr).add j) = some u) := hid (World.news_of_block (cs := #[.int .i64 zn]) (heap_alloc_new Y _))
    have ZA : Hid (B ≤ (Y.alloc (.cells #[.int .i64 zn] 3)).heap.size) := hid (Nat.le_trans ZY.out (below1 _ _).size)
    go_upto_region 33 with (at_builtin; refine wpList_append_lies _ rfl (.tmp 175) (.tmp 177) 46 rfl B 3 i0 _ 1 8 Tryz.underlying46 hi hz0 hz1 hz2 rfl (by omega) (.slice va vs.length vc) vs.length (vs.map (Value.int .i64)) rfl FA.out.head ⟨Y.heap.size, 0, none⟩ 1 1 [.int .i64 zn] rfl rfl NWY.out (one_int _) (by omega) (by unfold maxLen; omega) (by omega) ZA.out (Y.alloc (.cells #[.int .i64 zn] 3)).heap.size rfl ?_; intro g2 cap2 w9 hown hgrow hat hlt9; have F9 := hid (FA.out.app hgrow hown hat); have G9 : Hid (Below B (Y.alloc (.cells #[.int .i64 zn] 3)) w9) := hid ((Below.refl B _).grown hgrow ZA.out (fun k hk => (FA.out.head.lt k hk).1)); have c9 : w9.cell? ⟨go, pp.length * 8 + 4, none⟩ = some (.slice va vs.length vc) := ob_cell F9.out.tail.head 4 (by omega); obtain ⟨fz9, fl9⟩ := ob_froz F9.out.tail.head (pp.length * 8 + 4); clear hown hgrow hat hlt9)
    have FX : Hid (Flat (w9.setCell ⟨go, pp.length * 8 + 4, none⟩ (.slice (some ⟨g2, 0, none⟩) (vs.length + 1) cap2)) B ((ObsG.mk (.slice (some ⟨go, 0, none⟩) (pp.length + 1) co) (pp ++ [(ObG.mk pO qO dO ⟨(.slice (some ⟨gg, 0, none⟩) (ks.length + 1) cap5), ks ++ [1 + pl]⟩ ⟨(.slice (some ⟨g2, 0, none⟩) (vs.length + 1) cap2), vs ++ [zn]⟩ ⟨.slice ua us.length uc, us⟩ ⟨.slice sa ss.length sc, ss⟩ ⟨.slice ra0 rs.length rc0, rs⟩)])).row :: (⟨3, 1, (.slice (some ⟨g2, 0, none⟩) (vs.length + 1) cap2), vs.length + 1, vs.map (Value.int .i64) ++ [.int .i64 zn]⟩ : Rw) :: (sysB (H3 + 1) (.int .i64 0) nilV nilV :: sysB H3 (.int .i64 sg) (.slice (some ⟨go, 0, none⟩) (pp.length + 1) co) (.slice xo ts.length xc) :: (InG.mk (.slice (some ⟨gg, 0, none⟩) (ks.length + 1) cap5) (ks ++ [1 + pl])).row :: (InG.mk (.slice ua us.length uc) us).row :: ((StsG.mk (.slice sa ss.length sc) ss).rows ++ ((TrsG.mk (.slice ra0 rs.length rc0) rs).rows ++ (pp.flatMap ObG.rows ++ (TmG.mk (.slice xo ts.length xc) ts).row :: R)))))) := hid (ob_set (o' := (ObG.mk pO qO dO ⟨(.slice (some ⟨gg, 0, none⟩) (ks.length + 1) cap5), ks ++ [1 + pl]⟩ ⟨(.slice (some ⟨g2, 0, none⟩) (vs.length + 1) cap2), vs ++ [zn]⟩ ⟨.slice ua us.length uc, us⟩ ⟨.slice sa ss.length sc, ss⟩ ⟨.slice ra0 rs.length rc0, rs⟩)) F9.out.swap 4 (.slice (some ⟨g2, 0, none⟩) (vs.length + 1) cap2) (by omega) rfl)
    have FY : Hid (Flat (w9.setCell ⟨go, pp.length * 8 + 4, none⟩ (.slice (some ⟨g2, 0, none⟩) (vs.length + 1) cap2)) B (sysB (H3 + 1) (.int .i64 0) nilV nilV :: ([sysB H3 (.int .i64 sg) (.slice (some ⟨go, 0, none⟩) (pp.length + 1) co) (.slice xo ts.length xc)] ++ ((SyG.mk sg ⟨(.slice (some ⟨go, 0, none⟩) (pp.length + 1) co), pp ++ [(ObG.mk pO qO dO ⟨(.slice (some ⟨gg, 0, none⟩) (ks.length + 1) cap5), ks ++ [1 + pl]⟩ ⟨(.slice (some ⟨g2, 0, none⟩) (vs.length + 1) cap2), vs ++ [zn]⟩ ⟨.slice ua us.length uc, us⟩ ⟨.slice sa ss.length sc, ss⟩ ⟨.slice ra0 rs.length rc0, rs⟩)]⟩ ⟨.slice xo ts.length xc, ts⟩).rows ++ R)))) := hid (FX.out.perm (by
        refine perm_count fun f g hf => ?_
        simp only [SyG.rows, ObsG.rows, ObsG.row, ob1, ObG.rows, InG.row, StsG.rows, TrsG.rows, StsG.row, TrsG.row, TmG.row, StG.rows, TrG.rows, SmsG.rows, SmsG.row, itC_append, itC, List.map_append, List.map_cons, List.flatMap_append, List.flatMap_cons, List.flatMap_nil, List.append_nil, List.length_append, List.length_cons, List.length_nil, List.map_nil, List.cons_append, List.nil_append, hf.c, hf.a, hf.z, Nat.zero_add]
        omega))
    have BY : Hid (Below B w (w9.setCell ⟨go, pp.length * 8 + 4, none⟩ (.slice (some ⟨g2, 0, none⟩) (vs.length + 1) cap2))) := hid (((B5.out.trans ((below1 _ _).mono ZY.out)).trans G9.out).setCell (p := ⟨go, _, none⟩) HGO.out _)
    clear F9 FX FA F7 B5 G9 NWY ZA ZY c4 fz4 fl4 c9 fz9 fl9
    obtain ⟨⟨a0, a1, a2⟩, g0, g1, g2', al⟩ := three_cc (box_blk FY.out.tail.head)
    obtain ⟨⟨b0, b1, b2⟩, q0, q1, q2, ql⟩ := three_cc (box_blk FY.out.head)
    obtain ⟨Z, hZ⟩ : ∃ Z, Z = (w9.setCell ⟨go, pp.length * 8 + 4, none⟩ (.slice (some ⟨g2, 0, none⟩) (vs.length + 1) cap2)) := ⟨_, rfl⟩
    rw [← hZ] at FY BY a0 a1 a2 g0 g1 g2' al b0 b1 b2 q0 q1 q2 ql ⊢
    clear hZ
    go_wp2_with fail
    obtain ⟨u0, u1, u2⟩ := ln_box FY.out (.int .i64 sg) (.slice (some ⟨go, 0, none⟩) (pp.length + 1) co) (.slice xo ts.length xc)
    refine bodyPost_ret (v := .tuple #[.agg #[.int .i64 sg, .slice (some ⟨go, 0, none⟩) (pp.length + 1) co, .slice xo ts.length xc], .bool (num? vf).isSome]) (by simp [results, Tryz.results10, go_sem, u0, u1, u2]) rfl ?_
    cases hv : num? vf with
    | none => exact ln_no BY.out B6.out (by rw [LW.out, hv]) FY.out (by repeat' (first | exact List.Sublist.refl _ | with_reducible refine List.Sublist.cons_cons _ ?_ | refine List.sublist_append_of_sublist_right ?_ | refine List.Sublist.cons _ ?_)) _ _ _ _ _ _ _
    | some z =>
      obtain rfl := HZN.out z hv
      exact ln_ans (SyG.mk sg ⟨(.slice (some ⟨go, 0, none⟩) (pp.length + 1) co), pp ++ [(ObG.mk pO qO dO ⟨(.slice (some ⟨gg, 0, none⟩) (ks.length + 1) cap5), ks ++ [1 + pl]⟩ ⟨(.slice (some ⟨g2, 0, none⟩) (vs.length + 1) cap2), vs ++ [zn]⟩ ⟨.slice ua us.length uc, us⟩ ⟨.slice sa ss.length sc, ss⟩ ⟨.slice ra0 rs.length rc0, rs⟩)]⟩ ⟨.slice xo ts.length xc, ts⟩) [sysB H3 (.int .i64 sg) (.slice (some ⟨go, 0, none⟩) (pp.length + 1) co) (.slice xo ts.length xc)] BY.out B6.out FY.out (List.Perm.refl _) (by rw [LW.out, hv]; simp [SyG.dat, ObG.dat, oneOb_snoc])
end Go.Proofs.YtbcjlpjohknljaaGreatDoor
