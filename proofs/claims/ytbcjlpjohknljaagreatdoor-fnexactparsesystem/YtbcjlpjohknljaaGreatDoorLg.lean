import Derived.Test.YtbcjlpjohknljaaGreatDoorLc
import Derived.BigQuiet
import Derived.Test.YtbcjlpjohknljaaGreatDoorLb
import Derived.Test.YtbcjlpjohknljaaGreatDoorLn8
import Derived.Test.YtbcjlpjohknljaaGreatDoorLn10
import Derived.Test.YtbcjlpjohknljaaGreatDoorLn11
import Derived.Test.YtbcjlpjohknljaaGreatDoorLn12
import Derived.Test.YtbcjlpjohknljaaGreatDoorLn13
import Derived.Test.YtbcjlpjohknljaaGreatDoorLn14
import Derived.Test.YtbcjlpjohknljaaGreatDoorLf
import Derived.Test.YtbcjlpjohknljaaGreatDoorLn17
import Derived.Test.YtbcjlpjohknljaaGreatDoorLn18
namespace Go.Proofs.YtbcjlpjohknljaaGreatDoor
open Go.RowKit Go.Sort
set_option linter.unusedVariables false
set_option linter.unusedSimpArgs false
attribute [local go_sem ↓] Go.wp_at_zero Go.wp_at_succ

set_option maxRecDepth 100000 in
set_option maxHeartbeats 6400000 in
/-- No such kind. -/
theorem line_var_k (sg : Int) (ov tv : Value) (pp : List ObG) (o : ObG) (ts : List (Int × Int)) (R : List Rw) (B b off n c : Nat) (fs : List (List UInt8)) (w : World) (h : LnC (SyG.mk sg ⟨ov, pp ++ [o]⟩ ⟨tv, ts⟩) R B b off n c fs w) (kf vf : List UInt8) (hk : fs.getD 0 [] = kVar) (hq : fs.tail = [kf, vf]) (hp : placeN kindsL kf 0 < 0) : Calls Tryz.prog 10 #[(SyG.mk sg ⟨ov, pp ++ [o]⟩ ⟨tv, ts⟩).val, .slice (some ⟨b, off, none⟩) (n + 1) c, .bool true] w fun e w' => LnR (SyG.mk sg ⟨ov, pp ++ [o]⟩ ⟨tv, ts⟩) R B fs true w e w' := by
  obtain ⟨pO, qO, dO, ⟨kv, ks⟩, ⟨vv, vs⟩, ⟨uv, us⟩, ⟨sv, ss⟩, ⟨rv, rs⟩⟩ := o
  obtain ⟨go, co, hov, hco, hcm, hgo, hgol⟩ := row_has (h.hF.own (ObsG.mk ov (pp ++ [⟨pO, qO, dO, ⟨kv, ks⟩, ⟨vv, vs⟩, ⟨uv, us⟩, ⟨sv, ss⟩, ⟨rv, rs⟩⟩])).row (by simp [SyG.rows, ObsG.rows])) (by simp [ObsG.row])
  simp only [ObsG.row, List.length_append, List.length_cons, List.length_nil, Nat.zero_add] at hov
  subst hov
  obtain ⟨xo, xc, htv, _, _⟩ := pairs_read (h.hF.own (TmG.mk tv ts).row (by simp [SyG.rows]))
  obtain ⟨ka, kc, hkv, _, _, _⟩ := ints_read (h.hF.own (InG.mk kv ks).row (by simp [SyG.rows, ObsG.rows, ObG.rows]))
  obtain ⟨va, vc, hvv, _, _, _⟩ := ints_read (h.hF.own (InG.mk vv vs).row (by simp [SyG.rows, ObsG.rows, ObG.rows]))
  obtain ⟨ua, uc, huv, _, _, _⟩ := ints_read (h.hF.own (InG.mk uv us).row (by simp [SyG.rows, ObsG.rows, ObG.rows]))
  obtain ⟨sa, sc, hsv, _, _, _⟩ := row_read StG.cells 4 (fun _ => rfl) (h.hF.own (StsG.mk sv ss).row (by simp [SyG.rows, ObsG.rows, ObG.rows, StsG.rows]))
  obtain ⟨ra0, rc0, hrv, _, _, _⟩ := row_read TrG.cells 5 (fun _ => rfl) (h.hF.own (TrsG.mk rv rs).row (by simp [SyG.rows, ObsG.rows, ObG.rows, TrsG.rows]))
  simp only at htv hkv hvv huv hsv hrv
  simp only [TmG.row, InG.row, StsG.row, TrsG.row] at htv hkv hvv huv hsv hrv
  subst htv hkv hvv huv hsv hrv
  have SO := h.hz.a _ (show ObG.dat (ObG.mk pO qO dO ⟨.slice ka ks.length kc, ks⟩ ⟨.slice va vs.length vc, vs⟩ ⟨.slice ua us.length uc, us⟩ ⟨.slice sa ss.length sc, ss⟩ ⟨.slice ra0 rs.length rc0, rs⟩) ∈ (SyG.dat (SyG.mk sg ⟨.slice (some ⟨go, 0, none⟩) (pp.length + 1) co, pp ++ [⟨pO, qO, dO, ⟨.slice ka ks.length kc, ks⟩, ⟨.slice va vs.length vc, vs⟩, ⟨.slice ua us.length uc, us⟩, ⟨.slice sa ss.length sc, ss⟩, ⟨.slice ra0 rs.length rc0, rs⟩⟩]⟩ ⟨.slice xo ts.length xc, ts⟩)).obs by simp [SyG.dat])
  have NS := hid SO
  have hpl : pp.length + 1 ≤ 1048577 := by have := h.hz.o; simp [SyG.dat] at this; omega
  have hp0 : ¬ ((pp.length : Int) + 1 = 0) := by omega
  have hp1 : ((pp.length : Int) + 1 == 0) = false := by simp; omega
  clear SO
  have hn3 : n = 2 := by
    have h1 := congrArg List.length hq
    rw [List.length_tail, h.hs.1] at h1
    simp at h1
    exact h1
  have HN := hid hn3
  clear hn3
  have NO : Hid (lineW (SyG.dat (SyG.mk sg ⟨.slice (some ⟨go, 0, none⟩) (pp.length + 1) co, pp ++ [⟨pO, qO, dO, ⟨.slice ka ks.length kc, ks⟩, ⟨.slice va vs.length vc, vs⟩, ⟨.slice ua us.length uc, us⟩, ⟨.slice sa ss.length sc, ss⟩, ⟨.slice ra0 rs.length rc0, rs⟩⟩]⟩ ⟨.slice xo ts.length xc, ts⟩)) (fs.getD 0 []) fs.tail true = none) := hid (by rw [hk, lineW_var, hq]; simp only [if_pos hp])
  obtain ⟨i0, hi, hz0, hz1, hz2⟩ := info_parts Tryz.infoI
  obtain ⟨sbc, hsb⟩ := h.ht
  obtain ⟨c0, hbl, hT⟩ := h.hs.one
  have HT := hid hT
  have HC := hid h
  have hn := h.hn
  have hc := h.hc
  have TL : fs.tail.length = n := by rw [List.length_tail, h.hs.1]; omega
  obtain ⟨t, ht⟩ : ∃ t : ByteArray, t = ⟨(fs.getD 0 []).toArray⟩ := ⟨_, rfl⟩
  have c1 : w.cell? ⟨b, off, none⟩ = some (.string t) := by rw [ht]; exact c0
  have hbt : fs.getD 0 [] = bl t := ba_bl.1 ht.symm
  clear c0 ht
  obtain rfl : t = ⟨#[118, 97, 114]⟩ := by rw [hk] at hbt; exact (ba_bl.2 hbt).symm
  clear hbt
  have FV := hid (h.boxes (.int .i64 sg) (.slice (some ⟨go, 0, none⟩) (pp.length + 1) co) (.slice xo ts.length xc))
  have BV := hid (below2 w (sysO (.int .i64 sg) (.slice (some ⟨go, 0, none⟩) (pp.length + 1) co) (.slice xo ts.length xc)) (sysO (.int .i64 0) nilV nilV))
  have SV : Hid (((w.alloc (sysO (.int .i64 sg) (.slice (some ⟨go, 0, none⟩) (pp.length + 1) co) (.slice xo ts.length xc))).alloc (sysO (.int .i64 0) nilV nilV)).heap.size = w.heap.size + 2) := hid (by simp)
  clear h hT
  simp only [SyG.val]
  go_enter Tryz.func10, Tryz.ntmps10
  go_upto_region 1 with fail
  obtain ⟨V, hV⟩ : ∃ V, V = (w.alloc (sysO (.int .i64 sg) (.slice (some ⟨go, 0, none⟩) (pp.length + 1) co) (.slice xo ts.length xc))).alloc (sysO (.int .i64 0) nilV nilV) := ⟨_, rfl⟩
  rw [← hV] at FV BV SV ⊢
  obtain ⟨H3, e3⟩ : ∃ H, H = w.heap.size := ⟨_, rfl⟩
  have E3 := hid e3
  rw [← e3] at FV SV ⊢
  have k0 := (BV.out.cell (p := ⟨b, off, none⟩) hbl).trans c1
  clear c1 e3 hV
  go_upto_region 2 with fail
  go_cut [9] from 29 to 30 (fun r wx => ∃ ao cp, r = .slice ao n cp ∧ n ≤ cp ∧ StrsOf w ao n fs.tail ∧ wx = V ∧ (ao = some ⟨b, off + 1, none⟩ ∨ n = 0))
  case first =>
    by_cases hc1 : c = 1
    · have hn0 : n = 0 := by omega
      subst hn0
      subst hc1
      go_wp2_with fail
      go_meet
      exact ⟨_, _, rfl, Nat.le_refl _, HT.out _ (by simp), rfl, by simp⟩
    · go_wp2_with fail
      go_meet
      exact ⟨_, _, rfl, by omega, HT.out _ (.inl rfl), rfl, .inl rfl⟩
  case rest =>
    obtain ⟨ra, rc, rfl, hrc, hrs, hV, hra⟩ := hcut
    subst hV
    have RS := hid hrs
    have HF : Hid (∀ f ∈ fs.tail, f.length ≤ 1048576) := hid (fun f hf => HC.out.hf f (List.mem_of_mem_tail hf))
    obtain ⟨⟨a0, a1, a2⟩, g0, g1, g2, al⟩ := three_cc (FV.out.mem_box (t := 25) (H := H3) (xs := [.int .i64 sg, .slice (some ⟨go, 0, none⟩) (pp.length + 1) co, .slice xo ts.length xc]) (by simp))
    obtain ⟨⟨b0, b1, b2⟩, q0, q1, q2, ql⟩ := three_cc (FV.out.mem_box (t := 25) (H := H3 + 1) (xs := [.int .i64 0, nilV, nilV]) (by simp))
    clear hrs k0
    have NU : Hid (∀ (k : Nat) W, k ≤ 100 → Below w.heap.size w W → Calls Tryz.prog 19 #[.slice ra n rc, .int .i64 (k : Int)] W fun e w' => (∃ v, e = .returned (.tuple #[v, .bool (numsN fs.tail k).isSome]) ∧ (∃ a l c, v = .slice a l c) ∧ ∀ zs, numsN fs.tail k = some zs → IntRow w' W.heap.size v zs) ∧ Below W.heap.size W w') := hid (fun k W hk hW => l5Numbers_any ra n rc k fs.tail W (by omega) hk HF.out (RS.out.below hW))
    have BB : Hid (Below B w wc) := hid (BV.out.mono HC.out.hB)
    have B6 : Hid (B ≤ H3 + 1) := hid (by have := HC.out.hB; have := E3.out; omega)
    have H3B : Hid (B ≤ H3) := hid (by have := HC.out.hB; have := E3.out; omega)
    have BW : Hid (B ≤ wc.heap.size) := hid (Nat.le_trans HC.out.hB BV.out.size)
    have HGO : Hid (B ≤ go) := hid hgo
    obtain rfl := HN.out
    have hra2 : ra = some ⟨b, off + 1, none⟩ := by rcases hra with e | e; exact e; omega
    subst hra2
    obtain ⟨rb, roff, erb, hrbl, hrcell⟩ := RS.out.2 (by omega)
    simp only [Option.some.injEq, Addr.mk.injEq, and_true] at erb
    obtain ⟨rfl, rfl⟩ := erb
    have r0 := hrcell 0 (by omega)
    have r1 := hrcell 1 (by omega)
    rw [hq] at r0 r1
    obtain ⟨kt, hkt⟩ : ∃ t : ByteArray, t = ⟨kf.toArray⟩ := ⟨_, rfl⟩
    obtain ⟨vt, hvt⟩ : ∃ t : ByteArray, t = ⟨vf.toArray⟩ := ⟨_, rfl⟩
    have r0 : w.cell? ⟨b, off + 1, none⟩ = some (.string kt) := by rw [hkt]; exact r0
    have r1 : w.cell? ⟨b, off + 1 + 1, none⟩ = some (.string vt) := by rw [hvt]; exact r1
    have ekf : kf = bl kt := ba_bl.1 hkt.symm
    have evf : vf = bl vt := ba_bl.1 hvt.symm
    have vl : vt.size ≤ 1048576 := by rw [← bl_len, ← evf]; exact HF.out vf (by rw [hq]; simp)
    have NM := hid (fun W => kindsN_any W)
    obtain ⟨pl, hpl0⟩ : ∃ p, p = placeN kindsL kf 0 := ⟨_, rfl⟩
    have PL : Hid (∀ W g, StrsOf W (some ⟨g, 0, none⟩) 7 kindsL → Calls Tryz.prog 21 #[.slice (some ⟨g, 0, none⟩) 7 7, .string kt] W fun e w' => e = .returned (.int .i64 pl) ∧ w' = W) := hid (fun W g h => by rw [hpl0, ekf]; exact l5Place_any (some ⟨g, 0, none⟩) 7 7 kindsL kt W (by omega) h)
    have hp7 : pl < 7 := by have := placeN_lt kindsL kf 0; rw [← hpl0] at this; simpa [kindsL] using this
    rw [← hpl0] at hp
    have hpn : pl < 0 := hp
    have NB : Hid (∀ W, Calls Tryz.prog 23 #[.string vt] W fun e w' => numR vf e ∧ Below W.heap.size W w') := hid (fun W => by rw [evf]; exact l5Number_any vt W vl)
    have CB : Hid (∀ Y, Below w.heap.size w Y → Y.cell? ⟨b, off + 1, none⟩ = some (.string kt) ∧ Y.cell? ⟨b, off + 1 + 1, none⟩ = some (.string vt)) := hid (fun Y hY => ⟨(hY.cell (p := ⟨b, off + 1, none⟩) hrbl).trans r0, (hY.cell (p := ⟨b, off + 1 + 1, none⟩) hrbl).trans r1⟩)
    have LA : Hid (∀ W, Calls Tryz.prog 20 #[.string ⟨#[118, 97, 114]⟩] W fun e w' => e = .returned (.int .i64 0) ∧ w' = W) := hid (fun W => by
      have h1 := leading_any ⟨#[118, 97, 114]⟩ W
      rw [show lead (bl ⟨#[118, 97, 114]⟩) = 0 from rfl] at h1
      exact h1)
    have NK : Hid (∀ W, Below w.heap.size w W → Calls Tryz.prog 19 #[.slice (some ⟨b, off + 1, none⟩) 2 rc, .int .i64 0] W fun e w' => (∃ v, e = .returned (.tuple #[v, .bool true]) ∧ (∃ a l c, v = .slice a l c)) ∧ Below W.heap.size W w') := hid (fun W hW => by
      have h1 := NU.out 0 W (by omega) hW
      rw [show numsN fs.tail 0 = some [] by simp [numsN, nums]] at h1
      exact h1.mono (by rintro e w' ⟨⟨v, h1, h2, _⟩, h3⟩; exact ⟨⟨v, h1, h2⟩, h3⟩))
    clear NU TL hq hk hrcell r0 r1 hkt hvt ekf evf hpl0 RS
    have F2x : Hid (∀ Y, Below wc.heap.size wc Y → (ObsG.mk (.slice (some ⟨go, 0, none⟩) (pp.length + 1) co) (pp ++ [(ObG.mk pO qO dO ⟨.slice ka ks.length kc, ks⟩ ⟨.slice va vs.length vc, vs⟩ ⟨.slice ua us.length uc, us⟩ ⟨.slice sa ss.length sc, ss⟩ ⟨.slice ra0 rs.length rc0, rs⟩)])).row.own Y B) := hid (fun Y hY => (FV.out.below hY).own _ (by simp [SyG.rows, ObsG.rows]))
    go_upto_region 28 with (first
        | (go_at_call 20; refine (LA.out _).mono ?_; rintro e w1 ⟨rfl, hw1⟩; obtain rfl := hw1.symm)
        | (go_at_call 19; refine (NK.out _ BV.out).mono ?_; rintro e w2 ⟨⟨v, rfl, ⟨a7, l7, p7, rfl⟩⟩, hb⟩; have HB := hid hb; have BX := hid (BV.out.trans (hb.mono BV.out.size)); have F2 := hid (FV.out.below hb); obtain ⟨⟨m0, m1, m2⟩, m3, m4, m5, ml⟩ := three_cc (F2.out.mem_box (t := 25) (H := H3) (xs := [.int .i64 sg, .slice (some ⟨go, 0, none⟩) (pp.length + 1) co, .slice xo ts.length xc]) (by simp)); clear hb))
    have FN := F2
    have B2 : Hid (Below B w w2) := hid (BB.out.trans (HB.out.mono BW.out))
    have Z2 : Hid (B ≤ w2.heap.size) := hid (Nat.le_trans HC.out.hB B2.out.size)
    clear F2 m0 m1 m2 m3 m4 m5 ml a0 a1 a2 g0 g1 g2 al b0 b1 b2 q0 q1 q2 ql NK LA FV BV BB BW
    go_cut [144] (fun c wx => c = .bool true ∧ Below w2.heap.size w2 wx)
    case first =>
      obtain ⟨k0, k1⟩ := CB.out _ BX.out
      go_region_held3 (fun X => X.cell? ⟨b, off + 1, none⟩ = some (.string kt)) (first | (with_reducible exact KX.out) | go_keep)
        (first
          | (go_at_call 22; refine (NM.out _).mono ?_; rintro e w6 ⟨g6, rfl, hs6, hb6⟩; have S6 := hid hs6; have Q6 : Hid (Below w2.heap.size w2 w6) := hid ((Below.refl _ _).drew.trans hb6); have KX := hid (CB.out _ (BX.out.trans (Q6.out.mono BX.out.size))).1; clear hs6 hb6)
          | (go_at_call 21; with_reducible refine (PL.out _ _ S6.out).mono ?_; rintro e w7 ⟨rfl, hw7⟩; obtain rfl := hw7.symm))
      all_goals
        go_wp2_with fail
        go_meet
        exact ⟨by simp [hpn], Q6.out⟩
    case rest =>
    obtain ⟨rfl, hb8⟩ := hcut
    obtain ⟨w3, hw3⟩ : ∃ W, W = wc := ⟨_, rfl⟩
    subst hw3
    have F3 := hid (FN.out.below hb8)
    have B3 : Hid (Below B w w3) := hid (B2.out.trans (hb8.mono Z2.out))
    have BX3 : Hid (Below w.heap.size w w3) := hid (BX.out.trans (hb8.mono BX.out.size))
    clear FN B2 Z2 BX hb8
    obtain ⟨⟨a0, a1, a2⟩, g0, g1, g2, al⟩ := three_cc (F3.out.mem_box (t := 25) (H := H3) (xs := [.int .i64 sg, (.slice (some ⟨go, 0, none⟩) (pp.length + 1) co), .slice xo ts.length xc]) (by simp))
    obtain ⟨⟨b0, b1, b2⟩, q0, q1, q2, ql⟩ := three_cc (F3.out.mem_box (t := 25) (H := H3 + 1) (xs := [.int .i64 0, nilV, nilV]) (by simp))
    have U6 := hid (ln_box F3.out (.int .i64 sg) (.slice (some ⟨go, 0, none⟩) (pp.length + 1) co) (.slice xo ts.length xc))
    go_wp2_with fail
    obtain ⟨u0, u1, u2⟩ := U6.out
    exact bodyPost_ret (v := .tuple #[.agg #[.int .i64 sg, .slice (some ⟨go, 0, none⟩) (pp.length + 1) co, .slice xo ts.length xc], .bool false]) (by simp [results, Tryz.results10, go_sem, u0, u1, u2]) rfl (ln_no B3.out B6.out NO.out F3.out (by repeat' (first | exact List.Sublist.refl _ | with_reducible refine List.Sublist.cons_cons _ ?_ | refine List.sublist_append_of_sublist_right ?_ | refine List.Sublist.cons _ ?_)) _ _ _ _ _ _ _)
end Go.Proofs.YtbcjlpjohknljaaGreatDoor
namespace Go.Proofs.YtbcjlpjohknljaaGreatDoor
open Go.RowKit Go.Sort
set_option linter.unusedVariables false
set_option linter.unusedSimpArgs false
attribute [local go_sem ↓] Go.wp_at_zero Go.wp_at_succ

set_option maxRecDepth 100000 in
set_option maxHeartbeats 6400000 in
/-- Not two fields. -/
theorem line_var_n (sg : Int) (ov tv : Value) (pp : List ObG) (o : ObG) (ts : List (Int × Int)) (R : List Rw) (B b off n c : Nat) (fs : List (List UInt8)) (w : World) (h : LnC (SyG.mk sg ⟨ov, pp ++ [o]⟩ ⟨tv, ts⟩) R B b off n c fs w) (hk : fs.getD 0 [] = kVar) (hq : ¬ fs.tail.length = 2) : Calls Tryz.prog 10 #[(SyG.mk sg ⟨ov, pp ++ [o]⟩ ⟨tv, ts⟩).val, .slice (some ⟨b, off, none⟩) (n + 1) c, .bool true] w fun e w' => LnR (SyG.mk sg ⟨ov, pp ++ [o]⟩ ⟨tv, ts⟩) R B fs true w e w' := by
  obtain ⟨pO, qO, dO, ⟨kv, ks⟩, ⟨vv, vs⟩, ⟨uv, us⟩, ⟨sv, ss⟩, ⟨rv, rs⟩⟩ := o
  obtain ⟨go, co, hov, hco, hcm, hgo, hgol⟩ := row_has (h.hF.own (ObsG.mk ov (pp ++ [⟨pO, qO, dO, ⟨kv, ks⟩, ⟨vv, vs⟩, ⟨uv, us⟩, ⟨sv, ss⟩, ⟨rv, rs⟩⟩])).row (by simp [SyG.rows, ObsG.rows])) (by simp [ObsG.row])
  simp only [ObsG.row, List.length_append, List.length_cons, List.length_nil, Nat.zero_add] at hov
  subst hov
  obtain ⟨xo, xc, htv, _, _⟩ := pairs_read (h.hF.own (TmG.mk tv ts).row (by simp [SyG.rows]))
  obtain ⟨ka, kc, hkv, _, _, _⟩ := ints_read (h.hF.own (InG.mk kv ks).row (by simp [SyG.rows, ObsG.rows, ObG.rows]))
  obtain ⟨va, vc, hvv, _, _, _⟩ := ints_read (h.hF.own (InG.mk vv vs).row (by simp [SyG.rows, ObsG.rows, ObG.rows]))
  obtain ⟨ua, uc, huv, _, _, _⟩ := ints_read (h.hF.own (InG.mk uv us).row (by simp [SyG.rows, ObsG.rows, ObG.rows]))
  obtain ⟨sa, sc, hsv, _, _, _⟩ := row_read StG.cells 4 (fun _ => rfl) (h.hF.own (StsG.mk sv ss).row (by simp [SyG.rows, ObsG.rows, ObG.rows, StsG.rows]))
  obtain ⟨ra0, rc0, hrv, _, _, _⟩ := row_read TrG.cells 5 (fun _ => rfl) (h.hF.own (TrsG.mk rv rs).row (by simp [SyG.rows, ObsG.rows, ObG.rows, TrsG.rows]))
  simp only at htv hkv hvv huv hsv hrv
  simp only [TmG.row, InG.row, StsG.row, TrsG.row] at htv hkv hvv huv hsv hrv
  subst htv hkv hvv huv hsv hrv
  have SO := h.hz.a _ (show ObG.dat (ObG.mk pO qO dO ⟨.slice ka ks.length kc, ks⟩ ⟨.slice va vs.length vc, vs⟩ ⟨.slice ua us.length uc, us⟩ ⟨.slice sa ss.length sc, ss⟩ ⟨.slice ra0 rs.length rc0, rs⟩) ∈ (SyG.dat (SyG.mk sg ⟨.slice (some ⟨go, 0, none⟩) (pp.length + 1) co, pp ++ [⟨pO, qO, dO, ⟨.slice ka ks.length kc, ks⟩, ⟨.slice va vs.length vc, vs⟩, ⟨.slice ua us.length uc, us⟩, ⟨.slice sa ss.length sc, ss⟩, ⟨.slice ra0 rs.length rc0, rs⟩⟩]⟩ ⟨.slice xo ts.length xc, ts⟩)).obs by simp [SyG.dat])
  have NS := hid SO
  have hpl : pp.length + 1 ≤ 1048577 := by have := h.hz.o; simp [SyG.dat] at this; omega
  have hp0 : ¬ ((pp.length : Int) + 1 = 0) := by omega
  have hp1 : ((pp.length : Int) + 1 == 0) = false := by simp; omega
  clear SO
  have hn3 : ¬ n = 2 := by
    rw [List.length_tail, h.hs.1] at hq
    simpa using hq
  have hn4 : ((n : Int) == 2) = false := by simp; omega
  have hn5 : ¬ ((n : Int) = 2) := by omega
  have NO : Hid (lineW (SyG.dat (SyG.mk sg ⟨.slice (some ⟨go, 0, none⟩) (pp.length + 1) co, pp ++ [⟨pO, qO, dO, ⟨.slice ka ks.length kc, ks⟩, ⟨.slice va vs.length vc, vs⟩, ⟨.slice ua us.length uc, us⟩, ⟨.slice sa ss.length sc, ss⟩, ⟨.slice ra0 rs.length rc0, rs⟩⟩]⟩ ⟨.slice xo ts.length xc, ts⟩)) (fs.getD 0 []) fs.tail true = none) := hid (by
    rw [hk, lineW_var]
    split
    · rename_i e; rw [e] at hq; exact absurd rfl hq
    · rfl)
  obtain ⟨c0, hbl, hT⟩ := h.hs.one
  have HT := hid hT
  have HC := hid h
  have hn := h.hn
  have hc := h.hc
  have TL : fs.tail.length = n := by rw [List.length_tail, h.hs.1]; omega
  obtain ⟨t, ht⟩ : ∃ t : ByteArray, t = ⟨(fs.getD 0 []).toArray⟩ := ⟨_, rfl⟩
  have c1 : w.cell? ⟨b, off, none⟩ = some (.string t) := by rw [ht]; exact c0
  have hbt : fs.getD 0 [] = bl t := ba_bl.1 ht.symm
  clear c0 ht
  obtain rfl : t = ⟨#[118, 97, 114]⟩ := by rw [hk] at hbt; exact (ba_bl.2 hbt).symm
  clear hbt
  have FV := hid (h.boxes (.int .i64 sg) (.slice (some ⟨go, 0, none⟩) (pp.length + 1) co) (.slice xo ts.length xc))
  have BV := hid (below2 w (sysO (.int .i64 sg) (.slice (some ⟨go, 0, none⟩) (pp.length + 1) co) (.slice xo ts.length xc)) (sysO (.int .i64 0) nilV nilV))
  have SV : Hid (((w.alloc (sysO (.int .i64 sg) (.slice (some ⟨go, 0, none⟩) (pp.length + 1) co) (.slice xo ts.length xc))).alloc (sysO (.int .i64 0) nilV nilV)).heap.size = w.heap.size + 2) := hid (by simp)
  clear h hT
  simp only [SyG.val]
  go_enter Tryz.func10, Tryz.ntmps10
  go_upto_region 1 with fail
  obtain ⟨V, hV⟩ : ∃ V, V = (w.alloc (sysO (.int .i64 sg) (.slice (some ⟨go, 0, none⟩) (pp.length + 1) co) (.slice xo ts.length xc))).alloc (sysO (.int .i64 0) nilV nilV) := ⟨_, rfl⟩
  rw [← hV] at FV BV SV ⊢
  obtain ⟨H3, e3⟩ : ∃ H, H = w.heap.size := ⟨_, rfl⟩
  have E3 := hid e3
  rw [← e3] at FV SV ⊢
  have k0 := (BV.out.cell (p := ⟨b, off, none⟩) hbl).trans c1
  clear c1 e3 hV
  go_upto_region 2 with fail
  go_cut [9] from 29 to 30 (fun r wx => ∃ ao cp, r = .slice ao n cp ∧ n ≤ cp ∧ StrsOf w ao n fs.tail ∧ wx = V ∧ (ao = some ⟨b, off + 1, none⟩ ∨ n = 0))
  case first =>
    by_cases hc1 : c = 1
    · have hn0 : n = 0 := by omega
      subst hn0
      subst hc1
      go_wp2_with fail
      go_meet
      exact ⟨_, _, rfl, Nat.le_refl _, HT.out _ (by simp), rfl, by simp⟩
    · go_wp2_with fail
      go_meet
      exact ⟨_, _, rfl, by omega, HT.out _ (.inl rfl), rfl, .inl rfl⟩
  case rest =>
    obtain ⟨ra, rc, rfl, hrc, hrs, hV, hra⟩ := hcut
    subst hV
    have RS := hid hrs
    have HF : Hid (∀ f ∈ fs.tail, f.length ≤ 1048576) := hid (fun f hf => HC.out.hf f (List.mem_of_mem_tail hf))
    obtain ⟨⟨a0, a1, a2⟩, g0, g1, g2, al⟩ := three_cc (FV.out.mem_box (t := 25) (H := H3) (xs := [.int .i64 sg, .slice (some ⟨go, 0, none⟩) (pp.length + 1) co, .slice xo ts.length xc]) (by simp))
    obtain ⟨⟨b0, b1, b2⟩, q0, q1, q2, ql⟩ := three_cc (FV.out.mem_box (t := 25) (H := H3 + 1) (xs := [.int .i64 0, nilV, nilV]) (by simp))
    clear hrs k0
    have NU : Hid (∀ (k : Nat) W, k ≤ 100 → Below w.heap.size w W → Calls Tryz.prog 19 #[.slice ra n rc, .int .i64 (k : Int)] W fun e w' => (∃ v, e = .returned (.tuple #[v, .bool (numsN fs.tail k).isSome]) ∧ (∃ a l c, v = .slice a l c) ∧ ∀ zs, numsN fs.tail k = some zs → IntRow w' W.heap.size v zs) ∧ Below W.heap.size W w') := hid (fun k W hk hW => l5Numbers_any ra n rc k fs.tail W (by omega) hk HF.out (RS.out.below hW))
    have BB : Hid (Below B w wc) := hid (BV.out.mono HC.out.hB)
    have B6 : Hid (B ≤ H3 + 1) := hid (by have := HC.out.hB; have := E3.out; omega)
    have H3B : Hid (B ≤ H3) := hid (by have := HC.out.hB; have := E3.out; omega)
    have BW : Hid (B ≤ wc.heap.size) := hid (Nat.le_trans HC.out.hB BV.out.size)
    have LA : Hid (∀ W, Calls Tryz.prog 20 #[.string ⟨#[118, 97, 114]⟩] W fun e w' => e = .returned (.int .i64 0) ∧ w' = W) := hid (fun W => by
      have h1 := leading_any ⟨#[118, 97, 114]⟩ W
      rw [show lead (bl ⟨#[118, 97, 114]⟩) = 0 from rfl] at h1
      exact h1)
    have NK : Hid (∀ W, Below w.heap.size w W → Calls Tryz.prog 19 #[.slice ra n rc, .int .i64 0] W fun e w' => (∃ v, e = .returned (.tuple #[v, .bool true]) ∧ (∃ a l c, v = .slice a l c)) ∧ Below W.heap.size W w') := hid (fun W hW => by
      have h1 := NU.out 0 W (by omega) hW
      rw [show numsN fs.tail 0 = some [] by simp [numsN, nums]] at h1
      exact h1.mono (by rintro e w' ⟨⟨v, h1, h2, _⟩, h3⟩; exact ⟨⟨v, h1, h2⟩, h3⟩))
    clear NU TL hq hk RS
    go_upto_region 28 with (first
        | (go_at_call 20; refine (LA.out _).mono ?_; rintro e w1 ⟨rfl, hw1⟩; obtain rfl := hw1.symm)
        | (go_at_call 19; refine (NK.out _ BV.out).mono ?_; rintro e w2 ⟨⟨v, rfl, ⟨a7, l7, p7, rfl⟩⟩, hb⟩; have HB := hid hb; have BX := hid (BV.out.trans (hb.mono BV.out.size)); have F2 := hid (FV.out.below hb); obtain ⟨⟨m0, m1, m2⟩, m3, m4, m5, ml⟩ := three_cc (F2.out.mem_box (t := 25) (H := H3) (xs := [.int .i64 sg, .slice (some ⟨go, 0, none⟩) (pp.length + 1) co, .slice xo ts.length xc]) (by simp)); clear hb))
    have B2 : Hid (Below B w w2) := hid (BB.out.trans (HB.out.mono BW.out))
    clear m0 m1 m2 m3 m4 m5 ml a0 a1 a2 g0 g1 g2 al b0 b1 b2 q0 q1 q2 ql NK LA FV BV BB BW
    go_quiet (fail)
    all_goals
      have F3 : Hid (Flat (w2.drewN nq) B (sysB (H3 + 1) (.int .i64 0) nilV nilV :: sysB H3 (.int .i64 sg) (.slice (some ⟨go, 0, none⟩) (pp.length + 1) co) (.slice xo ts.length xc) :: ((SyG.mk sg ⟨(.slice (some ⟨go, 0, none⟩) (pp.length + 1) co), pp ++ [(ObG.mk pO qO dO ⟨.slice ka ks.length kc, ks⟩ ⟨.slice va vs.length vc, vs⟩ ⟨.slice ua us.length uc, us⟩ ⟨.slice sa ss.length sc, ss⟩ ⟨.slice ra0 rs.length rc0, rs⟩)]⟩ ⟨.slice xo ts.length xc, ts⟩).rows ++ R))) := hid (F2.out.keep (fun _ _ _ _ _ => rfl))
      have B3 : Hid (Below B w (w2.drewN nq)) := hid ⟨B2.out.os, B2.out.tape, B2.out.output, B2.out.size, B2.out.block⟩
      obtain ⟨w3, hw3⟩ : ∃ W, W = w2.drewN nq := ⟨_, rfl⟩
      rw [← hw3] at F3 B3 ⊢
      clear hw3
      obtain ⟨⟨a0, a1, a2⟩, g0, g1, g2, al⟩ := three_cc (F3.out.mem_box (t := 25) (H := H3) (xs := [.int .i64 sg, (.slice (some ⟨go, 0, none⟩) (pp.length + 1) co), .slice xo ts.length xc]) (by simp))
      obtain ⟨⟨b0, b1, b2⟩, q0, q1, q2, ql⟩ := three_cc (F3.out.mem_box (t := 25) (H := H3 + 1) (xs := [.int .i64 0, nilV, nilV]) (by simp))
      have U6 := hid (ln_box F3.out (.int .i64 sg) (.slice (some ⟨go, 0, none⟩) (pp.length + 1) co) (.slice xo ts.length xc))
      go_wp2_with fail
      obtain ⟨u0, u1, u2⟩ := U6.out
      exact bodyPost_ret (v := .tuple #[.agg #[.int .i64 sg, .slice (some ⟨go, 0, none⟩) (pp.length + 1) co, .slice xo ts.length xc], .bool false]) (by simp [results, Tryz.results10, go_sem, u0, u1, u2]) rfl (ln_no B3.out B6.out NO.out F3.out (by repeat' (first | exact List.Sublist.refl _ | with_reducible refine List.Sublist.cons_cons _ ?_ | refine List.sublist_append_of_sublist_right ?_ | refine List.Sublist.cons _ ?_)) _ _ _ _ _ _ _)
end Go.Proofs.YtbcjlpjohknljaaGreatDoor
namespace Go.Proofs.YtbcjlpjohknljaaGreatDoor
open Go.RowKit Go.Sort
set_option linter.unusedVariables false

theorem len_three {α : Type} {l : List α} (h : l.length = 3) : ∃ a b c, l = [a, b, c] := by
  match l, h with
  | [a, b, c], _ => exact ⟨a, b, c, rfl⟩
theorem len_two {α : Type} {l : List α} (h : l.length = 2) : ∃ a b, l = [a, b] := by
  match l, h with
  | [a, b], _ => exact ⟨a, b, rfl⟩
theorem nums_3 {l : List (List UInt8)} (h : ¬ ∃ p q d, nums l = some [p, q, d]) : ¬ (l.length = 3 ∧ (nums l).isSome = true) := by
  rintro ⟨h1, h2⟩
  cases e : nums l with
  | none => rw [e] at h2; cases h2
  | some zs =>
    have := nums_len e
    rw [h1] at this
    obtain ⟨p, q, d, rfl⟩ := len_three this
    exact h ⟨p, q, d, e⟩
theorem nums_2 {l : List (List UInt8)} (h : ¬ ∃ p q, nums l = some [p, q]) : ¬ (l.length = 2 ∧ (nums l).isSome = true) := by
  rintro ⟨h1, h2⟩
  cases e : nums l with
  | none => rw [e] at h2; cases h2
  | some zs =>
    have := nums_len e
    rw [h1] at this
    obtain ⟨p, q, rfl⟩ := len_two this
    exact h ⟨p, q, e⟩
theorem nums_1 {l : List (List UInt8)} (h : ¬ ∃ p, nums l = some [p]) : ¬ (l.length = 1 ∧ (nums l).isSome = true) := by
  rintro ⟨h1, h2⟩
  cases e : nums l with
  | none => rw [e] at h2; cases h2
  | some zs =>
    have := nums_len e
    rw [h1] at this
    obtain ⟨p, rfl⟩ := List.length_eq_one_iff.1 this
    exact h ⟨p, e⟩
theorem numsN_3 {l : List (List UInt8)} {zs : List Int} (h : numsN l 3 = some zs) : ∃ p q d, zs = [p, q, d] := by
  unfold numsN at h
  split at h
  · have := nums_len h
    rw [List.length_take, Nat.min_eq_left (by assumption)] at this
    exact len_three this
  · cases h
theorem lineW_sub_no (s : SyD) (r : List (List UInt8)) (h : ¬ ∃ p, nums r = some [p]) : lineW s kSub r true = none := by
  rw [lineW_sub]; split
  · rename_i p e; exact absurd ⟨p, e⟩ h
  · rfl
theorem lineW_sta_no (s : SyD) (r : List (List UInt8)) (h : ¬ ∃ p q, nums r = some [p, q]) : lineW s kSta r true = none := by
  rw [lineW_sta]; split
  · rename_i p q e; exact absurd ⟨p, q, e⟩ h
  · rfl
theorem lineW_tim_no (s : SyD) (r : List (List UInt8)) (h : ¬ ∃ p q, nums r = some [p, q]) : lineW s kTim r true = none := by
  rw [lineW_tim]; split
  · rename_i p q e; exact absurd ⟨p, q, e⟩ h
  · rfl
theorem lineW_obj_no (s : SyD) (r : List (List UInt8)) (h : ¬ ∃ p q d, nums r = some [p, q, d]) : lineW s kObj r true = none := by
  rw [lineW_obj]; split
  · rename_i p q d e; exact absurd ⟨p, q, d, e⟩ h
  · rfl
/-- A line (the model's). -/
theorem l5Line_any (G : SyG) (R : List Rw) (B b off n c : Nat) (fs : List (List UInt8)) (bg : Bool) (w : World) (h : LnC G R B b off n c fs w) : Calls Tryz.prog 10 #[G.val, .slice (some ⟨b, off, none⟩) (n + 1) c, .bool bg] w fun e w' => LnR G R B fs bg w e w' := by
  by_cases k0 : fs.getD 0 [] = kSig
  · by_cases hz : bg = false ∧ ∃ z, nums fs.tail = some [z]
    · obtain ⟨rfl, z, hz⟩ := hz
      exact line_sig G R B b off n c fs w h z k0 hz
    · refine line_sig_no G R B b off n c fs w h bg k0 ?_
      by_cases e : bg = true
      · exact .inl e
      · exact .inr (fun hh => hz ⟨by simpa using e, hh⟩)
  cases bg with
  | false => exact line_un G R B b off n c fs w h k0
  | true =>
  by_cases k1 : fs.getD 0 [] = kObj
  · by_cases hz : ∃ p q d, nums fs.tail = some [p, q, d]
    · obtain ⟨p, q, d, hz⟩ := hz
      exact line_obj G R B b off n c fs w h p q d k1 hz
    · exact line_bad G R B b off n c fs w h k0 (by rw [k1]; decide) (by rw [k1]; decide) (by rw [k1]; exact nums_3 hz) (by rw [k1]; exact lineW_obj_no _ _ hz)
  by_cases k2 : fs.getD 0 [] = kTim
  · by_cases hz : ∃ p q, nums fs.tail = some [p, q]
    · obtain ⟨p, q, hz⟩ := hz
      exact line_tim G R B b off n c fs w h p q k2 hz
    · exact line_bad G R B b off n c fs w h k0 (by rw [k2]; decide) (by rw [k2]; decide) (by rw [k2]; exact nums_2 hz) (by rw [k2]; exact lineW_tim_no _ _ hz)
  by_cases hos : G.ob.xs = []
  · exact line_bare G R B b off n c fs w h k0 k1 k2 hos
  obtain ⟨sg, ⟨ov, os⟩, ⟨tv, ts⟩⟩ := G
  simp only at hos
  obtain ⟨pp, o, rfl⟩ : ∃ pp o, os = pp ++ [o] := by
    rcases List.eq_nil_or_concat os with e | ⟨pp, o, e⟩
    · exact absurd e hos
    · exact ⟨pp, o, by rw [e, List.concat_eq_append]⟩
  clear hos
  by_cases k3 : fs.getD 0 [] = kVar
  · by_cases hl : fs.tail.length = 2
    · obtain ⟨kf, vf, hq⟩ := len_two hl
      by_cases hp : placeN kindsL kf 0 < 0
      · exact line_var_k sg ov tv pp o ts R B b off n c fs w h kf vf k3 hq hp
      · exact line_var sg ov tv pp o ts R B b off n c fs w h kf vf k3 hq (by omega)
    · exact line_var_n sg ov tv pp o ts R B b off n c fs w h k3 hl
  by_cases k4 : fs.getD 0 [] = kSub
  · by_cases hz : ∃ p, nums fs.tail = some [p]
    · obtain ⟨p, hz⟩ := hz
      exact line_sub sg ov tv pp o ts R B b off n c fs w h p k4 hz
    · exact line_bad _ R B b off n c fs w h k0 (by rw [k4]; decide) (by rw [k4]; decide) (by rw [k4]; exact nums_1 hz) (by rw [k4]; exact lineW_sub_no _ _ hz)
  by_cases k5 : fs.getD 0 [] = kSta
  · by_cases hz : ∃ p q, nums fs.tail = some [p, q]
    · obtain ⟨p, q, hz⟩ := hz
      exact line_sta sg ov tv pp o ts R B b off n c fs w h p q k5 hz
    · exact line_bad _ R B b off n c fs w h k0 (by rw [k5]; decide) (by rw [k5]; decide) (by rw [k5]; exact nums_2 hz) (by rw [k5]; exact lineW_sta_no _ _ hz)
  by_cases k6 : fs.getD 0 [] = kOn
  · cases hz : numsN fs.tail 3 with
    | none => exact line_on_no _ R B b off n c fs w h k6 hz
    | some zs =>
      obtain ⟨p, q, d, rfl⟩ := numsN_3 hz
      exact line_on sg ov tv pp o ts R B b off n c fs w h p q d k6 hz
  by_cases k7 : fs.getD 0 [] = kEnt
  · cases hz : stmW fs.tail with
    | none => exact line_late_no sg ov tv pp o ts R B b off n c fs w h k0 k1 k2 k3 k4 k5 k6 hz (by rw [k7, lineW_ent, hz])
    | some x =>
      obtain ⟨xk, xa, xb, its⟩ := x
      rcases List.eq_nil_or_concat o.st.xs with e | ⟨qq, el, e⟩
      · refine line_late_ent sg ov tv pp o ts R B b off n c fs w h k7 e ?_
        rw [k7, lineW_ent, hz]
        simp [SyG.dat, lastOb, ObG.dat, e]
      · exact line_ent sg ov tv pp o ts R B b off n c fs w h qq el (by rw [e, List.concat_eq_append]) xk xa xb its k7 hz
  by_cases k8 : fs.getD 0 [] = kExi
  · cases hz : stmW fs.tail with
    | none => exact line_late_no sg ov tv pp o ts R B b off n c fs w h k0 k1 k2 k3 k4 k5 k6 hz (by rw [k8, lineW_exi, hz])
    | some x =>
      obtain ⟨xk, xa, xb, its⟩ := x
      rcases List.eq_nil_or_concat o.st.xs with e | ⟨qq, el, e⟩
      · refine line_late_exi sg ov tv pp o ts R B b off n c fs w h k8 e ?_
        rw [k8, lineW_exi, hz]
        simp [SyG.dat, lastOb, ObG.dat, e]
      · exact line_exi sg ov tv pp o ts R B b off n c fs w h qq el (by rw [e, List.concat_eq_append]) xk xa xb its k8 hz
  by_cases k9 : fs.getD 0 [] = kDo
  · cases hz : stmW fs.tail with
    | none => exact line_late_no sg ov tv pp o ts R B b off n c fs w h k0 k1 k2 k3 k4 k5 k6 hz (by rw [k9, lineW_do, hz])
    | some x =>
      obtain ⟨xk, xa, xb, its⟩ := x
      rcases List.eq_nil_or_concat o.tr.xs with e | ⟨qq, el, e⟩
      · refine line_late_do sg ov tv pp o ts R B b off n c fs w h k9 e ?_
        rw [k9, lineW_do, hz]
        simp [SyG.dat, lastOb, ObG.dat, e]
      · exact line_do sg ov tv pp o ts R B b off n c fs w h qq el (by rw [e, List.concat_eq_append]) xk xa xb its k9 hz
  exact line_late_els sg ov tv pp o ts R B b off n c fs w h k0 k1 k2 k3 k4 k5 k6 k7 k8 k9
end Go.Proofs.YtbcjlpjohknljaaGreatDoor
