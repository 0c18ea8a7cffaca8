import Derived.Test.YtbcjlpjohknljaaGreatDoorLc
namespace Go.Proofs.YtbcjlpjohknljaaGreatDoor
open Go.RowKit Go.Sort
set_option linter.unusedVariables false
set_option linter.unusedSimpArgs false
attribute [local go_sem ↓] Go.wp_at_zero Go.wp_at_succ

set_option maxRecDepth 100000 in
set_option maxHeartbeats 3200000 in
/-- A line of signals that cannot stand. -/
theorem line_sig_no (G : SyG) (R : List Rw) (B b off n c : Nat) (fs : List (List UInt8)) (w : World) (h : LnC G R B b off n c fs w) (bg : Bool) (hk : fs.getD 0 [] = kSig) (hbad : bg = true ∨ ¬ ∃ z, nums fs.tail = some [z]) : Calls Tryz.prog 10 #[G.val, .slice (some ⟨b, off, none⟩) (n + 1) c, .bool bg] w fun e w' => LnR G R B fs bg w e w' := by
  obtain ⟨eo, ec, xo, xc, ev, _, _⟩ := SyG.read h.hF.left
  obtain ⟨c0, hbl, hT⟩ := h.hs.one
  have NO : Hid (lineW G.dat (fs.getD 0 []) fs.tail bg = none) := hid (by
    rw [hk, lineW_sig]
    rcases hbad with rfl | hb
    · split
      · rfl
      · rfl
    · split
      · rename_i z e; exact absurd ⟨z, e⟩ hb
      · rfl)
  have HT := hid hT
  have HC := hid h
  have hn := h.hn
  have hc := h.hc
  have TL : fs.tail.length = n := by rw [List.length_tail, h.hs.1]; omega
  obtain ⟨t, ht⟩ : ∃ t : ByteArray, t = ⟨(fs.getD 0 []).toArray⟩ := ⟨_, rfl⟩
  have c1 : w.cell? ⟨b, off, none⟩ = some (.string t) := by rw [ht]; exact c0
  have hbt : fs.getD 0 [] = bl t := ba_bl.1 ht.symm
  clear c0 ht
  obtain rfl : t = ⟨#[115, 105, 103, 110, 97, 108, 115]⟩ := by rw [hk] at hbt; exact (ba_bl.2 hbt).symm
  clear hbt
  obtain ⟨sg, ⟨ov, os⟩, ⟨tv, ts⟩⟩ := G
  simp only [SyG.val, Value.agg.injEq] at ev
  have ev0 := congrArg Array.toList ev
  simp only [List.cons.injEq, true_and, and_true] at ev0
  obtain ⟨rfl, rfl⟩ := ev0
  clear ev
  have FV := hid (h.boxes (.int .i64 sg) (.slice eo os.length ec) (.slice xo ts.length xc))
  have BV := hid (below2 w (sysO (.int .i64 sg) (.slice eo os.length ec) (.slice xo ts.length xc)) (sysO (.int .i64 0) nilV nilV))
  have SV : Hid (((w.alloc (sysO (.int .i64 sg) (.slice eo os.length ec) (.slice xo ts.length xc))).alloc (sysO (.int .i64 0) nilV nilV)).heap.size = w.heap.size + 2) := hid (by simp)
  clear h hT
  simp only [SyG.val]
  go_enter Tryz.func10, Tryz.ntmps10
  go_upto_region 1 with fail
  obtain ⟨V, hV⟩ : ∃ V, V = (w.alloc (sysO (.int .i64 sg) (.slice eo os.length ec) (.slice xo ts.length xc))).alloc (sysO (.int .i64 0) nilV nilV) := ⟨_, rfl⟩
  rw [← hV] at FV BV SV ⊢
  obtain ⟨H3, e3⟩ : ∃ H, H = w.heap.size := ⟨_, rfl⟩
  have E3 := hid e3
  rw [← e3] at FV SV ⊢
  have k0 := (BV.out.cell (p := ⟨b, off, none⟩) hbl).trans c1
  clear c1 e3 hV
  go_upto_region 2 with fail
  go_cut [9] from 29 to 30 (fun r wx => ∃ ao cp, r = .slice ao n cp ∧ n ≤ cp ∧ StrsOf w ao n fs.tail ∧ wx = V)
  case first =>
    by_cases hc1 : c = 1
    · have hn0 : n = 0 := by omega
      subst hn0
      subst hc1
      go_wp2_with fail
      go_meet
      exact ⟨_, _, rfl, Nat.le_refl _, HT.out _ (by simp), rfl⟩
    · go_wp2_with fail
      go_meet
      exact ⟨_, _, rfl, by omega, HT.out _ (.inl rfl), rfl⟩
  case rest =>
    obtain ⟨ra, rc, rfl, hrc, hrs, hV⟩ := hcut
    subst hV
    have RS := hid hrs
    have HF : Hid (∀ f ∈ fs.tail, f.length ≤ 1048576) := hid (fun f hf => HC.out.hf f (List.mem_of_mem_tail hf))
    obtain ⟨⟨a0, a1, a2⟩, g0, g1, g2, al⟩ := three_cc (FV.out.mem_box (t := 25) (H := H3) (xs := [.int .i64 sg, .slice eo os.length ec, .slice xo ts.length xc]) (by simp))
    obtain ⟨⟨b0, b1, b2⟩, q0, q1, q2, ql⟩ := three_cc (FV.out.mem_box (t := 25) (H := H3 + 1) (xs := [.int .i64 0, nilV, nilV]) (by simp))
    clear hrs k0
    have NU : Hid (∀ (k : Nat) W, k ≤ 100 → Below w.heap.size w W → Calls Tryz.prog 19 #[.slice ra n rc, .int .i64 (k : Int)] W fun e w' => (∃ v, e = .returned (.tuple #[v, .bool (numsN fs.tail k).isSome]) ∧ (∃ a l c, v = .slice a l c) ∧ ∀ zs, numsN fs.tail k = some zs → IntRow w' W.heap.size v zs) ∧ Below W.heap.size W w') := hid (fun k W hk hW => l5Numbers_any ra n rc k fs.tail W (by omega) hk HF.out (RS.out.below hW))
    have BB : Hid (Below B w wc) := hid (BV.out.mono HC.out.hB)
    have B6 : Hid (B ≤ H3 + 1) := hid (by have := HC.out.hB; have := E3.out; omega)
    have H3B : Hid (B ≤ H3) := hid (by have := HC.out.hB; have := E3.out; omega)
    have BW : Hid (B ≤ wc.heap.size) := hid (Nat.le_trans HC.out.hB BV.out.size)
    have NK := hid (fun W => NU.out 1 W (by omega))
    cases hq : (numsN fs.tail 1).isSome with
    | false =>
      rw [hq] at NK
      clear hbad hq NU TL
      go_wp2_with (go_at_call 19; refine (NK.out _ BV.out).mono ?_; rintro e w2 ⟨⟨v, rfl, ⟨a7, l7, p7, rfl⟩, hi⟩, hb⟩; have HB := hid hb; have F2 := hid (FV.out.below hb); obtain ⟨⟨m0, m1, m2⟩, m3, m4, m5, ml⟩ := three_cc (F2.out.mem_box (t := 25) (H := H3) (xs := [.int .i64 sg, .slice eo os.length ec, .slice xo ts.length xc]) (by simp)); obtain ⟨⟨o0, o1, o2⟩, o3, o4, o5, ol⟩ := three_cc (F2.out.mem_box (t := 25) (H := H3 + 1) (xs := [.int .i64 0, nilV, nilV]) (by simp)); clear hi hb)
      obtain ⟨u0, u1, u2⟩ := ln_box F2.out (.int .i64 sg) (.slice eo os.length ec) (.slice xo ts.length xc)
      exact bodyPost_ret (v := .tuple #[.agg #[.int .i64 sg, .slice eo os.length ec, .slice xo ts.length xc], .bool false]) (by simp [results, Tryz.results10, go_sem, u0, u1, u2]) rfl (ln_no (BB.out.trans (HB.out.mono BW.out)) B6.out NO.out F2.out (by repeat' (first | exact List.Sublist.refl _ | with_reducible refine List.Sublist.cons_cons _ ?_ | refine List.sublist_append_of_sublist_right ?_ | refine List.Sublist.cons _ ?_)) _ _ _ _ _ _ _)
    | true =>
      rw [hq] at NK
      by_cases hn1 : n = 1
      · have hbg : bg = true := by
          rcases hbad with e | e
          · exact e
          · exfalso
            apply e
            have e1 : numsN fs.tail 1 = nums fs.tail := by rw [← hn1, ← TL, nums_allS]
            rw [e1] at hq
            obtain ⟨zs, hzs⟩ := Option.isSome_iff_exists.1 hq
            have := nums_len hzs
            rw [TL, hn1] at this
            match zs, this with
            | [z], _ => exact ⟨z, hzs⟩
        subst hbg
        subst hn1
        clear hbad hq NU TL
        go_wp2_with (go_at_call 19; refine (NK.out _ BV.out).mono ?_; rintro e w2 ⟨⟨v, rfl, ⟨a7, l7, p7, rfl⟩, hi⟩, hb⟩; have HB := hid hb; have F2 := hid (FV.out.below hb); obtain ⟨⟨m0, m1, m2⟩, m3, m4, m5, ml⟩ := three_cc (F2.out.mem_box (t := 25) (H := H3) (xs := [.int .i64 sg, .slice eo os.length ec, .slice xo ts.length xc]) (by simp)); obtain ⟨⟨o0, o1, o2⟩, o3, o4, o5, ol⟩ := three_cc (F2.out.mem_box (t := 25) (H := H3 + 1) (xs := [.int .i64 0, nilV, nilV]) (by simp)); clear hi hb)
        obtain ⟨u0, u1, u2⟩ := ln_box F2.out (.int .i64 sg) (.slice eo os.length ec) (.slice xo ts.length xc)
        exact bodyPost_ret (v := .tuple #[.agg #[.int .i64 sg, .slice eo os.length ec, .slice xo ts.length xc], .bool false]) (by simp [results, Tryz.results10, go_sem, u0, u1, u2]) rfl (ln_no (BB.out.trans (HB.out.mono BW.out)) B6.out NO.out F2.out (by repeat' (first | exact List.Sublist.refl _ | with_reducible refine List.Sublist.cons_cons _ ?_ | refine List.sublist_append_of_sublist_right ?_ | refine List.Sublist.cons _ ?_)) _ _ _ _ _ _ _)
      · clear hbad hq NU TL
        go_wp2_with (go_at_call 19; refine (NK.out _ BV.out).mono ?_; rintro e w2 ⟨⟨v, rfl, ⟨a7, l7, p7, rfl⟩, hi⟩, hb⟩; have HB := hid hb; have F2 := hid (FV.out.below hb); obtain ⟨⟨m0, m1, m2⟩, m3, m4, m5, ml⟩ := three_cc (F2.out.mem_box (t := 25) (H := H3) (xs := [.int .i64 sg, .slice eo os.length ec, .slice xo ts.length xc]) (by simp)); obtain ⟨⟨o0, o1, o2⟩, o3, o4, o5, ol⟩ := three_cc (F2.out.mem_box (t := 25) (H := H3 + 1) (xs := [.int .i64 0, nilV, nilV]) (by simp)); clear hi hb)
        obtain ⟨u0, u1, u2⟩ := ln_box F2.out (.int .i64 sg) (.slice eo os.length ec) (.slice xo ts.length xc)
        exact bodyPost_ret (v := .tuple #[.agg #[.int .i64 sg, .slice eo os.length ec, .slice xo ts.length xc], .bool false]) (by simp [results, Tryz.results10, go_sem, u0, u1, u2]) rfl (ln_no (BB.out.trans (HB.out.mono BW.out)) B6.out NO.out F2.out (by repeat' (first | exact List.Sublist.refl _ | with_reducible refine List.Sublist.cons_cons _ ?_ | refine List.sublist_append_of_sublist_right ?_ | refine List.Sublist.cons _ ?_)) _ _ _ _ _ _ _)
set_option maxRecDepth 100000 in
set_option maxHeartbeats 3200000 in
/-- The first line. -/
theorem line_sig (G : SyG) (R : List Rw) (B b off n c : Nat) (fs : List (List UInt8)) (w : World) (h : LnC G R B b off n c fs w) (z : Int) (hk : fs.getD 0 [] = kSig) (hq : nums fs.tail = some [z]) : Calls Tryz.prog 10 #[G.val, .slice (some ⟨b, off, none⟩) (n + 1) c, .bool false] w fun e w' => LnR G R B fs false w e w' := by
  obtain ⟨eo, ec, xo, xc, ev, _, _⟩ := SyG.read h.hF.left
  obtain ⟨c0, hbl, hT⟩ := h.hs.one
  have hn3 : n = 1 := by
    have h1 := nums_len hq
    have h2 := h.hs.1
    simp at h1 h2
    omega
  have HN := hid hn3
  clear hn3
  have LW : Hid (lineW G.dat (fs.getD 0 []) fs.tail false = some { G.dat with sigs := z }) := hid (by rw [hk, lineW_sig, hq]; rfl)
  have HT := hid hT
  have HC := hid h
  have hn := h.hn
  have hc := h.hc
  have TL : fs.tail.length = n := by rw [List.length_tail, h.hs.1]; omega
  obtain ⟨t, ht⟩ : ∃ t : ByteArray, t = ⟨(fs.getD 0 []).toArray⟩ := ⟨_, rfl⟩
  have c1 : w.cell? ⟨b, off, none⟩ = some (.string t) := by rw [ht]; exact c0
  have hbt : fs.getD 0 [] = bl t := ba_bl.1 ht.symm
  clear c0 ht
  obtain rfl : t = ⟨#[115, 105, 103, 110, 97, 108, 115]⟩ := by rw [hk] at hbt; exact (ba_bl.2 hbt).symm
  clear hbt
  obtain ⟨sg, ⟨ov, os⟩, ⟨tv, ts⟩⟩ := G
  simp only [SyG.val, Value.agg.injEq] at ev
  have ev0 := congrArg Array.toList ev
  simp only [List.cons.injEq, true_and, and_true] at ev0
  obtain ⟨rfl, rfl⟩ := ev0
  clear ev
  have FV := hid (h.boxes (.int .i64 sg) (.slice eo os.length ec) (.slice xo ts.length xc))
  have BV := hid (below2 w (sysO (.int .i64 sg) (.slice eo os.length ec) (.slice xo ts.length xc)) (sysO (.int .i64 0) nilV nilV))
  have SV : Hid (((w.alloc (sysO (.int .i64 sg) (.slice eo os.length ec) (.slice xo ts.length xc))).alloc (sysO (.int .i64 0) nilV nilV)).heap.size = w.heap.size + 2) := hid (by simp)
  clear h hT
  simp only [SyG.val]
  go_enter Tryz.func10, Tryz.ntmps10
  go_upto_region 1 with fail
  obtain ⟨V, hV⟩ : ∃ V, V = (w.alloc (sysO (.int .i64 sg) (.slice eo os.length ec) (.slice xo ts.length xc))).alloc (sysO (.int .i64 0) nilV nilV) := ⟨_, rfl⟩
  rw [← hV] at FV BV SV ⊢
  obtain ⟨H3, e3⟩ : ∃ H, H = w.heap.size := ⟨_, rfl⟩
  have E3 := hid e3
  rw [← e3] at FV SV ⊢
  have k0 := (BV.out.cell (p := ⟨b, off, none⟩) hbl).trans c1
  clear c1 e3 hV
  go_upto_region 2 with fail
  go_cut [9] from 29 to 30 (fun r wx => ∃ ao cp, r = .slice ao n cp ∧ n ≤ cp ∧ StrsOf w ao n fs.tail ∧ wx = V)
  case first =>
    by_cases hc1 : c = 1
    · have hn0 : n = 0 := by omega
      subst hn0
      subst hc1
      go_wp2_with fail
      go_meet
      exact ⟨_, _, rfl, Nat.le_refl _, HT.out _ (by simp), rfl⟩
    · go_wp2_with fail
      go_meet
      exact ⟨_, _, rfl, by omega, HT.out _ (.inl rfl), rfl⟩
  case rest =>
    obtain ⟨ra, rc, rfl, hrc, hrs, hV⟩ := hcut
    subst hV
    have RS := hid hrs
    have HF : Hid (∀ f ∈ fs.tail, f.length ≤ 1048576) := hid (fun f hf => HC.out.hf f (List.mem_of_mem_tail hf))
    obtain ⟨⟨a0, a1, a2⟩, g0, g1, g2, al⟩ := three_cc (FV.out.mem_box (t := 25) (H := H3) (xs := [.int .i64 sg, .slice eo os.length ec, .slice xo ts.length xc]) (by simp))
    obtain ⟨⟨b0, b1, b2⟩, q0, q1, q2, ql⟩ := three_cc (FV.out.mem_box (t := 25) (H := H3 + 1) (xs := [.int .i64 0, nilV, nilV]) (by simp))
    clear hrs k0
    have NU : Hid (∀ (k : Nat) W, k ≤ 100 → Below w.heap.size w W → Calls Tryz.prog 19 #[.slice ra n rc, .int .i64 (k : Int)] W fun e w' => (∃ v, e = .returned (.tuple #[v, .bool (numsN fs.tail k).isSome]) ∧ (∃ a l c, v = .slice a l c) ∧ ∀ zs, numsN fs.tail k = some zs → IntRow w' W.heap.size v zs) ∧ Below W.heap.size W w') := hid (fun k W hk hW => l5Numbers_any ra n rc k fs.tail W (by omega) hk HF.out (RS.out.below hW))
    have BB : Hid (Below B w wc) := hid (BV.out.mono HC.out.hB)
    have B6 : Hid (B ≤ H3 + 1) := hid (by have := HC.out.hB; have := E3.out; omega)
    have H3B : Hid (B ≤ H3) := hid (by have := HC.out.hB; have := E3.out; omega)
    have BW : Hid (B ≤ wc.heap.size) := hid (Nat.le_trans HC.out.hB BV.out.size)
    obtain rfl := HN.out
    have NK : Hid (∀ W, Below w.heap.size w W → Calls Tryz.prog 19 #[.slice ra 1 rc, .int .i64 1] W fun e w' => (∃ v, e = .returned (.tuple #[v, .bool true]) ∧ (∃ a l c, v = .slice a l c) ∧ ∀ zs, some [z] = some zs → IntRow w' W.heap.size v zs) ∧ Below W.heap.size W w') := hid (fun W hW => by
      have h1 := NU.out 1 W (by omega) hW
      rw [show numsN fs.tail 1 = some [z] by rw [← TL, nums_allS]; exact hq] at h1
      exact h1)
    clear NU TL hq hk
    go_upto_region 7 with (first
        | (go_at_call 19; refine (NK.out _ BV.out).mono ?_; rintro e w2 ⟨⟨v, rfl, ⟨a7, l7, p7, rfl⟩, hi⟩, hb⟩; have HI := hid (hi _ rfl); have HB := hid hb; clear hi hb))
    obtain ⟨g7, cp7, e7, hc7, _, hg7, hgl7⟩ := row_has HI.out (by simp)
    simp only [Value.slice.injEq] at e7
    obtain ⟨rfl, rfl, rfl⟩ := e7
    have FN : Hid (Flat w2 B (sysB (H3 + 1) (.int .i64 0) nilV nilV :: nuR g7 p7 [z] :: sysB H3 (.int .i64 sg) (.slice eo os.length ec) (.slice xo ts.length xc) :: ((SyG.mk sg ⟨.slice eo os.length ec, os⟩ ⟨.slice xo ts.length xc, ts⟩).rows ++ R))) := hid (FV.out.fresh BW.out HB.out HI.out).swap
    have B2 : Hid (Below B w w2) := hid (BB.out.trans (HB.out.mono BW.out))
    have Z2 : Hid (B ≤ w2.heap.size) := hid (Nat.le_trans HC.out.hB B2.out.size)
    clear HI HB FV BV BB BW NK a0 a1 a2 g0 g1 g2 al b0 b1 b2 q0 q1 q2 ql
    have c7 : w2.cell? ⟨g7, 0, none⟩ = some (.int .i64 z) := nu_cell (FN.out.own (nuR g7 p7 [z]) (by simp)) 0 z rfl
    have lg7 : g7 < w2.heap.size := hgl7
    obtain ⟨⟨a0, a1, a2⟩, g0, g1, g2, al⟩ := three_cc (FN.out.mem_box (t := 25) (H := H3) (xs := [.int .i64 sg, .slice eo os.length ec, .slice xo ts.length xc]) (by simp))
    have F7 : Hid (Flat (w2.setCell ⟨H3, 0, none⟩ (.int .i64 z)) B (sysB (H3 + 1) (.int .i64 0) nilV nilV :: sysB H3 (.int .i64 z) (.slice eo os.length ec) (.slice xo ts.length xc) :: nuR g7 p7 [z] :: ((SyG.mk sg ⟨.slice eo os.length ec, os⟩ ⟨.slice xo ts.length xc, ts⟩).rows ++ R))) := hid (((FN.out.perm (R' := sysB H3 (.int .i64 sg) (.slice eo os.length ec) (.slice xo ts.length xc) :: sysB (H3 + 1) (.int .i64 0) nilV nilV :: nuR g7 p7 [z] :: ((SyG.mk sg ⟨.slice eo os.length ec, os⟩ ⟨.slice xo ts.length xc, ts⟩).rows ++ R)) (by
        refine perm_count fun f g hf => ?_
        simp only [SyG.rows, ObsG.rows, ObsG.row, ob1, ObG.rows, InG.row, StsG.rows, TrsG.rows, StsG.row, TrsG.row, TmG.row, StG.rows, TrG.rows, SmsG.rows, SmsG.row, itC_append, itC, List.map_append, List.map_cons, List.flatMap_append, List.flatMap_cons, List.flatMap_nil, List.append_nil, List.length_append, List.length_cons, List.length_nil, List.map_nil, List.cons_append, List.nil_append, hf.c, hf.a, hf.z, Nat.zero_add]
        omega)).setBox 0 (.int .i64 z)).perm (R' := sysB (H3 + 1) (.int .i64 0) nilV nilV :: sysB H3 (.int .i64 z) (.slice eo os.length ec) (.slice xo ts.length xc) :: nuR g7 p7 [z] :: ((SyG.mk sg ⟨.slice eo os.length ec, os⟩ ⟨.slice xo ts.length xc, ts⟩).rows ++ R)) (List.Perm.swap _ _ _))
    have B5 : Hid (Below B w (w2.setCell ⟨H3, 0, none⟩ (.int .i64 z))) := hid (B2.out.setCell (p := ⟨H3, 0, none⟩) H3B.out _)
    go_upto_region 8 with fail
    clear a0 a1 a2 g0 g1 g2 al
    obtain ⟨⟨a0, a1, a2⟩, g0, g1, g2, al⟩ := three_cc (box_blk F7.out.tail.head)
    obtain ⟨⟨b0, b1, b2⟩, q0, q1, q2, ql⟩ := three_cc (box_blk F7.out.head)
    obtain ⟨Y, hY⟩ : ∃ Y, Y = w2.setCell ⟨H3, 0, none⟩ (.int .i64 z) := ⟨_, rfl⟩
    rw [← hY] at F7 B5 a0 a1 a2 g0 g1 g2 al b0 b1 b2 q0 q1 q2 ql ⊢
    clear hY
    go_wp2_with fail
    obtain ⟨u0, u1, u2⟩ := ln_box F7.out (.int .i64 z) (.slice eo os.length ec) (.slice xo ts.length xc)
    exact bodyPost_ret (v := .tuple #[.agg #[.int .i64 z, .slice eo os.length ec, .slice xo ts.length xc], .bool true]) (by simp [results, Tryz.results10, go_sem, u0, u1, u2]) rfl (ln_ans (SyG.mk z ⟨.slice eo os.length ec, os⟩ ⟨.slice xo ts.length xc, ts⟩) [sysB H3 (.int .i64 z) (.slice eo os.length ec) (.slice xo ts.length xc), nuR g7 p7 [z]] B5.out B6.out F7.out (List.Perm.refl _) (by rw [LW.out]; simp [SyG.dat]))
end Go.Proofs.YtbcjlpjohknljaaGreatDoor
namespace Go.Proofs.YtbcjlpjohknljaaGreatDoor
open Go.RowKit Go.Sort
set_option linter.unusedVariables false
set_option linter.unusedSimpArgs false
attribute [local go_sem ↓] Go.wp_at_zero Go.wp_at_succ

set_option maxRecDepth 100000 in
set_option maxHeartbeats 3200000 in
/-- A line that needs an object, and there is none. -/
theorem line_bare (G : SyG) (R : List Rw) (B b off n c : Nat) (fs : List (List UInt8)) (w : World) (h : LnC G R B b off n c fs w) (nkSig : ¬ fs.getD 0 [] = kSig) (nkObj : ¬ fs.getD 0 [] = kObj) (nkTim : ¬ fs.getD 0 [] = kTim) (hos : G.ob.xs = []) : Calls Tryz.prog 10 #[G.val, .slice (some ⟨b, off, none⟩) (n + 1) c, .bool true] w fun e w' => LnR G R B fs true w e w' := by
  obtain ⟨eo, ec, xo, xc, ev, _, _⟩ := SyG.read h.hF.left
  obtain ⟨c0, hbl, hT⟩ := h.hs.one
  have HT := hid hT
  have HC := hid h
  have hn := h.hn
  have hc := h.hc
  have TL : fs.tail.length = n := by rw [List.length_tail, h.hs.1]; omega
  obtain ⟨t, ht⟩ : ∃ t : ByteArray, t = ⟨(fs.getD 0 []).toArray⟩ := ⟨_, rfl⟩
  have c1 : w.cell? ⟨b, off, none⟩ = some (.string t) := by rw [ht]; exact c0
  have hbt : fs.getD 0 [] = bl t := ba_bl.1 ht.symm
  clear c0 ht
  have skSig := str_not (show ¬ bl t = kSig by rw [← hbt]; exact nkSig)
  have skObj := str_not (show ¬ bl t = kObj by rw [← hbt]; exact nkObj)
  have skTim := str_not (show ¬ bl t = kTim by rw [← hbt]; exact nkTim)
  simp only [kSig, kObj, kTim] at skSig skObj skTim
  have NO : Hid (lineW G.dat (fs.getD 0 []) fs.tail true = none) := hid (lineW_bare _ _ (by simp [SyG.dat, hos]) nkSig nkObj nkTim)
  have hl3 : lead (bl t) ≤ 3 := by unfold lead; repeat' split
                                   all_goals omega
  have LA := hid (fun W => leading_any t W)
  obtain ⟨k, hk⟩ : ∃ k, k = lead (bl t) := ⟨_, rfl⟩
  rw [← hk] at hl3 LA
  clear hk hbt nkSig nkObj nkTim
  obtain ⟨sg, ⟨ov, os⟩, ⟨tv, ts⟩⟩ := G
  simp only [SyG.val, Value.agg.injEq] at ev
  have ev0 := congrArg Array.toList ev
  simp only [List.cons.injEq, true_and, and_true] at ev0
  obtain ⟨rfl, rfl⟩ := ev0
  clear ev
  simp only at hos
  subst hos
  simp only [List.length_nil] at *
  have FV := hid (h.boxes (.int .i64 sg) (.slice eo 0 ec) (.slice xo ts.length xc))
  have BV := hid (below2 w (sysO (.int .i64 sg) (.slice eo 0 ec) (.slice xo ts.length xc)) (sysO (.int .i64 0) nilV nilV))
  have SV : Hid (((w.alloc (sysO (.int .i64 sg) (.slice eo 0 ec) (.slice xo ts.length xc))).alloc (sysO (.int .i64 0) nilV nilV)).heap.size = w.heap.size + 2) := hid (by simp)
  clear h hT
  simp only [SyG.val]
  go_enter Tryz.func10, Tryz.ntmps10
  go_upto_region 1 with fail
  obtain ⟨V, hV⟩ : ∃ V, V = (w.alloc (sysO (.int .i64 sg) (.slice eo 0 ec) (.slice xo ts.length xc))).alloc (sysO (.int .i64 0) nilV nilV) := ⟨_, rfl⟩
  rw [← hV] at FV BV SV ⊢
  obtain ⟨H3, e3⟩ : ∃ H, H = w.heap.size := ⟨_, rfl⟩
  have E3 := hid e3
  rw [← e3] at FV SV ⊢
  have k0 := (BV.out.cell (p := ⟨b, off, none⟩) hbl).trans c1
  clear c1 e3 hV
  go_upto_region 2 with fail
  go_cut [9] from 29 to 30 (fun r wx => ∃ ao cp, r = .slice ao n cp ∧ n ≤ cp ∧ StrsOf w ao n fs.tail ∧ wx = V)
  case first =>
    by_cases hc1 : c = 1
    · have hn0 : n = 0 := by omega
      subst hn0
      subst hc1
      go_wp2_with fail
      go_meet
      exact ⟨_, _, rfl, Nat.le_refl _, HT.out _ (by simp), rfl⟩
    · go_wp2_with fail
      go_meet
      exact ⟨_, _, rfl, by omega, HT.out _ (.inl rfl), rfl⟩
  case rest =>
    obtain ⟨ra, rc, rfl, hrc, hrs, hV⟩ := hcut
    subst hV
    have RS := hid hrs
    have HF : Hid (∀ f ∈ fs.tail, f.length ≤ 1048576) := hid (fun f hf => HC.out.hf f (List.mem_of_mem_tail hf))
    obtain ⟨⟨a0, a1, a2⟩, g0, g1, g2, al⟩ := three_cc (FV.out.mem_box (t := 25) (H := H3) (xs := [.int .i64 sg, .slice eo 0 ec, .slice xo ts.length xc]) (by simp))
    obtain ⟨⟨b0, b1, b2⟩, q0, q1, q2, ql⟩ := three_cc (FV.out.mem_box (t := 25) (H := H3 + 1) (xs := [.int .i64 0, nilV, nilV]) (by simp))
    clear hrs k0
    have NU : Hid (∀ (k : Nat) W, k ≤ 100 → Below w.heap.size w W → Calls Tryz.prog 19 #[.slice ra n rc, .int .i64 (k : Int)] W fun e w' => (∃ v, e = .returned (.tuple #[v, .bool (numsN fs.tail k).isSome]) ∧ (∃ a l c, v = .slice a l c) ∧ ∀ zs, numsN fs.tail k = some zs → IntRow w' W.heap.size v zs) ∧ Below W.heap.size W w') := hid (fun k W hk hW => l5Numbers_any ra n rc k fs.tail W (by omega) hk HF.out (RS.out.below hW))
    have BB : Hid (Below B w wc) := hid (BV.out.mono HC.out.hB)
    have B6 : Hid (B ≤ H3 + 1) := hid (by have := HC.out.hB; have := E3.out; omega)
    have H3B : Hid (B ≤ H3) := hid (by have := HC.out.hB; have := E3.out; omega)
    have BW : Hid (B ≤ wc.heap.size) := hid (Nat.le_trans HC.out.hB BV.out.size)
    have NK := hid (fun W => NU.out k W (by omega))
    obtain ⟨okb, hok⟩ : ∃ ok, ok = (numsN fs.tail k).isSome := ⟨_, rfl⟩
    rw [← hok] at NK
    clear hok NU TL
    go_upto_region 13 with (first
        | (go_at_call 20; refine (LA.out _).mono ?_; rintro e w1 ⟨rfl, hw1⟩; obtain rfl := hw1.symm)
        | (go_at_call 19; refine (NK.out _ BV.out).mono ?_; rintro e w2 ⟨⟨v, rfl, ⟨a7, l7, p7, rfl⟩, hi⟩, hb⟩; have HI := hid hi; have HB := hid hb; have F2 := hid (FV.out.below hb); obtain ⟨⟨m0, m1, m2⟩, m3, m4, m5, ml⟩ := three_cc (F2.out.mem_box (t := 25) (H := H3) (xs := [.int .i64 sg, .slice eo 0 ec, .slice xo ts.length xc]) (by simp)); obtain ⟨⟨o0, o1, o2⟩, o3, o4, o5, ol⟩ := three_cc (F2.out.mem_box (t := 25) (H := H3 + 1) (xs := [.int .i64 0, nilV, nilV]) (by simp)); clear hi hb))
    go_cut [80] from 65 to 80 (fun c wx => (∃ bb, c = .bool bb) ∧ wx = w2)
    case first =>
      by_cases hk0 : k = 0
      · subst hk0
        go_wp2_with fail
        go_meet
        exact ⟨⟨_, rfl⟩, rfl⟩
      · have hk1 : (0 : Int) < (k : Int) := by omega
        cases okb with
        | false =>
          go_wp2_with fail
          go_meet
          exact ⟨⟨_, rfl⟩, rfl⟩
        | true =>
          by_cases hnk : n = k
          · subst hnk
            go_wp2_with fail
            go_meet
            exact ⟨⟨_, rfl⟩, rfl⟩
          · go_wp2_with fail
            go_meet
            exact ⟨⟨_, rfl⟩, rfl⟩
    case rest =>
    obtain ⟨⟨bb, rfl⟩, hwc⟩ := hcut
    obtain rfl := hwc.symm
    cases bb with
    | true =>
      go_wp2_with fail
      obtain ⟨u0, u1, u2⟩ := ln_box F2.out (.int .i64 sg) (.slice eo 0 ec) (.slice xo ts.length xc)
      exact bodyPost_ret (v := .tuple #[.agg #[.int .i64 sg, .slice eo 0 ec, .slice xo ts.length xc], .bool false]) (by simp [results, Tryz.results10, go_sem, u0, u1, u2]) rfl (ln_no (BB.out.trans (HB.out.mono BW.out)) B6.out NO.out F2.out (by repeat' (first | exact List.Sublist.refl _ | with_reducible refine List.Sublist.cons_cons _ ?_ | refine List.sublist_append_of_sublist_right ?_ | refine List.Sublist.cons _ ?_)) _ _ _ _ _ _ _)
    | false =>
      go_wp2_with fail
      obtain ⟨u0, u1, u2⟩ := ln_box F2.out (.int .i64 sg) (.slice eo 0 ec) (.slice xo ts.length xc)
      exact bodyPost_ret (v := .tuple #[.agg #[.int .i64 sg, .slice eo 0 ec, .slice xo ts.length xc], .bool false]) (by simp [results, Tryz.results10, go_sem, u0, u1, u2]) rfl (ln_no (BB.out.trans (HB.out.mono BW.out)) B6.out NO.out F2.out (by repeat' (first | exact List.Sublist.refl _ | with_reducible refine List.Sublist.cons_cons _ ?_ | refine List.sublist_append_of_sublist_right ?_ | refine List.Sublist.cons _ ?_)) _ _ _ _ _ _ _)
set_option maxRecDepth 100000 in
set_option maxHeartbeats 3200000 in
/-- A transition without its numbers. -/
theorem line_on_no (G : SyG) (R : List Rw) (B b off n c : Nat) (fs : List (List UInt8)) (w : World) (h : LnC G R B b off n c fs w) (hk : fs.getD 0 [] = kOn) (hq : numsN fs.tail 3 = none) : Calls Tryz.prog 10 #[G.val, .slice (some ⟨b, off, none⟩) (n + 1) c, .bool true] w fun e w' => LnR G R B fs true w e w' := by
  obtain ⟨eo, ec, xo, xc, ev, _, _⟩ := SyG.read h.hF.left
  obtain ⟨c0, hbl, hT⟩ := h.hs.one
  have NO : Hid (lineW G.dat (fs.getD 0 []) fs.tail true = none) := hid (by rw [hk, lineW_on, hq])
  have HT := hid hT
  have HC := hid h
  have hn := h.hn
  have hc := h.hc
  have TL : fs.tail.length = n := by rw [List.length_tail, h.hs.1]; omega
  obtain ⟨t, ht⟩ : ∃ t : ByteArray, t = ⟨(fs.getD 0 []).toArray⟩ := ⟨_, rfl⟩
  have c1 : w.cell? ⟨b, off, none⟩ = some (.string t) := by rw [ht]; exact c0
  have hbt : fs.getD 0 [] = bl t := ba_bl.1 ht.symm
  clear c0 ht
  obtain rfl : t = ⟨#[111, 110]⟩ := by rw [hk] at hbt; exact (ba_bl.2 hbt).symm
  clear hbt
  obtain ⟨sg, ⟨ov, os⟩, ⟨tv, ts⟩⟩ := G
  simp only [SyG.val, Value.agg.injEq] at ev
  have ev0 := congrArg Array.toList ev
  simp only [List.cons.injEq, true_and, and_true] at ev0
  obtain ⟨rfl, rfl⟩ := ev0
  clear ev
  have FV := hid (h.boxes (.int .i64 sg) (.slice eo os.length ec) (.slice xo ts.length xc))
  have BV := hid (below2 w (sysO (.int .i64 sg) (.slice eo os.length ec) (.slice xo ts.length xc)) (sysO (.int .i64 0) nilV nilV))
  have SV : Hid (((w.alloc (sysO (.int .i64 sg) (.slice eo os.length ec) (.slice xo ts.length xc))).alloc (sysO (.int .i64 0) nilV nilV)).heap.size = w.heap.size + 2) := hid (by simp)
  clear h hT
  simp only [SyG.val]
  go_enter Tryz.func10, Tryz.ntmps10
  go_upto_region 1 with fail
  obtain ⟨V, hV⟩ : ∃ V, V = (w.alloc (sysO (.int .i64 sg) (.slice eo os.length ec) (.slice xo ts.length xc))).alloc (sysO (.int .i64 0) nilV nilV) := ⟨_, rfl⟩
  rw [← hV] at FV BV SV ⊢
  obtain ⟨H3, e3⟩ : ∃ H, H = w.heap.size := ⟨_, rfl⟩
  have E3 := hid e3
  rw [← e3] at FV SV ⊢
  have k0 := (BV.out.cell (p := ⟨b, off, none⟩) hbl).trans c1
  clear c1 e3 hV
  go_upto_region 2 with fail
  go_cut [9] from 29 to 30 (fun r wx => ∃ ao cp, r = .slice ao n cp ∧ n ≤ cp ∧ StrsOf w ao n fs.tail ∧ wx = V)
  case first =>
    by_cases hc1 : c = 1
    · have hn0 : n = 0 := by omega
      subst hn0
      subst hc1
      go_wp2_with fail
      go_meet
      exact ⟨_, _, rfl, Nat.le_refl _, HT.out _ (by simp), rfl⟩
    · go_wp2_with fail
      go_meet
      exact ⟨_, _, rfl, by omega, HT.out _ (.inl rfl), rfl⟩
  case rest =>
    obtain ⟨ra, rc, rfl, hrc, hrs, hV⟩ := hcut
    subst hV
    have RS := hid hrs
    have HF : Hid (∀ f ∈ fs.tail, f.length ≤ 1048576) := hid (fun f hf => HC.out.hf f (List.mem_of_mem_tail hf))
    obtain ⟨⟨a0, a1, a2⟩, g0, g1, g2, al⟩ := three_cc (FV.out.mem_box (t := 25) (H := H3) (xs := [.int .i64 sg, .slice eo os.length ec, .slice xo ts.length xc]) (by simp))
    obtain ⟨⟨b0, b1, b2⟩, q0, q1, q2, ql⟩ := three_cc (FV.out.mem_box (t := 25) (H := H3 + 1) (xs := [.int .i64 0, nilV, nilV]) (by simp))
    clear hrs k0
    have NU : Hid (∀ (k : Nat) W, k ≤ 100 → Below w.heap.size w W → Calls Tryz.prog 19 #[.slice ra n rc, .int .i64 (k : Int)] W fun e w' => (∃ v, e = .returned (.tuple #[v, .bool (numsN fs.tail k).isSome]) ∧ (∃ a l c, v = .slice a l c) ∧ ∀ zs, numsN fs.tail k = some zs → IntRow w' W.heap.size v zs) ∧ Below W.heap.size W w') := hid (fun k W hk hW => l5Numbers_any ra n rc k fs.tail W (by omega) hk HF.out (RS.out.below hW))
    have BB : Hid (Below B w wc) := hid (BV.out.mono HC.out.hB)
    have B6 : Hid (B ≤ H3 + 1) := hid (by have := HC.out.hB; have := E3.out; omega)
    have H3B : Hid (B ≤ H3) := hid (by have := HC.out.hB; have := E3.out; omega)
    have BW : Hid (B ≤ wc.heap.size) := hid (Nat.le_trans HC.out.hB BV.out.size)
    have LA : Hid (∀ W, Calls Tryz.prog 20 #[.string ⟨#[111, 110]⟩] W fun e w' => e = .returned (.int .i64 3) ∧ w' = W) := hid (fun W => by
      have h1 := leading_any ⟨#[111, 110]⟩ W
      rw [show lead (bl ⟨#[111, 110]⟩) = 3 from rfl] at h1
      exact h1)
    have NK : Hid (∀ W, Below w.heap.size w W → Calls Tryz.prog 19 #[.slice ra n rc, .int .i64 3] W fun e w' => (∃ v, e = .returned (.tuple #[v, .bool false]) ∧ (∃ a l c, v = .slice a l c) ∧ ∀ zs, (none : Option (List Int)) = some zs → IntRow w' W.heap.size v zs) ∧ Below W.heap.size W w') := hid (fun W hW => by
      have h1 := NU.out 3 W (by omega) hW
      rw [hq] at h1
      exact h1)
    clear NU TL hq hk
    go_wp2_with (first
        | (go_at_call 20; refine (LA.out _).mono ?_; rintro e w1 ⟨rfl, hw1⟩; obtain rfl := hw1.symm)
        | (go_at_call 19; refine (NK.out _ BV.out).mono ?_; rintro e w2 ⟨⟨v, rfl, ⟨a7, l7, p7, rfl⟩, hi⟩, hb⟩; have HI := hid hi; have HB := hid hb; have F2 := hid (FV.out.below hb); obtain ⟨⟨m0, m1, m2⟩, m3, m4, m5, ml⟩ := three_cc (F2.out.mem_box (t := 25) (H := H3) (xs := [.int .i64 sg, .slice eo os.length ec, .slice xo ts.length xc]) (by simp)); obtain ⟨⟨o0, o1, o2⟩, o3, o4, o5, ol⟩ := three_cc (F2.out.mem_box (t := 25) (H := H3 + 1) (xs := [.int .i64 0, nilV, nilV]) (by simp)); clear hi hb))
    obtain ⟨u0, u1, u2⟩ := ln_box F2.out (.int .i64 sg) (.slice eo os.length ec) (.slice xo ts.length xc)
    exact bodyPost_ret (v := .tuple #[.agg #[.int .i64 sg, .slice eo os.length ec, .slice xo ts.length xc], .bool false]) (by simp [results, Tryz.results10, go_sem, u0, u1, u2]) rfl (ln_no (BB.out.trans (HB.out.mono BW.out)) B6.out NO.out F2.out (by repeat' (first | exact List.Sublist.refl _ | with_reducible refine List.Sublist.cons_cons _ ?_ | refine List.sublist_append_of_sublist_right ?_ | refine List.Sublist.cons _ ?_)) _ _ _ _ _ _ _)
end Go.Proofs.YtbcjlpjohknljaaGreatDoor
