import Derived.Test.YtbcjlpjohknljaaGreatDoorLa
namespace Go.Proofs.YtbcjlpjohknljaaGreatDoor
open Go.RowKit Go.Sort
set_option linter.unusedVariables false
set_option linter.unusedSimpArgs false
attribute [local go_sem ↓] Go.wp_at_zero Go.wp_at_succ

set_option maxRecDepth 100000 in
set_option maxHeartbeats 3200000 in
/-- A line ahead of the first. -/
theorem line_un (G : SyG) (R : List Rw) (B b off n c : Nat) (fs : List (List UInt8)) (w : World) (h : LnC G R B b off n c fs w) (nkSig : ¬ fs.getD 0 [] = kSig) : Calls Tryz.prog 10 #[G.val, .slice (some ⟨b, off, none⟩) (n + 1) c, .bool false] w fun e w' => LnR G R B fs false w e w' := by
  obtain ⟨eo, ec, xo, xc, ev, _, _⟩ := SyG.read h.hF.left
  obtain ⟨c0, hbl, hT⟩ := h.hs.one
  have HT := hid hT
  have HC := hid h
  have hn := h.hn
  have hc := h.hc
  have TL : fs.tail.length = n := by rw [List.length_tail, h.hs.1]; omega
  obtain ⟨t, ht⟩ : ∃ t : ByteArray, t = ⟨(fs.getD 0 []).toArray⟩ := ⟨_, rfl⟩
  have c1 : w.cell? ⟨b, off, none⟩ = some (.string t) := by rw [ht]; exact c0
  have hbt : fs.getD 0 [] = bl t := ba_bl.1 ht.symm
  clear c0 ht
  have skSig := str_not (show ¬ bl t = kSig by rw [← hbt]; exact nkSig)
  simp only [kSig] at skSig
  obtain ⟨sg, ⟨ov, os⟩, ⟨tv, ts⟩⟩ := G
  simp only [SyG.val, Value.agg.injEq] at ev
  have ev0 := congrArg Array.toList ev
  simp only [List.cons.injEq, true_and, and_true] at ev0
  obtain ⟨rfl, rfl⟩ := ev0
  clear ev
  have FV := hid (h.boxes (.int .i64 sg) (.slice eo os.length ec) (.slice xo ts.length xc))
  have BV := hid (below2 w (sysO (.int .i64 sg) (.slice eo os.length ec) (.slice xo ts.length xc)) (sysO (.int .i64 0) nilV nilV))
  have SV : Hid (((w.alloc (sysO (.int .i64 sg) (.slice eo os.length ec) (.slice xo ts.length xc))).alloc (sysO (.int .i64 0) nilV nilV)).heap.size = w.heap.size + 2) := hid (by simp)
  clear h hT
  simp only [SyG.val]
  go_enter Tryz.func10, Tryz.ntmps10
  go_upto_region 1 with fail
  obtain ⟨V, hV⟩ : ∃ V, V = (w.alloc (sysO (.int .i64 sg) (.slice eo os.length ec) (.slice xo ts.length xc))).alloc (sysO (.int .i64 0) nilV nilV) := ⟨_, rfl⟩
  rw [← hV] at FV BV SV ⊢
  obtain ⟨H3, e3⟩ : ∃ H, H = w.heap.size := ⟨_, rfl⟩
  have E3 := hid e3
  rw [← e3] at FV SV ⊢
  have k0 := (BV.out.cell (p := ⟨b, off, none⟩) hbl).trans c1
  clear c1 e3 hV
  go_upto_region 2 with fail
  go_cut [9] from 29 to 30 (fun r wx => ∃ ao cp, r = .slice ao n cp ∧ n ≤ cp ∧ StrsOf w ao n fs.tail ∧ wx = V)
  case first =>
    by_cases hc1 : c = 1
    · have hn0 : n = 0 := by omega
      subst hn0
      subst hc1
      go_wp2_with fail
      go_meet
      exact ⟨_, _, rfl, Nat.le_refl _, HT.out _ (by simp), rfl⟩
    · go_wp2_with fail
      go_meet
      exact ⟨_, _, rfl, by omega, HT.out _ (.inl rfl), rfl⟩
  case rest =>
    obtain ⟨ra, rc, rfl, hrc, hrs, hV⟩ := hcut
    subst hV
    have RS := hid hrs
    have HF : Hid (∀ f ∈ fs.tail, f.length ≤ 1048576) := hid (fun f hf => HC.out.hf f (List.mem_of_mem_tail hf))
    obtain ⟨⟨a0, a1, a2⟩, g0, g1, g2, al⟩ := three_cc (FV.out.mem_box (t := 25) (H := H3) (xs := [.int .i64 sg, .slice eo os.length ec, .slice xo ts.length xc]) (by simp))
    obtain ⟨⟨b0, b1, b2⟩, q0, q1, q2, ql⟩ := three_cc (FV.out.mem_box (t := 25) (H := H3 + 1) (xs := [.int .i64 0, nilV, nilV]) (by simp))
    clear hrs k0
    have NU : Hid (∀ (k : Nat) W, k ≤ 100 → Below w.heap.size w W → Calls Tryz.prog 19 #[.slice ra n rc, .int .i64 (k : Int)] W fun e w' => (∃ v, e = .returned (.tuple #[v, .bool (numsN fs.tail k).isSome]) ∧ (∃ a l c, v = .slice a l c) ∧ ∀ zs, numsN fs.tail k = some zs → IntRow w' W.heap.size v zs) ∧ Below W.heap.size W w') := hid (fun k W hk hW => l5Numbers_any ra n rc k fs.tail W (by omega) hk HF.out (RS.out.below hW))
    have NO : Hid (lineW (SyG.mk sg ⟨.slice eo os.length ec, os⟩ ⟨.slice xo ts.length xc, ts⟩).dat (fs.getD 0 []) fs.tail false = none) := hid (lineW_un _ _ nkSig)
    have BB : Hid (Below B w wc) := hid (BV.out.mono HC.out.hB)
    have B6 : Hid (B ≤ H3 + 1) := hid (by have := HC.out.hB; have := E3.out; omega)
    go_wp2_with fail
    obtain ⟨u0, u1, u2⟩ := ln_box FV.out (.int .i64 sg) (.slice eo os.length ec) (.slice xo ts.length xc)
    exact bodyPost_ret (v := .tuple #[.agg #[.int .i64 sg, .slice eo os.length ec, .slice xo ts.length xc], .bool false]) (by simp [results, Tryz.results10, go_sem, u0, u1, u2]) rfl (ln_no BB.out B6.out NO.out FV.out (by repeat' (first | exact List.Sublist.refl _ | with_reducible refine List.Sublist.cons_cons _ ?_ | refine List.sublist_append_of_sublist_right ?_ | refine List.Sublist.cons _ ?_)) _ _ _ _ _ _ _)
end Go.Proofs.YtbcjlpjohknljaaGreatDoor
namespace Go.Proofs.YtbcjlpjohknljaaGreatDoor
open Go.RowKit Go.Sort
set_option linter.unusedVariables false
set_option linter.unusedSimpArgs false
attribute [local go_sem ↓] Go.wp_at_zero Go.wp_at_succ

theorem nums_allS (fs : List (List UInt8)) : numsN fs fs.length = nums fs := by unfold numsN; rw [if_pos (Nat.le_refl _), List.take_length]
set_option maxRecDepth 100000 in
set_option maxHeartbeats 3200000 in
/-- A line whose numbers are not as many as its keyword asks for. -/
theorem line_bad (G : SyG) (R : List Rw) (B b off n c : Nat) (fs : List (List UInt8)) (w : World) (h : LnC G R B b off n c fs w) (nkSig : ¬ fs.getD 0 [] = kSig) (nkOn : ¬ fs.getD 0 [] = kOn) (hl1 : 1 ≤ lead (fs.getD 0 [])) (hbad : ¬ (fs.tail.length = lead (fs.getD 0 []) ∧ (nums fs.tail).isSome = true)) (hno : lineW G.dat (fs.getD 0 []) fs.tail true = none) : Calls Tryz.prog 10 #[G.val, .slice (some ⟨b, off, none⟩) (n + 1) c, .bool true] w fun e w' => LnR G R B fs true w e w' := by
  obtain ⟨eo, ec, xo, xc, ev, _, _⟩ := SyG.read h.hF.left
  obtain ⟨c0, hbl, hT⟩ := h.hs.one
  have HT := hid hT
  have HC := hid h
  have hn := h.hn
  have hc := h.hc
  have TL : fs.tail.length = n := by rw [List.length_tail, h.hs.1]; omega
  obtain ⟨t, ht⟩ : ∃ t : ByteArray, t = ⟨(fs.getD 0 []).toArray⟩ := ⟨_, rfl⟩
  have c1 : w.cell? ⟨b, off, none⟩ = some (.string t) := by rw [ht]; exact c0
  have hbt : fs.getD 0 [] = bl t := ba_bl.1 ht.symm
  clear c0 ht
  have skSig := str_not (show ¬ bl t = kSig by rw [← hbt]; exact nkSig)
  have skOn := str_not (show ¬ bl t = kOn by rw [← hbt]; exact nkOn)
  simp only [kSig, kOn] at skSig skOn
  have NO := hid hno
  clear hno
  rw [hbt] at hl1 hbad
  have hl3 : lead (bl t) ≤ 3 := by unfold lead; repeat' split
                                   all_goals omega
  have LA := hid (fun W => leading_any t W)
  obtain ⟨k, hk⟩ : ∃ k, k = lead (bl t) := ⟨_, rfl⟩
  rw [← hk] at hl1 hbad hl3 LA
  clear hk hbt nkSig nkOn
  obtain ⟨sg, ⟨ov, os⟩, ⟨tv, ts⟩⟩ := G
  simp only [SyG.val, Value.agg.injEq] at ev
  have ev0 := congrArg Array.toList ev
  simp only [List.cons.injEq, true_and, and_true] at ev0
  obtain ⟨rfl, rfl⟩ := ev0
  clear ev
  have FV := hid (h.boxes (.int .i64 sg) (.slice eo os.length ec) (.slice xo ts.length xc))
  have BV := hid (below2 w (sysO (.int .i64 sg) (.slice eo os.length ec) (.slice xo ts.length xc)) (sysO (.int .i64 0) nilV nilV))
  have SV : Hid (((w.alloc (sysO (.int .i64 sg) (.slice eo os.length ec) (.slice xo ts.length xc))).alloc (sysO (.int .i64 0) nilV nilV)).heap.size = w.heap.size + 2) := hid (by simp)
  clear h hT
  simp only [SyG.val]
  go_enter Tryz.func10, Tryz.ntmps10
  go_upto_region 1 with fail
  obtain ⟨V, hV⟩ : ∃ V, V = (w.alloc (sysO (.int .i64 sg) (.slice eo os.length ec) (.slice xo ts.length xc))).alloc (sysO (.int .i64 0) nilV nilV) := ⟨_, rfl⟩
  rw [← hV] at FV BV SV ⊢
  obtain ⟨H3, e3⟩ : ∃ H, H = w.heap.size := ⟨_, rfl⟩
  have E3 := hid e3
  rw [← e3] at FV SV ⊢
  have k0 := (BV.out.cell (p := ⟨b, off, none⟩) hbl).trans c1
  clear c1 e3 hV
  go_upto_region 2 with fail
  go_cut [9] from 29 to 30 (fun r wx => ∃ ao cp, r = .slice ao n cp ∧ n ≤ cp ∧ StrsOf w ao n fs.tail ∧ wx = V)
  case first =>
    by_cases hc1 : c = 1
    · have hn0 : n = 0 := by omega
      subst hn0
      subst hc1
      go_wp2_with fail
      go_meet
      exact ⟨_, _, rfl, Nat.le_refl _, HT.out _ (by simp), rfl⟩
    · go_wp2_with fail
      go_meet
      exact ⟨_, _, rfl, by omega, HT.out _ (.inl rfl), rfl⟩
  case rest =>
    obtain ⟨ra, rc, rfl, hrc, hrs, hV⟩ := hcut
    subst hV
    have RS := hid hrs
    have HF : Hid (∀ f ∈ fs.tail, f.length ≤ 1048576) := hid (fun f hf => HC.out.hf f (List.mem_of_mem_tail hf))
    obtain ⟨⟨a0, a1, a2⟩, g0, g1, g2, al⟩ := three_cc (FV.out.mem_box (t := 25) (H := H3) (xs := [.int .i64 sg, .slice eo os.length ec, .slice xo ts.length xc]) (by simp))
    obtain ⟨⟨b0, b1, b2⟩, q0, q1, q2, ql⟩ := three_cc (FV.out.mem_box (t := 25) (H := H3 + 1) (xs := [.int .i64 0, nilV, nilV]) (by simp))
    clear hrs k0
    have NU : Hid (∀ (k : Nat) W, k ≤ 100 → Below w.heap.size w W → Calls Tryz.prog 19 #[.slice ra n rc, .int .i64 (k : Int)] W fun e w' => (∃ v, e = .returned (.tuple #[v, .bool (numsN fs.tail k).isSome]) ∧ (∃ a l c, v = .slice a l c) ∧ ∀ zs, numsN fs.tail k = some zs → IntRow w' W.heap.size v zs) ∧ Below W.heap.size W w') := hid (fun k W hk hW => l5Numbers_any ra n rc k fs.tail W (by omega) hk HF.out (RS.out.below hW))
    have BB : Hid (Below B w wc) := hid (BV.out.mono HC.out.hB)
    have B6 : Hid (B ≤ H3 + 1) := hid (by have := HC.out.hB; have := E3.out; omega)
    have H3B : Hid (B ≤ H3) := hid (by have := HC.out.hB; have := E3.out; omega)
    have BW : Hid (B ≤ wc.heap.size) := hid (Nat.le_trans HC.out.hB BV.out.size)
    have hk0 : (0 : Int) < (k : Int) := by omega
    cases hq : (numsN fs.tail k).isSome with
    | false =>
      have NK := hid (NU.out k)
      rw [hq] at NK
      clear hbad hq NU TL
      go_wp2_with (first
        | (go_at_call 20; refine (LA.out _).mono ?_; rintro e w1 ⟨rfl, hw1⟩; obtain rfl := hw1.symm)
        | (go_at_call 19; refine (NK.out _ (by omega) BV.out).mono ?_; rintro e w2 ⟨⟨v, rfl, ⟨a7, l7, p7, rfl⟩, hi⟩, hb⟩; have HI := hid hi; have HB := hid hb; have F2 := hid (FV.out.below hb); obtain ⟨⟨m0, m1, m2⟩, m3, m4, m5, ml⟩ := three_cc (F2.out.mem_box (t := 25) (H := H3) (xs := [.int .i64 sg, .slice eo os.length ec, .slice xo ts.length xc]) (by simp)); obtain ⟨⟨o0, o1, o2⟩, o3, o4, o5, ol⟩ := three_cc (F2.out.mem_box (t := 25) (H := H3 + 1) (xs := [.int .i64 0, nilV, nilV]) (by simp)); clear hi hb))
      obtain ⟨u0, u1, u2⟩ := ln_box F2.out (.int .i64 sg) (.slice eo os.length ec) (.slice xo ts.length xc)
      exact bodyPost_ret (v := .tuple #[.agg #[.int .i64 sg, .slice eo os.length ec, .slice xo ts.length xc], .bool false]) (by simp [results, Tryz.results10, go_sem, u0, u1, u2]) rfl (ln_no (BB.out.trans (HB.out.mono BW.out)) B6.out NO.out F2.out (by repeat' (first | exact List.Sublist.refl _ | with_reducible refine List.Sublist.cons_cons _ ?_ | refine List.sublist_append_of_sublist_right ?_ | refine List.Sublist.cons _ ?_)) _ _ _ _ _ _ _)
    | true =>
      have hnk : ¬ n = k := by
        intro e
        have e2 : n = k := by omega
        apply hbad
        refine ⟨by omega, ?_⟩
        rw [← e2, ← TL, nums_allS] at hq
        exact hq
      have NK := hid (NU.out k)
      rw [hq] at NK
      clear hbad hq NU TL
      go_wp2_with (first
        | (go_at_call 20; refine (LA.out _).mono ?_; rintro e w1 ⟨rfl, hw1⟩; obtain rfl := hw1.symm)
        | (go_at_call 19; refine (NK.out _ (by omega) BV.out).mono ?_; rintro e w2 ⟨⟨v, rfl, ⟨a7, l7, p7, rfl⟩, hi⟩, hb⟩; have HI := hid hi; have HB := hid hb; have F2 := hid (FV.out.below hb); obtain ⟨⟨m0, m1, m2⟩, m3, m4, m5, ml⟩ := three_cc (F2.out.mem_box (t := 25) (H := H3) (xs := [.int .i64 sg, .slice eo os.length ec, .slice xo ts.length xc]) (by simp)); obtain ⟨⟨o0, o1, o2⟩, o3, o4, o5, ol⟩ := three_cc (F2.out.mem_box (t := 25) (H := H3 + 1) (xs := [.int .i64 0, nilV, nilV]) (by simp)); clear hi hb))
      obtain ⟨u0, u1, u2⟩ := ln_box F2.out (.int .i64 sg) (.slice eo os.length ec) (.slice xo ts.length xc)
      exact bodyPost_ret (v := .tuple #[.agg #[.int .i64 sg, .slice eo os.length ec, .slice xo ts.length xc], .bool false]) (by simp [results, Tryz.results10, go_sem, u0, u1, u2]) rfl (ln_no (BB.out.trans (HB.out.mono BW.out)) B6.out NO.out F2.out (by repeat' (first | exact List.Sublist.refl _ | with_reducible refine List.Sublist.cons_cons _ ?_ | refine List.sublist_append_of_sublist_right ?_ | refine List.Sublist.cons _ ?_)) _ _ _ _ _ _ _)
end Go.Proofs.YtbcjlpjohknljaaGreatDoor
namespace Go.Proofs.YtbcjlpjohknljaaGreatDoor
open Go.RowKit Go.Sort
set_option linter.unusedVariables false

/-! What a line turns, in rows. -/
theorem Flat.nil1 {w : World} {B : Nat} {R : List Rw} (h : Flat w B R) (t : TypeId) (sz : Nat) : Flat w B (⟨t, sz, nilV, 0, []⟩ :: R) :=
  ⟨fun r hr => by
    rcases List.mem_cons.1 hr with rfl | hr
    · exact World.ownsRow_nil _ _ _ _
    · exact h.own r hr, List.pairwise_cons.2 ⟨fun b hb g hg => by simp [Value.ownBlock] at hg, h.far⟩⟩
def ob1 (p q d : Int) : ObG := ⟨p, q, d, ⟨nilV, []⟩, ⟨nilV, []⟩, ⟨nilV, []⟩, ⟨nilV, []⟩, ⟨nilV, []⟩⟩
section
variable {X Y : World} {B : Nat} {L R : List Rw} {sg : Int} {g cap : Nat}
end
theorem ob1_cells (p q d : Int) : ∀ u ∈ (ob1 p q d).cells, u.oneCell' = true := by intro u hu; simp [ObG.cells, ob1] at hu; rcases hu with rfl | rfl | rfl | rfl <;> rfl
theorem infoObL : (Tryz.prog.info? 57).map (fun i => (i.zero, i.size, i.bytes)) = some (some (.agg #[.int .i64 0, .int .i64 0, .int .i64 0, .slice none 0 0, .slice none 0 0, .slice none 0 0, .slice none 0 0, .slice none 0 0]), 8, 144) := by kernel_rfl
theorem infoTmL : (Tryz.prog.info? 59).map (fun i => (i.zero, i.size, i.bytes)) = some (some (.agg #[.int .i64 0, .int .i64 0]), 2, 16) := by kernel_rfl
theorem infoStL : (Tryz.prog.info? 68).map (fun i => (i.zero, i.size, i.bytes)) = some (some (.agg #[.int .i64 0, .int .i64 0, .slice none 0 0, .slice none 0 0]), 4, 64) := by kernel_rfl
theorem infoTrL : (Tryz.prog.info? 73).map (fun i => (i.zero, i.size, i.bytes)) = some (some (.agg #[.int .i64 0, .int .i64 0, .slice none 0 0, .int .i64 0, .slice none 0 0]), 5, 72) := by kernel_rfl
theorem infoSmL : (Tryz.prog.info? 75).map (fun i => (i.zero, i.size, i.bytes)) = some (some (.agg #[.int .i64 0, .int .i64 0, .int .i64 0, .slice none 0 0]), 4, 48) := by kernel_rfl
/-- The numbers of a line as a row. -/
def nuR (g cap : Nat) (zs : List Int) : Rw := ⟨3, 1, .slice (some ⟨g, 0, none⟩) zs.length cap, zs.length, zs.map (Value.int .i64)⟩
theorem nu_cell {w : World} {B g cap : Nat} {zs : List Int} (h : (nuR g cap zs).own w B) (i : Nat) (z : Int) (hz : zs[i]? = some z) : w.cell? ⟨g, i, none⟩ = some (.int .i64 z) := by
  have hi := (List.getElem?_eq_some_iff.1 hz).1
  have h1 : w.ownsRow B 3 1 (.slice (some ⟨g, 0, none⟩) zs.length cap) zs.length (zs.map (Value.int .i64)) := h
  rw [h1.cellAt i (by omega), List.getElem?_map, hz]
  rfl
end Go.Proofs.YtbcjlpjohknljaaGreatDoor
