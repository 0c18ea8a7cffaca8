import Derived.Test.YtbcjlpjohknljaaGreatDoorLb
import Derived.Test.YtbcjlpjohknljaaGreatDoorZ0
namespace Go.Proofs.YtbcjlpjohknljaaGreatDoor
open Go.RowKit Go.Sort
set_option linter.unusedVariables false
set_option linter.unusedSimpArgs false
attribute [local go_sem ↓] Go.wp_at_zero Go.wp_at_succ

set_option maxRecDepth 100000 in
set_option maxHeartbeats 3200000 in
/-- A line that gives an object. -/
theorem line_obj (G : SyG) (R : List Rw) (B b off n c : Nat) (fs : List (List UInt8)) (w : World) (h : LnC G R B b off n c fs w) (p q d : Int) (hk : fs.getD 0 [] = kObj) (hq : nums fs.tail = some [p, q, d]) : Calls Tryz.prog 10 #[G.val, .slice (some ⟨b, off, none⟩) (n + 1) c, .bool true] w fun e w' => LnR G R B fs true w e w' := by
  obtain ⟨eo, ec, xo, xc, ev, _, _⟩ := SyG.read h.hF.left
  obtain ⟨c0, hbl, hT⟩ := h.hs.one
  have hn3 : n = 3 := by
    have h1 := nums_len hq
    have h2 := h.hs.1
    simp at h1 h2
    omega
  have HN := hid hn3
  clear hn3
  have LW : Hid (lineW G.dat (fs.getD 0 []) fs.tail true = some { G.dat with obs := G.dat.obs ++ [⟨p, q, d, [], [], [], [], []⟩] }) := hid (by rw [hk, lineW_obj, hq])
  obtain ⟨i0, hi, hz0, hz1, hz2⟩ := info_parts infoObL
  have LO : Hid (G.ob.xs.length ≤ 1048576) := hid (by have := h.hz.o; simpa [SyG.dat] using this)
  have HT := hid hT
  have HC := hid h
  have hn := h.hn
  have hc := h.hc
  have TL : fs.tail.length = n := by rw [List.length_tail, h.hs.1]; omega
  obtain ⟨t, ht⟩ : ∃ t : ByteArray, t = ⟨(fs.getD 0 []).toArray⟩ := ⟨_, rfl⟩
  have c1 : w.cell? ⟨b, off, none⟩ = some (.string t) := by rw [ht]; exact c0
  have hbt : fs.getD 0 [] = bl t := ba_bl.1 ht.symm
  clear c0 ht
  obtain rfl : t = ⟨#[111, 98, 106, 101, 99, 116]⟩ := by rw [hk] at hbt; exact (ba_bl.2 hbt).symm
  clear hbt
  obtain ⟨sg, ⟨ov, os⟩, ⟨tv, ts⟩⟩ := G
  simp only [SyG.val, Value.agg.injEq] at ev
  have ev0 := congrArg Array.toList ev
  simp only [List.cons.injEq, true_and, and_true] at ev0
  obtain ⟨rfl, rfl⟩ := ev0
  clear ev
  have FV := hid (h.boxes (.int .i64 sg) (.slice eo os.length ec) (.slice xo ts.length xc))
  have BV := hid (below2 w (sysO (.int .i64 sg) (.slice eo os.length ec) (.slice xo ts.length xc)) (sysO (.int .i64 0) nilV nilV))
  have SV : Hid (((w.alloc (sysO (.int .i64 sg) (.slice eo os.length ec) (.slice xo ts.length xc))).alloc (sysO (.int .i64 0) nilV nilV)).heap.size = w.heap.size + 2) := hid (by simp)
  clear h hT
  simp only [SyG.val]
  go_enter Tryz.func10, Tryz.ntmps10
  go_upto_region 1 with fail
  obtain ⟨V, hV⟩ : ∃ V, V = (w.alloc (sysO (.int .i64 sg) (.slice eo os.length ec) (.slice xo ts.length xc))).alloc (sysO (.int .i64 0) nilV nilV) := ⟨_, rfl⟩
  rw [← hV] at FV BV SV ⊢
  obtain ⟨H3, e3⟩ : ∃ H, H = w.heap.size := ⟨_, rfl⟩
  have E3 := hid e3
  rw [← e3] at FV SV ⊢
  have k0 := (BV.out.cell (p := ⟨b, off, none⟩) hbl).trans c1
  clear c1 e3 hV
  go_upto_region 2 with fail
  go_cut [9] from 29 to 30 (fun r wx => ∃ ao cp, r = .slice ao n cp ∧ n ≤ cp ∧ StrsOf w ao n fs.tail ∧ wx = V)
  case first =>
    by_cases hc1 : c = 1
    · have hn0 : n = 0 := by omega
      subst hn0
      subst hc1
      go_wp2_with fail
      go_meet
      exact ⟨_, _, rfl, Nat.le_refl _, HT.out _ (by simp), rfl⟩
    · go_wp2_with fail
      go_meet
      exact ⟨_, _, rfl, by omega, HT.out _ (.inl rfl), rfl⟩
  case rest =>
    obtain ⟨ra, rc, rfl, hrc, hrs, hV⟩ := hcut
    subst hV
    have RS := hid hrs
    have HF : Hid (∀ f ∈ fs.tail, f.length ≤ 1048576) := hid (fun f hf => HC.out.hf f (List.mem_of_mem_tail hf))
    obtain ⟨⟨a0, a1, a2⟩, g0, g1, g2, al⟩ := three_cc (FV.out.mem_box (t := 25) (H := H3) (xs := [.int .i64 sg, .slice eo os.length ec, .slice xo ts.length xc]) (by simp))
    obtain ⟨⟨b0, b1, b2⟩, q0, q1, q2, ql⟩ := three_cc (FV.out.mem_box (t := 25) (H := H3 + 1) (xs := [.int .i64 0, nilV, nilV]) (by simp))
    clear hrs k0
    have NU : Hid (∀ (k : Nat) W, k ≤ 100 → Below w.heap.size w W → Calls Tryz.prog 19 #[.slice ra n rc, .int .i64 (k : Int)] W fun e w' => (∃ v, e = .returned (.tuple #[v, .bool (numsN fs.tail k).isSome]) ∧ (∃ a l c, v = .slice a l c) ∧ ∀ zs, numsN fs.tail k = some zs → IntRow w' W.heap.size v zs) ∧ Below W.heap.size W w') := hid (fun k W hk hW => l5Numbers_any ra n rc k fs.tail W (by omega) hk HF.out (RS.out.below hW))
    have BB : Hid (Below B w wc) := hid (BV.out.mono HC.out.hB)
    have B6 : Hid (B ≤ H3 + 1) := hid (by have := HC.out.hB; have := E3.out; omega)
    have H3B : Hid (B ≤ H3) := hid (by have := HC.out.hB; have := E3.out; omega)
    have BW : Hid (B ≤ wc.heap.size) := hid (Nat.le_trans HC.out.hB BV.out.size)
    obtain rfl := HN.out
    have LA : Hid (∀ W, Calls Tryz.prog 20 #[.string ⟨#[111, 98, 106, 101, 99, 116]⟩] W fun e w' => e = .returned (.int .i64 3) ∧ w' = W) := hid (fun W => by
      have h1 := leading_any ⟨#[111, 98, 106, 101, 99, 116]⟩ W
      rw [show lead (bl ⟨#[111, 98, 106, 101, 99, 116]⟩) = 3 from rfl] at h1
      exact h1)
    have NK : Hid (∀ W, Below w.heap.size w W → Calls Tryz.prog 19 #[.slice ra 3 rc, .int .i64 3] W fun e w' => (∃ v, e = .returned (.tuple #[v, .bool true]) ∧ (∃ a l c, v = .slice a l c) ∧ ∀ zs, some [p, q, d] = some zs → IntRow w' W.heap.size v zs) ∧ Below W.heap.size W w') := hid (fun W hW => by
      have h1 := NU.out 3 W (by omega) hW
      rw [show numsN fs.tail 3 = some [p, q, d] by rw [← TL, nums_allS]; exact hq] at h1
      exact h1)
    clear NU TL hq hk
    go_upto_region 17 with (first
        | (go_at_call 20; refine (LA.out _).mono ?_; rintro e w1 ⟨rfl, hw1⟩; obtain rfl := hw1.symm)
        | (go_at_call 19; refine (NK.out _ BV.out).mono ?_; rintro e w2 ⟨⟨v, rfl, ⟨a7, l7, p7, rfl⟩, hi⟩, hb⟩; have HI := hid (hi _ rfl); have HB := hid hb; clear hi hb))
    obtain ⟨g7, cp7, e7, hc7, _, hg7, hgl7⟩ := row_has HI.out (by simp)
    simp only [Value.slice.injEq] at e7
    obtain ⟨rfl, rfl, rfl⟩ := e7
    have FN : Hid (Flat w2 B (sysB (H3 + 1) (.int .i64 0) nilV nilV :: nuR g7 p7 [p, q, d] :: sysB H3 (.int .i64 sg) (.slice eo os.length ec) (.slice xo ts.length xc) :: ((SyG.mk sg ⟨.slice eo os.length ec, os⟩ ⟨.slice xo ts.length xc, ts⟩).rows ++ R))) := hid (FV.out.fresh BW.out HB.out HI.out).swap
    have B2 : Hid (Below B w w2) := hid (BB.out.trans (HB.out.mono BW.out))
    have Z2 : Hid (B ≤ w2.heap.size) := hid (Nat.le_trans HC.out.hB B2.out.size)
    clear HI HB FV BV BB BW NK a0 a1 a2 g0 g1 g2 al b0 b1 b2 q0 q1 q2 ql
    have LO' : os.length ≤ 1048576 := LO.out
    have FW : Hid (Flat w2 B ((ObsG.mk (.slice eo os.length ec) os).row :: sysB H3 (.int .i64 sg) (.slice eo os.length ec) (.slice xo ts.length xc) :: (sysB (H3 + 1) (.int .i64 0) nilV nilV :: nuR g7 p7 [p, q, d] :: (TmG.mk (.slice xo ts.length xc) ts).row :: (os.flatMap ObG.rows ++ R)))) := hid (FN.out.perm (by
      refine perm_count fun f g hf => ?_
      simp only [SyG.rows, ObsG.rows, List.cons_append, hf.c, hf.a]; omega))
    have CS : Hid (∀ X, Flat X B (sysB H3 (.int .i64 sg) (.slice eo os.length ec) (.slice xo ts.length xc) :: (sysB (H3 + 1) (.int .i64 0) nilV nilV :: nuR g7 p7 [p, q, d] :: (TmG.mk (.slice xo ts.length xc) ts).row :: (os.flatMap ObG.rows ++ R))) → X.cell? ⟨H3, 1, none⟩ = some (.slice eo os.length ec) ∧ X.cell? ⟨g7, 0, none⟩ = some (.int .i64 p) ∧ X.cell? ⟨g7, 1, none⟩ = some (.int .i64 q) ∧ X.cell? ⟨g7, 2, none⟩ = some (.int .i64 d)) := hid (fun X hX => by
      have h7 : (nuR g7 p7 [p, q, d]).own X B := hX.own _ (by simp)
      exact ⟨(three_cc (box_blk hX.head)).1.2.1, nu_cell h7 0 p rfl, nu_cell h7 1 q rfl, nu_cell h7 2 d rfl⟩)
    clear FN LO
    obtain ⟨U, hU⟩ : ∃ U, U = (w2.alloc (.cells #[.int .i64 p, .int .i64 q, .int .i64 d, .slice none 0 0, .slice none 0 0, .slice none 0 0, .slice none 0 0, .slice none 0 0] 57)).drew := ⟨_, rfl⟩
    have BU : Hid (Below w2.heap.size w2 U) := hid (by rw [hU]; exact (below1 _ _).drew)
    have FU := hid (FW.out.below BU.out)
    have KU := hid (CS.out U FU.out.tail)
    have HSd := hid (CS.out w2.drew FW.out.tail.drew)
    have NB : U.heap[w2.heap.size]? = some (.cells #[.int .i64 p, .int .i64 q, .int .i64 d, .slice none 0 0, .slice none 0 0, .slice none 0 0, .slice none 0 0, .slice none 0 0] 57 (0, 0)) := by rw [hU]; exact heap_alloc_new w2 _
    have NWU := hid (World.news_of_block NB)
    have SU : Hid (U.heap.size = w2.heap.size + 1) := hid (by rw [hU]; simp)
    clear NB
    have hbU : Hid (B ≤ U.heap.size) := hid (by have := SU.out; have := Z2.out; omega)
    refine wp_region_noPanic ?_
    refine wp_region_till (st := 15) (S := fun u => u.cell? ⟨H3, 1, none⟩ = some (.slice eo os.length ec) ∧ u.cell? ⟨g7, 0, none⟩ = some (.int .i64 p) ∧ u.cell? ⟨g7, 1, none⟩ = some (.int .i64 q) ∧ u.cell? ⟨g7, 2, none⟩ = some (.int .i64 d)) (by kernel_rfl) ?_
    refine wpTill_take (i := 0) (d := some 85) (v := ?_) rfl rfl (by kernel_rfl) (by kernel_rfl) (by kernel_rfl) (by kernel_rfl) (by kernel_rfl) (fun _ _ _ h => h) (Or.inl ⟨by rfl, ?_⟩) HSd.out ?_
    case refine_2 => (intro u hu; obtain ⟨s0, s1, s2, s3⟩ := hu; go_simp; first | done | with_reducible rfl)
    simp only [Act.put, List.setIfInBounds_toArray, List.set_cons_zero, List.set_cons_succ]
    refine wpTill_take (i := 1) (d := some 86) (v := ?_) rfl rfl (by kernel_rfl) (by kernel_rfl) (by kernel_rfl) (by kernel_rfl) (by kernel_rfl) (fun _ _ _ h => h) (Or.inl ⟨by rfl, ?_⟩) HSd.out ?_
    case refine_2 => (intro u hu; obtain ⟨s0, s1, s2, s3⟩ := hu; go_simp; first | done | with_reducible rfl)
    simp only [Act.put, List.setIfInBounds_toArray, List.set_cons_zero, List.set_cons_succ]
    refine wpTill_take (i := 2) (d := some 87) (v := ?_) rfl rfl (by kernel_rfl) (by kernel_rfl) (by kernel_rfl) (by kernel_rfl) (by kernel_rfl) (fun _ _ _ h => h) (Or.inl ⟨by rfl, ?_⟩) HSd.out ?_
    case refine_2 => (intro u hu; obtain ⟨s0, s1, s2, s3⟩ := hu; go_simp; first | done | with_reducible rfl)
    simp only [Act.put, List.setIfInBounds_toArray, List.set_cons_zero, List.set_cons_succ]
    refine wpTill_take (i := 3) (d := some 88) (v := ?_) rfl rfl (by kernel_rfl) (by kernel_rfl) (by kernel_rfl) (by kernel_rfl) (by kernel_rfl) (fun _ _ _ h => h) (Or.inl ⟨by rfl, ?_⟩) HSd.out ?_
    case refine_2 => (intro u hu; obtain ⟨s0, s1, s2, s3⟩ := hu; go_simp; first | done | with_reducible rfl)
    simp only [Act.put, List.setIfInBounds_toArray, List.set_cons_zero, List.set_cons_succ]
    refine wpTill_take (i := 4) (d := some 89) (v := ?_) rfl rfl (by kernel_rfl) (by kernel_rfl) (by kernel_rfl) (by kernel_rfl) (by kernel_rfl) (fun _ _ _ h => h) (Or.inl ⟨by rfl, ?_⟩) HSd.out ?_
    case refine_2 => (intro u hu; obtain ⟨s0, s1, s2, s3⟩ := hu; go_simp; first | done | with_reducible rfl)
    simp only [Act.put, List.setIfInBounds_toArray, List.set_cons_zero, List.set_cons_succ]
    refine wpTill_take (i := 5) (d := some 90) (v := ?_) rfl rfl (by kernel_rfl) (by kernel_rfl) (by kernel_rfl) (by kernel_rfl) (by kernel_rfl) (fun _ _ _ h => h) (Or.inl ⟨by rfl, ?_⟩) HSd.out ?_
    case refine_2 => (intro u hu; obtain ⟨s0, s1, s2, s3⟩ := hu; go_simp; first | done | with_reducible rfl)
    simp only [Act.put, List.setIfInBounds_toArray, List.set_cons_zero, List.set_cons_succ]
    refine wpTill_take (i := 6) (d := some 91) (v := ?_) rfl rfl (by kernel_rfl) (by kernel_rfl) (by kernel_rfl) (by kernel_rfl) (by kernel_rfl) (fun _ _ _ h => h) (Or.inl ⟨by rfl, ?_⟩) HSd.out ?_
    case refine_2 => (intro u hu; obtain ⟨s0, s1, s2, s3⟩ := hu; go_simp; first | done | with_reducible rfl)
    simp only [Act.put, List.setIfInBounds_toArray, List.set_cons_zero, List.set_cons_succ]
    refine wpTill_take (i := 7) (d := some 92) (v := ?_) rfl rfl (by kernel_rfl) (by kernel_rfl) (by kernel_rfl) (by kernel_rfl) (by kernel_rfl) (fun _ _ _ h => h) (Or.inl ⟨by rfl, ?_⟩) HSd.out ?_
    case refine_2 => (intro u hu; obtain ⟨s0, s1, s2, s3⟩ := hu; go_simp; first | done | with_reducible rfl)
    simp only [Act.put, List.setIfInBounds_toArray, List.set_cons_zero, List.set_cons_succ]
    refine wpTill_take (i := 8) (d := some 93) (v := ?_) rfl rfl (by kernel_rfl) (by kernel_rfl) (by kernel_rfl) (by kernel_rfl) (by kernel_rfl) (fun _ _ _ h => h) (Or.inl ⟨by rfl, ?_⟩) HSd.out ?_
    case refine_2 => (intro u hu; obtain ⟨s0, s1, s2, s3⟩ := hu; go_simp; first | done | with_reducible rfl)
    simp only [Act.put, List.setIfInBounds_toArray, List.set_cons_zero, List.set_cons_succ]
    refine wpTill_take (i := 9) (d := some 94) (v := ?_) rfl rfl (by kernel_rfl) (by kernel_rfl) (by kernel_rfl) (by kernel_rfl) (by kernel_rfl) (fun _ _ _ h => h) (Or.inl ⟨by rfl, ?_⟩) HSd.out ?_
    case refine_2 => (intro u hu; obtain ⟨s0, s1, s2, s3⟩ := hu; go_simp; first | done | with_reducible rfl)
    simp only [Act.put, List.setIfInBounds_toArray, List.set_cons_zero, List.set_cons_succ]
    refine wpTill_take (i := 10) (d := some 95) (v := ?_) rfl rfl (by kernel_rfl) (by kernel_rfl) (by kernel_rfl) (by kernel_rfl) (by kernel_rfl) (fun _ _ _ h => h) (Or.inl ⟨by rfl, ?_⟩) HSd.out ?_
    case refine_2 => (intro u hu; obtain ⟨s0, s1, s2, s3⟩ := hu; go_simp; first | done | with_reducible rfl)
    simp only [Act.put, List.setIfInBounds_toArray, List.set_cons_zero, List.set_cons_succ]
    refine wpTill_take (i := 11) (d := some 96) (v := ?_) rfl rfl (by kernel_rfl) (by kernel_rfl) (by kernel_rfl) (by kernel_rfl) (by kernel_rfl) (fun _ _ _ h => h) (Or.inl ⟨by rfl, ?_⟩) HSd.out ?_
    case refine_2 => (intro u hu; obtain ⟨s0, s1, s2, s3⟩ := hu; go_simp; first | done | with_reducible rfl)
    simp only [Act.put, List.setIfInBounds_toArray, List.set_cons_zero, List.set_cons_succ]
    refine wpTill_step (i := 12) (by kernel_rfl) rfl (fun K hK => ?_)
    go_simp
    rw [← hU]
    refine hK _ _ KU.out ?_
    clear hU hK K
    refine wpTill_step (i := 13) (by kernel_rfl) rfl (fun K hK => ?_)
    refine step_append_lies _ (by rfl) _ _ _ (by rfl) B 57 i0 _ 8 144 Tryz.underlying22 hi hz0 hz1 hz2 rfl (by omega) (.slice eo os.length ec) os.length (os.flatMap ObG.cells) (by simp [Act.eval]) FU.out.head ⟨w2.heap.size, 0, none⟩ 1 1 [.int .i64 p, .int .i64 q, .int .i64 d, .slice none 0 0, .slice none 0 0, .slice none 0 0, .slice none 0 0, .slice none 0 0] (by simp [Act.eval]) (by simp) NWU.out (ob1_cells p q d) (by omega) (by unfold maxLen; omega) (by omega) (by have := SU.out; have := Z2.out; omega) U.heap.size rfl ?_
    intro gg cap5 w5 hown hgrow hat hlt5
    have F5 := hid (FU.out.app hgrow hown hat)
    have K5 := hid (CS.out w5 F5.out.tail)
    have G5 : Hid (Below B U w5) := hid ((Below.refl B U).grown hgrow hbU.out (fun k hk => (FU.out.head.lt k hk).1))
    clear hown hgrow hat
    refine hK _ _ K5.out ?_
    clear hK K
    refine wpTill_step (i := 14) (by kernel_rfl) rfl (fun K hK => ?_)
    go_simp
    refine hK _ _ K5.out ?_
    clear hK K
    obtain ⟨⟨a0, a1, a2⟩, g0, g1, g2, al⟩ := three_cc (box_blk F5.out.tail.head)
    refine wpTill_last (by kernel_rfl) rfl (by kernel_rfl) (fun K hK => ?_)
    go_simp
    refine hK _ _ ?_
    clear hK K
    refine wpTill_done (by kernel_rfl) ?_ _
    refine NoPanic.normal ?_
    have F6 : Hid (Flat (w5.setCell ⟨H3, 1, none⟩ (.slice (some ⟨gg, 0, none⟩) (os.length + 1) cap5)) B (sysB H3 (.int .i64 sg) (.slice (some ⟨gg, 0, none⟩) (os.length + 1) cap5) (.slice xo ts.length xc) :: (⟨57, 8, (.slice (some ⟨gg, 0, none⟩) (os.length + 1) cap5), os.length + 1, os.flatMap ObG.cells ++ (ob1 p q d).cells⟩ : Rw) :: (sysB (H3 + 1) (.int .i64 0) nilV nilV :: nuR g7 p7 [p, q, d] :: (TmG.mk (.slice xo ts.length xc) ts).row :: (os.flatMap ObG.rows ++ R)))) := hid (F5.out.swap.setBox 1 (.slice (some ⟨gg, 0, none⟩) (os.length + 1) cap5))
    have F7 : Hid (Flat (w5.setCell ⟨H3, 1, none⟩ (.slice (some ⟨gg, 0, none⟩) (os.length + 1) cap5)) B (sysB (H3 + 1) (.int .i64 0) nilV nilV :: ([sysB H3 (.int .i64 sg) (.slice (some ⟨gg, 0, none⟩) (os.length + 1) cap5) (.slice xo ts.length xc), nuR g7 p7 [p, q, d]] ++ ((SyG.mk sg ⟨(.slice (some ⟨gg, 0, none⟩) (os.length + 1) cap5), os ++ [ob1 p q d]⟩ ⟨.slice xo ts.length xc, ts⟩).rows ++ R)))) := hid ((((((F6.out.nil1 3 1).nil1 3 1).nil1 3 1).nil1 68 4).nil1 73 5).perm (by
        refine perm_count fun f g hf => ?_
        simp only [SyG.rows, ObsG.rows, ObsG.row, ob1, ObG.rows, InG.row, StsG.rows, TrsG.rows, StsG.row, TrsG.row, TmG.row, StG.rows, TrG.rows, SmsG.rows, SmsG.row, itC_append, itC, List.map_append, List.map_cons, List.flatMap_append, List.flatMap_cons, List.flatMap_nil, List.append_nil, List.length_append, List.length_cons, List.length_nil, List.map_nil, List.cons_append, List.nil_append, hf.c, hf.a, hf.z, Nat.zero_add]
        omega))
    have B5 : Hid (Below B w (w5.setCell ⟨H3, 1, none⟩ (.slice (some ⟨gg, 0, none⟩) (os.length + 1) cap5))) := hid ((((B2.out.trans (BU.out.mono Z2.out)).trans G5.out).setCell (p := ⟨H3, 1, none⟩) H3B.out _))
    clear F5 F6 FU FW K5 KU HSd NWU CS a0 a1 a2 g0 g1 g2 al
    obtain ⟨⟨a0, a1, a2⟩, g0, g1, g2, al⟩ := three_cc (box_blk F7.out.tail.head)
    obtain ⟨⟨b0, b1, b2⟩, q0, q1, q2, ql⟩ := three_cc (box_blk F7.out.head)
    obtain ⟨Y, hY⟩ : ∃ Y, Y = (w5.setCell ⟨H3, 1, none⟩ (.slice (some ⟨gg, 0, none⟩) (os.length + 1) cap5)) := ⟨_, rfl⟩
    rw [← hY] at F7 B5 a0 a1 a2 g0 g1 g2 al b0 b1 b2 q0 q1 q2 ql ⊢
    clear hY
    go_wp2_with fail
    obtain ⟨u0, u1, u2⟩ := ln_box F7.out (.int .i64 sg) (.slice (some ⟨gg, 0, none⟩) (os.length + 1) cap5) (.slice xo ts.length xc)
    exact bodyPost_ret (v := .tuple #[.agg #[.int .i64 sg, .slice (some ⟨gg, 0, none⟩) (os.length + 1) cap5, .slice xo ts.length xc], .bool true]) (by simp [results, Tryz.results10, go_sem, u0, u1, u2]) rfl (ln_ans (SyG.mk sg ⟨(.slice (some ⟨gg, 0, none⟩) (os.length + 1) cap5), os ++ [ob1 p q d]⟩ ⟨.slice xo ts.length xc, ts⟩) [sysB H3 (.int .i64 sg) (.slice (some ⟨gg, 0, none⟩) (os.length + 1) cap5) (.slice xo ts.length xc), nuR g7 p7 [p, q, d]] B5.out B6.out F7.out (List.Perm.refl _) (by rw [LW.out]; simp [SyG.dat, ObG.dat, ob1]))
end Go.Proofs.YtbcjlpjohknljaaGreatDoor
namespace Go.Proofs.YtbcjlpjohknljaaGreatDoor
open Go.RowKit Go.Sort
set_option linter.unusedVariables false

/-! The last element of a list of objects, states, transitions. -/
section
variable {X : World} {B g n cap : Nat} {R : List Rw}
theorem ob_cell {p : List ObG} {o : ObG} (h : (ObsG.mk (.slice (some ⟨g, 0, none⟩) (p.length + 1) cap) (p ++ [o])).row.own X B) (j : Nat) (hj : j < 8) : X.cell? ⟨g, p.length * 8 + j, none⟩ = o.cells[j]? := by
  have h1 : X.ownsRow B 57 8 (.slice (some ⟨g, 0, none⟩) (p.length + 1) cap) (p.length + 1) ((p ++ o :: []).flatMap ObG.cells) := by
    have := h
    simp only [Rw.own, ObsG.row, List.length_append, List.length_cons, List.length_nil, Nat.zero_add] at this
    exact this
  exact mid_cell ObG.cells 8 (fun _ => rfl) h1 j hj
theorem st_cell {p : List StG} {o : StG} (h : (StsG.mk (.slice (some ⟨g, 0, none⟩) (p.length + 1) cap) (p ++ [o])).row.own X B) (j : Nat) (hj : j < 4) : X.cell? ⟨g, p.length * 4 + j, none⟩ = o.cells[j]? := by
  have h1 : X.ownsRow B 68 4 (.slice (some ⟨g, 0, none⟩) (p.length + 1) cap) (p.length + 1) ((p ++ o :: []).flatMap StG.cells) := by
    have := h
    simp only [Rw.own, StsG.row, List.length_append, List.length_cons, List.length_nil, Nat.zero_add] at this
    exact this
  exact mid_cell StG.cells 4 (fun _ => rfl) h1 j hj
theorem tr_cell {p : List TrG} {o : TrG} (h : (TrsG.mk (.slice (some ⟨g, 0, none⟩) (p.length + 1) cap) (p ++ [o])).row.own X B) (j : Nat) (hj : j < 5) : X.cell? ⟨g, p.length * 5 + j, none⟩ = o.cells[j]? := by
  have h1 : X.ownsRow B 73 5 (.slice (some ⟨g, 0, none⟩) (p.length + 1) cap) (p.length + 1) ((p ++ o :: []).flatMap TrG.cells) := by
    have := h
    simp only [Rw.own, TrsG.row, List.length_append, List.length_cons, List.length_nil, Nat.zero_add] at this
    exact this
  exact mid_cell TrG.cells 5 (fun _ => rfl) h1 j hj
theorem ob_froz {p : List ObG} {o : ObG} (h : (ObsG.mk (.slice (some ⟨g, 0, none⟩) (p.length + 1) cap) (p ++ [o])).row.own X B) (j : Nat) : X.frozen? ⟨g, j, none⟩ = false ∧ g < X.heap.size := by
  have h1 : X.ownsRow B 57 8 (.slice (some ⟨g, 0, none⟩) (p.length + 1) cap) (p.length + 1) ((p ++ o :: []).flatMap ObG.cells) := by
    have := h
    simp only [Rw.own, ObsG.row, List.length_append, List.length_cons, List.length_nil, Nat.zero_add] at this
    exact this
  exact ⟨h1.frozenAt j, (h1.lt g rfl).2⟩
theorem st_froz {p : List StG} {o : StG} (h : (StsG.mk (.slice (some ⟨g, 0, none⟩) (p.length + 1) cap) (p ++ [o])).row.own X B) (j : Nat) : X.frozen? ⟨g, j, none⟩ = false ∧ g < X.heap.size := by
  have h1 : X.ownsRow B 68 4 (.slice (some ⟨g, 0, none⟩) (p.length + 1) cap) (p.length + 1) ((p ++ o :: []).flatMap StG.cells) := by
    have := h
    simp only [Rw.own, StsG.row, List.length_append, List.length_cons, List.length_nil, Nat.zero_add] at this
    exact this
  exact ⟨h1.frozenAt j, (h1.lt g rfl).2⟩
theorem tr_froz {p : List TrG} {o : TrG} (h : (TrsG.mk (.slice (some ⟨g, 0, none⟩) (p.length + 1) cap) (p ++ [o])).row.own X B) (j : Nat) : X.frozen? ⟨g, j, none⟩ = false ∧ g < X.heap.size := by
  have h1 : X.ownsRow B 73 5 (.slice (some ⟨g, 0, none⟩) (p.length + 1) cap) (p.length + 1) ((p ++ o :: []).flatMap TrG.cells) := by
    have := h
    simp only [Rw.own, TrsG.row, List.length_append, List.length_cons, List.length_nil, Nat.zero_add] at this
    exact this
  exact ⟨h1.frozenAt j, (h1.lt g rfl).2⟩
theorem ob_set {p : List ObG} {o o' : ObG} (h : Flat X B ((ObsG.mk (.slice (some ⟨g, 0, none⟩) (p.length + 1) cap) (p ++ [o])).row :: R)) (j : Nat) (u : Value) (hj : j < 8) (hx : o.cells.set j u = o'.cells) : Flat (X.setCell ⟨g, p.length * 8 + j, none⟩ u) B ((ObsG.mk (.slice (some ⟨g, 0, none⟩) (p.length + 1) cap) (p ++ [o'])).row :: R) := by
  have h1 : Flat X B (⟨57, 8, .slice (some ⟨g, 0, none⟩) (p.length + 1) cap, p.length + 1, (p ++ o :: []).flatMap ObG.cells⟩ :: R) := by
    have := h
    simp only [ObsG.row, List.length_append, List.length_cons, List.length_nil, Nat.zero_add] at this
    exact this
  have h2 := Flat.setEl (m := 0) ObG.cells 8 (fun _ => rfl) h1 j u hj hx
  simp only [ObsG.row, List.length_append, List.length_cons, List.length_nil, Nat.zero_add]
  exact h2
theorem st_set {p : List StG} {o o' : StG} (h : Flat X B ((StsG.mk (.slice (some ⟨g, 0, none⟩) (p.length + 1) cap) (p ++ [o])).row :: R)) (j : Nat) (u : Value) (hj : j < 4) (hx : o.cells.set j u = o'.cells) : Flat (X.setCell ⟨g, p.length * 4 + j, none⟩ u) B ((StsG.mk (.slice (some ⟨g, 0, none⟩) (p.length + 1) cap) (p ++ [o'])).row :: R) := by
  have h1 : Flat X B (⟨68, 4, .slice (some ⟨g, 0, none⟩) (p.length + 1) cap, p.length + 1, (p ++ o :: []).flatMap StG.cells⟩ :: R) := by
    have := h
    simp only [StsG.row, List.length_append, List.length_cons, List.length_nil, Nat.zero_add] at this
    exact this
  have h2 := Flat.setEl (m := 0) StG.cells 4 (fun _ => rfl) h1 j u hj hx
  simp only [StsG.row, List.length_append, List.length_cons, List.length_nil, Nat.zero_add]
  exact h2
theorem tr_set {p : List TrG} {o o' : TrG} (h : Flat X B ((TrsG.mk (.slice (some ⟨g, 0, none⟩) (p.length + 1) cap) (p ++ [o])).row :: R)) (j : Nat) (u : Value) (hj : j < 5) (hx : o.cells.set j u = o'.cells) : Flat (X.setCell ⟨g, p.length * 5 + j, none⟩ u) B ((TrsG.mk (.slice (some ⟨g, 0, none⟩) (p.length + 1) cap) (p ++ [o'])).row :: R) := by
  have h1 : Flat X B (⟨73, 5, .slice (some ⟨g, 0, none⟩) (p.length + 1) cap, p.length + 1, (p ++ o :: []).flatMap TrG.cells⟩ :: R) := by
    have := h
    simp only [TrsG.row, List.length_append, List.length_cons, List.length_nil, Nat.zero_add] at this
    exact this
  have h2 := Flat.setEl (m := 0) TrG.cells 5 (fun _ => rfl) h1 j u hj hx
  simp only [TrsG.row, List.length_append, List.length_cons, List.length_nil, Nat.zero_add]
  exact h2
end
end Go.Proofs.YtbcjlpjohknljaaGreatDoor
namespace Go.Proofs.YtbcjlpjohknljaaGreatDoor
open Go.RowKit Go.Sort
set_option linter.unusedVariables false
set_option linter.unusedSimpArgs false
attribute [local go_sem ↓] Go.wp_at_zero Go.wp_at_succ

set_option maxRecDepth 100000 in
set_option maxHeartbeats 3200000 in
/-- A line that gives a subscription. -/
theorem line_sub (sg : Int) (ov tv : Value) (pp : List ObG) (o : ObG) (ts : List (Int × Int)) (R : List Rw) (B b off n c : Nat) (fs : List (List UInt8)) (w : World) (h : LnC (SyG.mk sg ⟨ov, pp ++ [o]⟩ ⟨tv, ts⟩) R B b off n c fs w) (z : Int) (hk : fs.getD 0 [] = kSub) (hq : nums fs.tail = some [z]) : Calls Tryz.prog 10 #[(SyG.mk sg ⟨ov, pp ++ [o]⟩ ⟨tv, ts⟩).val, .slice (some ⟨b, off, none⟩) (n + 1) c, .bool true] w fun e w' => LnR (SyG.mk sg ⟨ov, pp ++ [o]⟩ ⟨tv, ts⟩) R B fs true w e w' := by
  obtain ⟨pO, qO, dO, ⟨kv, ks⟩, ⟨vv, vs⟩, ⟨uv, us⟩, ⟨sv, ss⟩, ⟨rv, rs⟩⟩ := o
  obtain ⟨go, co, hov, hco, hcm, hgo, hgol⟩ := row_has (h.hF.own (ObsG.mk ov (pp ++ [⟨pO, qO, dO, ⟨kv, ks⟩, ⟨vv, vs⟩, ⟨uv, us⟩, ⟨sv, ss⟩, ⟨rv, rs⟩⟩])).row (by simp [SyG.rows, ObsG.rows])) (by simp [ObsG.row])
  simp only [ObsG.row, List.length_append, List.length_cons, List.length_nil, Nat.zero_add] at hov
  subst hov
  obtain ⟨xo, xc, htv, _, _⟩ := pairs_read (h.hF.own (TmG.mk tv ts).row (by simp [SyG.rows]))
  obtain ⟨ka, kc, hkv, _, _, _⟩ := ints_read (h.hF.own (InG.mk kv ks).row (by simp [SyG.rows, ObsG.rows, ObG.rows]))
  obtain ⟨va, vc, hvv, _, _, _⟩ := ints_read (h.hF.own (InG.mk vv vs).row (by simp [SyG.rows, ObsG.rows, ObG.rows]))
  obtain ⟨ua, uc, huv, _, _, _⟩ := ints_read (h.hF.own (InG.mk uv us).row (by simp [SyG.rows, ObsG.rows, ObG.rows]))
  obtain ⟨sa, sc, hsv, _, _, _⟩ := row_read StG.cells 4 (fun _ => rfl) (h.hF.own (StsG.mk sv ss).row (by simp [SyG.rows, ObsG.rows, ObG.rows, StsG.rows]))
  obtain ⟨ra0, rc0, hrv, _, _, _⟩ := row_read TrG.cells 5 (fun _ => rfl) (h.hF.own (TrsG.mk rv rs).row (by simp [SyG.rows, ObsG.rows, ObG.rows, TrsG.rows]))
  simp only at htv hkv hvv huv hsv hrv
  simp only [TmG.row, InG.row, StsG.row, TrsG.row] at htv hkv hvv huv hsv hrv
  subst htv hkv hvv huv hsv hrv
  have SO := h.hz.a _ (show ObG.dat (ObG.mk pO qO dO ⟨.slice ka ks.length kc, ks⟩ ⟨.slice va vs.length vc, vs⟩ ⟨.slice ua us.length uc, us⟩ ⟨.slice sa ss.length sc, ss⟩ ⟨.slice ra0 rs.length rc0, rs⟩) ∈ (SyG.dat (SyG.mk sg ⟨.slice (some ⟨go, 0, none⟩) (pp.length + 1) co, pp ++ [⟨pO, qO, dO, ⟨.slice ka ks.length kc, ks⟩, ⟨.slice va vs.length vc, vs⟩, ⟨.slice ua us.length uc, us⟩, ⟨.slice sa ss.length sc, ss⟩, ⟨.slice ra0 rs.length rc0, rs⟩⟩]⟩ ⟨.slice xo ts.length xc, ts⟩)).obs by simp [SyG.dat])
  have NS := hid SO
  have hpl : pp.length + 1 ≤ 1048577 := by have := h.hz.o; simp [SyG.dat] at this; omega
  have hp0 : ¬ ((pp.length : Int) + 1 = 0) := by omega
  have hp1 : ((pp.length : Int) + 1 == 0) = false := by simp; omega
  clear SO
  have hn3 : n = 1 := by
    have h1 := nums_len hq
    have h2 := h.hs.1
    simp at h1 h2
    omega
  have HN := hid hn3
  clear hn3
  have LW : Hid (lineW (SyG.dat (SyG.mk sg ⟨.slice (some ⟨go, 0, none⟩) (pp.length + 1) co, pp ++ [⟨pO, qO, dO, ⟨.slice ka ks.length kc, ks⟩, ⟨.slice va vs.length vc, vs⟩, ⟨.slice ua us.length uc, us⟩, ⟨.slice sa ss.length sc, ss⟩, ⟨.slice ra0 rs.length rc0, rs⟩⟩]⟩ ⟨.slice xo ts.length xc, ts⟩)) (fs.getD 0 []) fs.tail true = oneOb (SyG.dat (SyG.mk sg ⟨.slice (some ⟨go, 0, none⟩) (pp.length + 1) co, pp ++ [⟨pO, qO, dO, ⟨.slice ka ks.length kc, ks⟩, ⟨.slice va vs.length vc, vs⟩, ⟨.slice ua us.length uc, us⟩, ⟨.slice sa ss.length sc, ss⟩, ⟨.slice ra0 rs.length rc0, rs⟩⟩]⟩ ⟨.slice xo ts.length xc, ts⟩)) (fun o => { o with subs := o.subs ++ [z] })) := hid (by rw [hk, lineW_sub, hq])
  obtain ⟨i0, hi, hz0, hz1, hz2⟩ := info_parts Tryz.infoI
  obtain ⟨c0, hbl, hT⟩ := h.hs.one
  have HT := hid hT
  have HC := hid h
  have hn := h.hn
  have hc := h.hc
  have TL : fs.tail.length = n := by rw [List.length_tail, h.hs.1]; omega
  obtain ⟨t, ht⟩ : ∃ t : ByteArray, t = ⟨(fs.getD 0 []).toArray⟩ := ⟨_, rfl⟩
  have c1 : w.cell? ⟨b, off, none⟩ = some (.string t) := by rw [ht]; exact c0
  have hbt : fs.getD 0 [] = bl t := ba_bl.1 ht.symm
  clear c0 ht
  obtain rfl : t = ⟨#[115, 117, 98]⟩ := by rw [hk] at hbt; exact (ba_bl.2 hbt).symm
  clear hbt
  have FV := hid (h.boxes (.int .i64 sg) (.slice (some ⟨go, 0, none⟩) (pp.length + 1) co) (.slice xo ts.length xc))
  have BV := hid (below2 w (sysO (.int .i64 sg) (.slice (some ⟨go, 0, none⟩) (pp.length + 1) co) (.slice xo ts.length xc)) (sysO (.int .i64 0) nilV nilV))
  have SV : Hid (((w.alloc (sysO (.int .i64 sg) (.slice (some ⟨go, 0, none⟩) (pp.length + 1) co) (.slice xo ts.length xc))).alloc (sysO (.int .i64 0) nilV nilV)).heap.size = w.heap.size + 2) := hid (by simp)
  clear h hT
  simp only [SyG.val]
  go_enter Tryz.func10, Tryz.ntmps10
  go_upto_region 1 with fail
  obtain ⟨V, hV⟩ : ∃ V, V = (w.alloc (sysO (.int .i64 sg) (.slice (some ⟨go, 0, none⟩) (pp.length + 1) co) (.slice xo ts.length xc))).alloc (sysO (.int .i64 0) nilV nilV) := ⟨_, rfl⟩
  rw [← hV] at FV BV SV ⊢
  obtain ⟨H3, e3⟩ : ∃ H, H = w.heap.size := ⟨_, rfl⟩
  have E3 := hid e3
  rw [← e3] at FV SV ⊢
  have k0 := (BV.out.cell (p := ⟨b, off, none⟩) hbl).trans c1
  clear c1 e3 hV
  go_upto_region 2 with fail
  go_cut [9] from 29 to 30 (fun r wx => ∃ ao cp, r = .slice ao n cp ∧ n ≤ cp ∧ StrsOf w ao n fs.tail ∧ wx = V)
  case first =>
    by_cases hc1 : c = 1
    · have hn0 : n = 0 := by omega
      subst hn0
      subst hc1
      go_wp2_with fail
      go_meet
      exact ⟨_, _, rfl, Nat.le_refl _, HT.out _ (by simp), rfl⟩
    · go_wp2_with fail
      go_meet
      exact ⟨_, _, rfl, by omega, HT.out _ (.inl rfl), rfl⟩
  case rest =>
    obtain ⟨ra, rc, rfl, hrc, hrs, hV⟩ := hcut
    subst hV
    have RS := hid hrs
    have HF : Hid (∀ f ∈ fs.tail, f.length ≤ 1048576) := hid (fun f hf => HC.out.hf f (List.mem_of_mem_tail hf))
    obtain ⟨⟨a0, a1, a2⟩, g0, g1, g2, al⟩ := three_cc (FV.out.mem_box (t := 25) (H := H3) (xs := [.int .i64 sg, .slice (some ⟨go, 0, none⟩) (pp.length + 1) co, .slice xo ts.length xc]) (by simp))
    obtain ⟨⟨b0, b1, b2⟩, q0, q1, q2, ql⟩ := three_cc (FV.out.mem_box (t := 25) (H := H3 + 1) (xs := [.int .i64 0, nilV, nilV]) (by simp))
    clear hrs k0
    have NU : Hid (∀ (k : Nat) W, k ≤ 100 → Below w.heap.size w W → Calls Tryz.prog 19 #[.slice ra n rc, .int .i64 (k : Int)] W fun e w' => (∃ v, e = .returned (.tuple #[v, .bool (numsN fs.tail k).isSome]) ∧ (∃ a l c, v = .slice a l c) ∧ ∀ zs, numsN fs.tail k = some zs → IntRow w' W.heap.size v zs) ∧ Below W.heap.size W w') := hid (fun k W hk hW => l5Numbers_any ra n rc k fs.tail W (by omega) hk HF.out (RS.out.below hW))
    have BB : Hid (Below B w wc) := hid (BV.out.mono HC.out.hB)
    have B6 : Hid (B ≤ H3 + 1) := hid (by have := HC.out.hB; have := E3.out; omega)
    have H3B : Hid (B ≤ H3) := hid (by have := HC.out.hB; have := E3.out; omega)
    have BW : Hid (B ≤ wc.heap.size) := hid (Nat.le_trans HC.out.hB BV.out.size)
    have HGO : Hid (B ≤ go) := hid hgo
    obtain rfl := HN.out
    have LA : Hid (∀ W, Calls Tryz.prog 20 #[.string ⟨#[115, 117, 98]⟩] W fun e w' => e = .returned (.int .i64 1) ∧ w' = W) := hid (fun W => by
      have h1 := leading_any ⟨#[115, 117, 98]⟩ W
      rw [show lead (bl ⟨#[115, 117, 98]⟩) = 1 from rfl] at h1
      exact h1)
    have NK : Hid (∀ W, Below w.heap.size w W → Calls Tryz.prog 19 #[.slice ra 1 rc, .int .i64 1] W fun e w' => (∃ v, e = .returned (.tuple #[v, .bool true]) ∧ (∃ a l c, v = .slice a l c) ∧ ∀ zs, some [z] = some zs → IntRow w' W.heap.size v zs) ∧ Below W.heap.size W w') := hid (fun W hW => by
      have h1 := NU.out 1 W (by omega) hW
      rw [show numsN fs.tail 1 = some [z] by rw [← TL, nums_allS]; exact hq] at h1
      exact h1)
    clear NU TL hq hk
    go_upto_region 35 with (first
        | (go_at_call 20; refine (LA.out _).mono ?_; rintro e w1 ⟨rfl, hw1⟩; obtain rfl := hw1.symm)
        | (go_at_call 19; refine (NK.out _ BV.out).mono ?_; rintro e w2 ⟨⟨v, rfl, ⟨a7, l7, p7, rfl⟩, hi⟩, hb⟩; have HI := hid (hi _ rfl); have HB := hid hb; have F2 := hid (FV.out.below hb); obtain ⟨⟨m0, m1, m2⟩, m3, m4, m5, ml⟩ := three_cc (F2.out.mem_box (t := 25) (H := H3) (xs := [.int .i64 sg, .slice (some ⟨go, 0, none⟩) (pp.length + 1) co, .slice xo ts.length xc]) (by simp)); clear hi hb))
    clear m0 m1 m2 m3 m4 m5 ml F2
    obtain ⟨g7, cp7, e7, hc7, _, hg7, hgl7⟩ := row_has HI.out (by simp)
    simp only [Value.slice.injEq] at e7
    obtain ⟨rfl, rfl, rfl⟩ := e7
    have FN : Hid (Flat w2 B (sysB (H3 + 1) (.int .i64 0) nilV nilV :: nuR g7 p7 [z] :: sysB H3 (.int .i64 sg) (.slice (some ⟨go, 0, none⟩) (pp.length + 1) co) (.slice xo ts.length xc) :: ((SyG.mk sg ⟨.slice (some ⟨go, 0, none⟩) (pp.length + 1) co, pp ++ [⟨pO, qO, dO, ⟨.slice ka ks.length kc, ks⟩, ⟨.slice va vs.length vc, vs⟩, ⟨.slice ua us.length uc, us⟩, ⟨.slice sa ss.length sc, ss⟩, ⟨.slice ra0 rs.length rc0, rs⟩⟩]⟩ ⟨.slice xo ts.length xc, ts⟩).rows ++ R))) := hid (FV.out.fresh BW.out HB.out HI.out).swap
    have B2 : Hid (Below B w w2) := hid (BB.out.trans (HB.out.mono BW.out))
    have Z2 : Hid (B ≤ w2.heap.size) := hid (Nat.le_trans HC.out.hB B2.out.size)
    clear HI HB FV BV BB BW NK a0 a1 a2 g0 g1 g2 al b0 b1 b2 q0 q1 q2 ql
    have LU : us.length ≤ 1048576 := NS.out.u
    have FW : Hid (Flat w2 B ((InG.mk (.slice ua us.length uc) us).row :: (ObsG.mk (.slice (some ⟨go, 0, none⟩) (pp.length + 1) co) (pp ++ [(ObG.mk pO qO dO ⟨.slice ka ks.length kc, ks⟩ ⟨.slice va vs.length vc, vs⟩ ⟨.slice ua us.length uc, us⟩ ⟨.slice sa ss.length sc, ss⟩ ⟨.slice ra0 rs.length rc0, rs⟩)])).row :: (sysB (H3 + 1) (.int .i64 0) nilV nilV :: sysB H3 (.int .i64 sg) (.slice (some ⟨go, 0, none⟩) (pp.length + 1) co) (.slice xo ts.length xc) :: nuR g7 p7 [z] :: (InG.mk (.slice ka ks.length kc) ks).row :: (InG.mk (.slice va vs.length vc) vs).row :: ((StsG.mk (.slice sa ss.length sc) ss).rows ++ ((TrsG.mk (.slice ra0 rs.length rc0) rs).rows ++ (pp.flatMap ObG.rows ++ (TmG.mk (.slice xo ts.length xc) ts).row :: R)))))) := hid (FN.out.perm (by
        refine perm_count fun f g hf => ?_
        simp only [SyG.rows, ObsG.rows, ObsG.row, ob1, ObG.rows, InG.row, StsG.rows, TrsG.rows, StsG.row, TrsG.row, TmG.row, StG.rows, TrG.rows, SmsG.rows, SmsG.row, itC_append, itC, List.map_append, List.map_cons, List.flatMap_append, List.flatMap_cons, List.flatMap_nil, List.append_nil, List.length_append, List.length_cons, List.length_nil, List.map_nil, List.cons_append, List.nil_append, hf.c, hf.a, hf.z, Nat.zero_add]
        omega))
    have CS : Hid (∀ X, Flat X B ((ObsG.mk (.slice (some ⟨go, 0, none⟩) (pp.length + 1) co) (pp ++ [(ObG.mk pO qO dO ⟨.slice ka ks.length kc, ks⟩ ⟨.slice va vs.length vc, vs⟩ ⟨.slice ua us.length uc, us⟩ ⟨.slice sa ss.length sc, ss⟩ ⟨.slice ra0 rs.length rc0, rs⟩)])).row :: (sysB (H3 + 1) (.int .i64 0) nilV nilV :: sysB H3 (.int .i64 sg) (.slice (some ⟨go, 0, none⟩) (pp.length + 1) co) (.slice xo ts.length xc) :: nuR g7 p7 [z] :: (InG.mk (.slice ka ks.length kc) ks).row :: (InG.mk (.slice va vs.length vc) vs).row :: ((StsG.mk (.slice sa ss.length sc) ss).rows ++ ((TrsG.mk (.slice ra0 rs.length rc0) rs).rows ++ (pp.flatMap ObG.rows ++ (TmG.mk (.slice xo ts.length xc) ts).row :: R))))) → X.cell? ⟨go, pp.length * 8 + 5, none⟩ = some (.slice ua us.length uc) ∧ X.cell? ⟨g7, 0, none⟩ = some (.int .i64 z)) := hid (fun X hX => by
      have h7 : (nuR g7 p7 [z]).own X B := hX.own _ (by simp)
      exact ⟨ob_cell hX.head 5 (by omega), nu_cell h7 0 z rfl⟩)
    clear FN
    obtain ⟨U, hU⟩ : ∃ U, U = (w2.alloc (.cells #[.int .i64 z] 3)).drew := ⟨_, rfl⟩
    have BU : Hid (Below w2.heap.size w2 U) := hid (by rw [hU]; exact (below1 _ _).drew)
    have FU := hid (FW.out.below BU.out)
    have KU := hid (CS.out U FU.out.tail)
    have HSd := hid (CS.out w2.drew FW.out.tail.drew)
    have NB : U.heap[w2.heap.size]? = some (.cells #[.int .i64 z] 3 (0, 0)) := by rw [hU]; exact heap_alloc_new w2 _
    have NWU := hid (World.news_of_block NB)
    have SU : Hid (U.heap.size = w2.heap.size + 1) := hid (by rw [hU]; simp)
    clear NB
    have hbU : Hid (B ≤ U.heap.size) := hid (by have := SU.out; have := Z2.out; omega)
    refine wp_region_noPanic ?_
    refine wp_region_till (st := 12) (S := fun u => u.cell? ⟨go, pp.length * 8 + 5, none⟩ = some (.slice ua us.length uc) ∧ u.cell? ⟨g7, 0, none⟩ = some (.int .i64 z)) (by kernel_rfl) ?_
    refine wpTill_take (i := 0) (d := some 186) (v := ?_) rfl rfl (by kernel_rfl) (by kernel_rfl) (by kernel_rfl) (by kernel_rfl) (by kernel_rfl) (fun _ _ _ h => h) (Or.inl ⟨by rfl, ?_⟩) HSd.out ?_
    case refine_2 => (intro u hu; obtain ⟨s0, s1⟩ := hu; go_simp; first | done | with_reducible rfl)
    simp only [Act.put, List.setIfInBounds_toArray, List.set_cons_zero, List.set_cons_succ]
    refine wpTill_take (i := 1) (d := some 187) (v := ?_) rfl rfl (by kernel_rfl) (by kernel_rfl) (by kernel_rfl) (by kernel_rfl) (by kernel_rfl) (fun _ _ _ h => h) (Or.inl ⟨by rfl, ?_⟩) HSd.out ?_
    case refine_2 => (intro u hu; obtain ⟨s0, s1⟩ := hu; go_simp; first | done | with_reducible rfl)
    simp only [Act.put, List.setIfInBounds_toArray, List.set_cons_zero, List.set_cons_succ]
    refine wpTill_take (i := 2) (d := some 188) (v := ?_) rfl rfl (by kernel_rfl) (by kernel_rfl) (by kernel_rfl) (by kernel_rfl) (by kernel_rfl) (fun _ _ _ h => h) (Or.inl ⟨by rfl, ?_⟩) HSd.out ?_
    case refine_2 => (intro u hu; obtain ⟨s0, s1⟩ := hu; go_simp; first | done | with_reducible rfl)
    simp only [Act.put, List.setIfInBounds_toArray, List.set_cons_zero, List.set_cons_succ]
    refine wpTill_take (i := 3) (d := some 189) (v := ?_) rfl rfl (by kernel_rfl) (by kernel_rfl) (by kernel_rfl) (by kernel_rfl) (by kernel_rfl) (fun _ _ _ h => h) (Or.inl ⟨by rfl, ?_⟩) HSd.out ?_
    case refine_2 => (intro u hu; obtain ⟨s0, s1⟩ := hu; go_simp; first | done | with_reducible rfl)
    simp only [Act.put, List.setIfInBounds_toArray, List.set_cons_zero, List.set_cons_succ]
    refine wpTill_take (i := 4) (d := some 190) (v := ?_) rfl rfl (by kernel_rfl) (by kernel_rfl) (by kernel_rfl) (by kernel_rfl) (by kernel_rfl) (fun _ _ _ h => h) (Or.inl ⟨by rfl, ?_⟩) HSd.out ?_
    case refine_2 => (intro u hu; obtain ⟨s0, s1⟩ := hu; go_simp; first | done | with_reducible rfl)
    simp only [Act.put, List.setIfInBounds_toArray, List.set_cons_zero, List.set_cons_succ]
    refine wpTill_take (i := 5) (d := some 191) (v := ?_) rfl rfl (by kernel_rfl) (by kernel_rfl) (by kernel_rfl) (by kernel_rfl) (by kernel_rfl) (fun _ _ _ h => h) (Or.inl ⟨by rfl, ?_⟩) HSd.out ?_
    case refine_2 => (intro u hu; obtain ⟨s0, s1⟩ := hu; go_simp; first | done | with_reducible rfl)
    simp only [Act.put, List.setIfInBounds_toArray, List.set_cons_zero, List.set_cons_succ]
    refine wpTill_take (i := 6) (d := some 192) (v := ?_) rfl rfl (by kernel_rfl) (by kernel_rfl) (by kernel_rfl) (by kernel_rfl) (by kernel_rfl) (fun _ _ _ h => h) (Or.inl ⟨by rfl, ?_⟩) HSd.out ?_
    case refine_2 => (intro u hu; obtain ⟨s0, s1⟩ := hu; go_simp; first | done | with_reducible rfl)
    simp only [Act.put, List.setIfInBounds_toArray, List.set_cons_zero, List.set_cons_succ]
    refine wpTill_take (i := 7) (d := some 193) (v := ?_) rfl rfl (by kernel_rfl) (by kernel_rfl) (by kernel_rfl) (by kernel_rfl) (by kernel_rfl) (fun _ _ _ h => h) (Or.inl ⟨by rfl, ?_⟩) HSd.out ?_
    case refine_2 => (intro u hu; obtain ⟨s0, s1⟩ := hu; go_simp; first | done | with_reducible rfl)
    simp only [Act.put, List.setIfInBounds_toArray, List.set_cons_zero, List.set_cons_succ]
    refine wpTill_step (i := 8) (by kernel_rfl) rfl (fun K hK => ?_)
    go_simp
    rw [← hU]
    refine hK _ _ KU.out ?_
    clear hU hK K
    refine wpTill_step (i := 9) (by kernel_rfl) rfl (fun K hK => ?_)
    refine step_append_lies _ (by rfl) _ _ _ (by rfl) B 3 i0 _ 1 8 Tryz.underlying46 hi hz0 hz1 hz2 rfl (by omega) (.slice ua us.length uc) us.length (us.map (Value.int .i64)) (by simp [Act.eval]) FU.out.head ⟨w2.heap.size, 0, none⟩ 1 1 [.int .i64 z] (by simp [Act.eval]) (by simp) NWU.out (one_int z) (by omega) (by unfold maxLen; omega) (by omega) (by have := SU.out; have := Z2.out; omega) U.heap.size rfl ?_
    intro gg cap5 w5 hown hgrow hat hlt5
    have F5 := hid (FU.out.app hgrow hown hat)
    have K5 := hid (CS.out w5 F5.out.tail)
    have G5 : Hid (Below B U w5) := hid ((Below.refl B U).grown hgrow hbU.out (fun k hk => (FU.out.head.lt k hk).1))
    clear hown hgrow hat
    refine hK _ _ K5.out ?_
    clear hK K
    refine wpTill_step (i := 10) (by kernel_rfl) rfl (fun K hK => ?_)
    go_simp
    refine hK _ _ K5.out ?_
    clear hK K
    refine wpTill_step (i := 11) (by kernel_rfl) rfl (fun K hK => ?_)
    go_simp
    refine hK _ _ K5.out ?_
    clear hK K
    have c5 : w5.cell? ⟨go, pp.length * 8 + 5, none⟩ = some (.slice ua us.length uc) := ob_cell F5.out.tail.head 5 (by omega)
    obtain ⟨fz5, fl5⟩ := ob_froz F5.out.tail.head (pp.length * 8 + 5)
    refine wpTill_last (by kernel_rfl) rfl (by kernel_rfl) (fun K hK => ?_)
    go_simp
    refine hK _ _ ?_
    clear hK K
    refine wpTill_done (by kernel_rfl) ?_ _
    refine NoPanic.normal ?_
    have F6 : Hid (Flat (w5.setCell ⟨go, pp.length * 8 + 5, none⟩ (.slice (some ⟨gg, 0, none⟩) (us.length + 1) cap5)) B ((ObsG.mk (.slice (some ⟨go, 0, none⟩) (pp.length + 1) co) (pp ++ [(ObG.mk pO qO dO ⟨.slice ka ks.length kc, ks⟩ ⟨.slice va vs.length vc, vs⟩ ⟨(.slice (some ⟨gg, 0, none⟩) (us.length + 1) cap5), us ++ [z]⟩ ⟨.slice sa ss.length sc, ss⟩ ⟨.slice ra0 rs.length rc0, rs⟩)])).row :: (⟨3, 1, (.slice (some ⟨gg, 0, none⟩) (us.length + 1) cap5), us.length + 1, us.map (Value.int .i64) ++ [.int .i64 z]⟩ : Rw) :: (sysB (H3 + 1) (.int .i64 0) nilV nilV :: sysB H3 (.int .i64 sg) (.slice (some ⟨go, 0, none⟩) (pp.length + 1) co) (.slice xo ts.length xc) :: nuR g7 p7 [z] :: (InG.mk (.slice ka ks.length kc) ks).row :: (InG.mk (.slice va vs.length vc) vs).row :: ((StsG.mk (.slice sa ss.length sc) ss).rows ++ ((TrsG.mk (.slice ra0 rs.length rc0) rs).rows ++ (pp.flatMap ObG.rows ++ (TmG.mk (.slice xo ts.length xc) ts).row :: R)))))) := hid (ob_set (o' := (ObG.mk pO qO dO ⟨.slice ka ks.length kc, ks⟩ ⟨.slice va vs.length vc, vs⟩ ⟨(.slice (some ⟨gg, 0, none⟩) (us.length + 1) cap5), us ++ [z]⟩ ⟨.slice sa ss.length sc, ss⟩ ⟨.slice ra0 rs.length rc0, rs⟩)) F5.out.swap 5 (.slice (some ⟨gg, 0, none⟩) (us.length + 1) cap5) (by omega) rfl)
    have F7 : Hid (Flat (w5.setCell ⟨go, pp.length * 8 + 5, none⟩ (.slice (some ⟨gg, 0, none⟩) (us.length + 1) cap5)) B (sysB (H3 + 1) (.int .i64 0) nilV nilV :: ([sysB H3 (.int .i64 sg) (.slice (some ⟨go, 0, none⟩) (pp.length + 1) co) (.slice xo ts.length xc), nuR g7 p7 [z]] ++ ((SyG.mk sg ⟨(.slice (some ⟨go, 0, none⟩) (pp.length + 1) co), pp ++ [(ObG.mk pO qO dO ⟨.slice ka ks.length kc, ks⟩ ⟨.slice va vs.length vc, vs⟩ ⟨(.slice (some ⟨gg, 0, none⟩) (us.length + 1) cap5), us ++ [z]⟩ ⟨.slice sa ss.length sc, ss⟩ ⟨.slice ra0 rs.length rc0, rs⟩)]⟩ ⟨.slice xo ts.length xc, ts⟩).rows ++ R)))) := hid (F6.out.perm (by
        refine perm_count fun f g hf => ?_
        simp only [SyG.rows, ObsG.rows, ObsG.row, ob1, ObG.rows, InG.row, StsG.rows, TrsG.rows, StsG.row, TrsG.row, TmG.row, StG.rows, TrG.rows, SmsG.rows, SmsG.row, itC_append, itC, List.map_append, List.map_cons, List.flatMap_append, List.flatMap_cons, List.flatMap_nil, List.append_nil, List.length_append, List.length_cons, List.length_nil, List.map_nil, List.cons_append, List.nil_append, hf.c, hf.a, hf.z, Nat.zero_add]
        omega))
    have B5 : Hid (Below B w (w5.setCell ⟨go, pp.length * 8 + 5, none⟩ (.slice (some ⟨gg, 0, none⟩) (us.length + 1) cap5))) := hid ((((B2.out.trans (BU.out.mono Z2.out)).trans G5.out).setCell (p := ⟨go, _, none⟩) HGO.out _))
    clear F5 F6 FU FW K5 KU HSd NWU CS
    obtain ⟨⟨a0, a1, a2⟩, g0, g1, g2, al⟩ := three_cc (box_blk F7.out.tail.head)
    obtain ⟨⟨b0, b1, b2⟩, q0, q1, q2, ql⟩ := three_cc (box_blk F7.out.head)
    obtain ⟨Y, hY⟩ : ∃ Y, Y = (w5.setCell ⟨go, pp.length * 8 + 5, none⟩ (.slice (some ⟨gg, 0, none⟩) (us.length + 1) cap5)) := ⟨_, rfl⟩
    rw [← hY] at F7 B5 a0 a1 a2 g0 g1 g2 al b0 b1 b2 q0 q1 q2 ql ⊢
    clear hY
    go_wp2_with fail
    obtain ⟨u0, u1, u2⟩ := ln_box F7.out (.int .i64 sg) (.slice (some ⟨go, 0, none⟩) (pp.length + 1) co) (.slice xo ts.length xc)
    exact bodyPost_ret (v := .tuple #[.agg #[.int .i64 sg, .slice (some ⟨go, 0, none⟩) (pp.length + 1) co, .slice xo ts.length xc], .bool true]) (by simp [results, Tryz.results10, go_sem, u0, u1, u2]) rfl (ln_ans (SyG.mk sg ⟨(.slice (some ⟨go, 0, none⟩) (pp.length + 1) co), pp ++ [(ObG.mk pO qO dO ⟨.slice ka ks.length kc, ks⟩ ⟨.slice va vs.length vc, vs⟩ ⟨(.slice (some ⟨gg, 0, none⟩) (us.length + 1) cap5), us ++ [z]⟩ ⟨.slice sa ss.length sc, ss⟩ ⟨.slice ra0 rs.length rc0, rs⟩)]⟩ ⟨.slice xo ts.length xc, ts⟩) [sysB H3 (.int .i64 sg) (.slice (some ⟨go, 0, none⟩) (pp.length + 1) co) (.slice xo ts.length xc), nuR g7 p7 [z]] B5.out B6.out F7.out (List.Perm.refl _) (by rw [LW.out]; simp [SyG.dat, ObG.dat, StG.dat, TrG.dat, SmsG.dat, SmG.dat, oneOb_snoc]))
end Go.Proofs.YtbcjlpjohknljaaGreatDoor
namespace Go.Proofs.YtbcjlpjohknljaaGreatDoor
open Go.RowKit Go.Sort
set_option linter.unusedVariables false
set_option linter.unusedSimpArgs false
attribute [local go_sem ↓] Go.wp_at_zero Go.wp_at_succ

set_option maxRecDepth 100000 in
set_option maxHeartbeats 3200000 in
/-- A line that gives a timer. -/
theorem line_tim (G : SyG) (R : List Rw) (B b off n c : Nat) (fs : List (List UInt8)) (w : World) (h : LnC G R B b off n c fs w) (z y : Int) (hk : fs.getD 0 [] = kTim) (hq : nums fs.tail = some [z, y]) : Calls Tryz.prog 10 #[G.val, .slice (some ⟨b, off, none⟩) (n + 1) c, .bool true] w fun e w' => LnR G R B fs true w e w' := by
  obtain ⟨eo, ec, xo, xc, ev, _, _⟩ := SyG.read h.hF.left
  obtain ⟨c0, hbl, hT⟩ := h.hs.one
  have hn3 : n = 2 := by
    have h1 := nums_len hq
    have h2 := h.hs.1
    simp at h1 h2
    omega
  have HN := hid hn3
  clear hn3
  have LW : Hid (lineW G.dat (fs.getD 0 []) fs.tail true = some { G.dat with tms := G.dat.tms ++ [(z, y)] }) := hid (by rw [hk, lineW_tim, hq])
  obtain ⟨i0, hi, hz0, hz1, hz2⟩ := info_parts infoTmL
  have LO : Hid (G.tm.xs.length ≤ 1048576) := hid (by have := h.hz.t; simpa [SyG.dat] using this)
  have HT := hid hT
  have HC := hid h
  have hn := h.hn
  have hc := h.hc
  have TL : fs.tail.length = n := by rw [List.length_tail, h.hs.1]; omega
  obtain ⟨t, ht⟩ : ∃ t : ByteArray, t = ⟨(fs.getD 0 []).toArray⟩ := ⟨_, rfl⟩
  have c1 : w.cell? ⟨b, off, none⟩ = some (.string t) := by rw [ht]; exact c0
  have hbt : fs.getD 0 [] = bl t := ba_bl.1 ht.symm
  clear c0 ht
  obtain rfl : t = ⟨#[116, 105, 109, 101, 114]⟩ := by rw [hk] at hbt; exact (ba_bl.2 hbt).symm
  clear hbt
  obtain ⟨sg, ⟨ov, os⟩, ⟨tv, ts⟩⟩ := G
  simp only [SyG.val, Value.agg.injEq] at ev
  have ev0 := congrArg Array.toList ev
  simp only [List.cons.injEq, true_and, and_true] at ev0
  obtain ⟨rfl, rfl⟩ := ev0
  clear ev
  have FV := hid (h.boxes (.int .i64 sg) (.slice eo os.length ec) (.slice xo ts.length xc))
  have BV := hid (below2 w (sysO (.int .i64 sg) (.slice eo os.length ec) (.slice xo ts.length xc)) (sysO (.int .i64 0) nilV nilV))
  have SV : Hid (((w.alloc (sysO (.int .i64 sg) (.slice eo os.length ec) (.slice xo ts.length xc))).alloc (sysO (.int .i64 0) nilV nilV)).heap.size = w.heap.size + 2) := hid (by simp)
  clear h hT
  simp only [SyG.val]
  go_enter Tryz.func10, Tryz.ntmps10
  go_upto_region 1 with fail
  obtain ⟨V, hV⟩ : ∃ V, V = (w.alloc (sysO (.int .i64 sg) (.slice eo os.length ec) (.slice xo ts.length xc))).alloc (sysO (.int .i64 0) nilV nilV) := ⟨_, rfl⟩
  rw [← hV] at FV BV SV ⊢
  obtain ⟨H3, e3⟩ : ∃ H, H = w.heap.size := ⟨_, rfl⟩
  have E3 := hid e3
  rw [← e3] at FV SV ⊢
  have k0 := (BV.out.cell (p := ⟨b, off, none⟩) hbl).trans c1
  clear c1 e3 hV
  go_upto_region 2 with fail
  go_cut [9] from 29 to 30 (fun r wx => ∃ ao cp, r = .slice ao n cp ∧ n ≤ cp ∧ StrsOf w ao n fs.tail ∧ wx = V)
  case first =>
    by_cases hc1 : c = 1
    · have hn0 : n = 0 := by omega
      subst hn0
      subst hc1
      go_wp2_with fail
      go_meet
      exact ⟨_, _, rfl, Nat.le_refl _, HT.out _ (by simp), rfl⟩
    · go_wp2_with fail
      go_meet
      exact ⟨_, _, rfl, by omega, HT.out _ (.inl rfl), rfl⟩
  case rest =>
    obtain ⟨ra, rc, rfl, hrc, hrs, hV⟩ := hcut
    subst hV
    have RS := hid hrs
    have HF : Hid (∀ f ∈ fs.tail, f.length ≤ 1048576) := hid (fun f hf => HC.out.hf f (List.mem_of_mem_tail hf))
    obtain ⟨⟨a0, a1, a2⟩, g0, g1, g2, al⟩ := three_cc (FV.out.mem_box (t := 25) (H := H3) (xs := [.int .i64 sg, .slice eo os.length ec, .slice xo ts.length xc]) (by simp))
    obtain ⟨⟨b0, b1, b2⟩, q0, q1, q2, ql⟩ := three_cc (FV.out.mem_box (t := 25) (H := H3 + 1) (xs := [.int .i64 0, nilV, nilV]) (by simp))
    clear hrs k0
    have NU : Hid (∀ (k : Nat) W, k ≤ 100 → Below w.heap.size w W → Calls Tryz.prog 19 #[.slice ra n rc, .int .i64 (k : Int)] W fun e w' => (∃ v, e = .returned (.tuple #[v, .bool (numsN fs.tail k).isSome]) ∧ (∃ a l c, v = .slice a l c) ∧ ∀ zs, numsN fs.tail k = some zs → IntRow w' W.heap.size v zs) ∧ Below W.heap.size W w') := hid (fun k W hk hW => l5Numbers_any ra n rc k fs.tail W (by omega) hk HF.out (RS.out.below hW))
    have BB : Hid (Below B w wc) := hid (BV.out.mono HC.out.hB)
    have B6 : Hid (B ≤ H3 + 1) := hid (by have := HC.out.hB; have := E3.out; omega)
    have H3B : Hid (B ≤ H3) := hid (by have := HC.out.hB; have := E3.out; omega)
    have BW : Hid (B ≤ wc.heap.size) := hid (Nat.le_trans HC.out.hB BV.out.size)
    obtain rfl := HN.out
    have LA : Hid (∀ W, Calls Tryz.prog 20 #[.string ⟨#[116, 105, 109, 101, 114]⟩] W fun e w' => e = .returned (.int .i64 2) ∧ w' = W) := hid (fun W => by
      have h1 := leading_any ⟨#[116, 105, 109, 101, 114]⟩ W
      rw [show lead (bl ⟨#[116, 105, 109, 101, 114]⟩) = 2 from rfl] at h1
      exact h1)
    have NK : Hid (∀ W, Below w.heap.size w W → Calls Tryz.prog 19 #[.slice ra 2 rc, .int .i64 2] W fun e w' => (∃ v, e = .returned (.tuple #[v, .bool true]) ∧ (∃ a l c, v = .slice a l c) ∧ ∀ zs, some [z, y] = some zs → IntRow w' W.heap.size v zs) ∧ Below W.heap.size W w') := hid (fun W hW => by
      have h1 := NU.out 2 W (by omega) hW
      rw [show numsN fs.tail 2 = some [z, y] by rw [← TL, nums_allS]; exact hq] at h1
      exact h1)
    clear NU TL hq hk
    go_upto_region 20 with (first
        | (go_at_call 20; refine (LA.out _).mono ?_; rintro e w1 ⟨rfl, hw1⟩; obtain rfl := hw1.symm)
        | (go_at_call 19; refine (NK.out _ BV.out).mono ?_; rintro e w2 ⟨⟨v, rfl, ⟨a7, l7, p7, rfl⟩, hi⟩, hb⟩; have HI := hid (hi _ rfl); have HB := hid hb; clear hi hb))
    obtain ⟨g7, cp7, e7, hc7, _, hg7, hgl7⟩ := row_has HI.out (by simp)
    simp only [Value.slice.injEq] at e7
    obtain ⟨rfl, rfl, rfl⟩ := e7
    have FN : Hid (Flat w2 B (sysB (H3 + 1) (.int .i64 0) nilV nilV :: nuR g7 p7 [z, y] :: sysB H3 (.int .i64 sg) (.slice eo os.length ec) (.slice xo ts.length xc) :: ((SyG.mk sg ⟨.slice eo os.length ec, os⟩ ⟨.slice xo ts.length xc, ts⟩).rows ++ R))) := hid (FV.out.fresh BW.out HB.out HI.out).swap
    have B2 : Hid (Below B w w2) := hid (BB.out.trans (HB.out.mono BW.out))
    have Z2 : Hid (B ≤ w2.heap.size) := hid (Nat.le_trans HC.out.hB B2.out.size)
    clear HI HB FV BV BB BW NK a0 a1 a2 g0 g1 g2 al b0 b1 b2 q0 q1 q2 ql
    have LO' : ts.length ≤ 1048576 := LO.out
    have FW : Hid (Flat w2 B ((TmG.mk (.slice xo ts.length xc) ts).row :: sysB H3 (.int .i64 sg) (.slice eo os.length ec) (.slice xo ts.length xc) :: (sysB (H3 + 1) (.int .i64 0) nilV nilV :: nuR g7 p7 [z, y] :: ((ObsG.mk (.slice eo os.length ec) os).rows ++ R)))) := hid (FN.out.perm (by
        refine perm_count fun f g hf => ?_
        simp only [SyG.rows, ObsG.rows, ObsG.row, ob1, ObG.rows, InG.row, StsG.rows, TrsG.rows, StsG.row, TrsG.row, TmG.row, StG.rows, TrG.rows, SmsG.rows, SmsG.row, itC_append, itC, List.map_append, List.map_cons, List.flatMap_append, List.flatMap_cons, List.flatMap_nil, List.append_nil, List.length_append, List.length_cons, List.length_nil, List.map_nil, List.cons_append, List.nil_append, hf.c, hf.a, hf.z, Nat.zero_add]
        omega))
    have CS : Hid (∀ X, Flat X B (sysB H3 (.int .i64 sg) (.slice eo os.length ec) (.slice xo ts.length xc) :: (sysB (H3 + 1) (.int .i64 0) nilV nilV :: nuR g7 p7 [z, y] :: ((ObsG.mk (.slice eo os.length ec) os).rows ++ R))) → X.cell? ⟨H3, 2, none⟩ = some (.slice xo ts.length xc) ∧ X.cell? ⟨g7, 0, none⟩ = some (.int .i64 z) ∧ X.cell? ⟨g7, 1, none⟩ = some (.int .i64 y)) := hid (fun X hX => by
      have h7 : (nuR g7 p7 [z, y]).own X B := hX.own _ (by simp)
      exact ⟨(three_cc (box_blk hX.head)).1.2.2, nu_cell h7 0 z rfl, nu_cell h7 1 y rfl⟩)
    clear FN LO
    obtain ⟨U, hU⟩ : ∃ U, U = (w2.alloc (.cells #[.int .i64 z, .int .i64 y] 59)).drew := ⟨_, rfl⟩
    have BU : Hid (Below w2.heap.size w2 U) := hid (by rw [hU]; exact (below1 _ _).drew)
    have FU := hid (FW.out.below BU.out)
    have KU := hid (CS.out U FU.out.tail)
    have HSd := hid (CS.out w2.drew FW.out.tail.drew)
    have NB : U.heap[w2.heap.size]? = some (.cells #[.int .i64 z, .int .i64 y] 59 (0, 0)) := by rw [hU]; exact heap_alloc_new w2 _
    have NWU := hid (World.news_of_block NB)
    have SU : Hid (U.heap.size = w2.heap.size + 1) := hid (by rw [hU]; simp)
    clear NB
    have hbU : Hid (B ≤ U.heap.size) := hid (by have := SU.out; have := Z2.out; omega)
    refine wp_region_noPanic ?_
    refine wp_region_till (st := 12) (S := fun u => u.cell? ⟨H3, 2, none⟩ = some (.slice xo ts.length xc) ∧ u.cell? ⟨g7, 0, none⟩ = some (.int .i64 z) ∧ u.cell? ⟨g7, 1, none⟩ = some (.int .i64 y)) (by kernel_rfl) ?_
    refine wpTill_take (i := 0) (d := some 103) (v := ?_) rfl rfl (by kernel_rfl) (by kernel_rfl) (by kernel_rfl) (by kernel_rfl) (by kernel_rfl) (fun _ _ _ h => h) (Or.inl ⟨by rfl, ?_⟩) HSd.out ?_
    case refine_2 => (intro u hu; obtain ⟨s0, s1, s2⟩ := hu; go_simp; first | done | with_reducible rfl)
    simp only [Act.put, List.setIfInBounds_toArray, List.set_cons_zero, List.set_cons_succ]
    refine wpTill_take (i := 1) (d := some 104) (v := ?_) rfl rfl (by kernel_rfl) (by kernel_rfl) (by kernel_rfl) (by kernel_rfl) (by kernel_rfl) (fun _ _ _ h => h) (Or.inl ⟨by rfl, ?_⟩) HSd.out ?_
    case refine_2 => (intro u hu; obtain ⟨s0, s1, s2⟩ := hu; go_simp; first | done | with_reducible rfl)
    simp only [Act.put, List.setIfInBounds_toArray, List.set_cons_zero, List.set_cons_succ]
    refine wpTill_take (i := 2) (d := some 105) (v := ?_) rfl rfl (by kernel_rfl) (by kernel_rfl) (by kernel_rfl) (by kernel_rfl) (by kernel_rfl) (fun _ _ _ h => h) (Or.inl ⟨by rfl, ?_⟩) HSd.out ?_
    case refine_2 => (intro u hu; obtain ⟨s0, s1, s2⟩ := hu; go_simp; first | done | with_reducible rfl)
    simp only [Act.put, List.setIfInBounds_toArray, List.set_cons_zero, List.set_cons_succ]
    refine wpTill_take (i := 3) (d := some 106) (v := ?_) rfl rfl (by kernel_rfl) (by kernel_rfl) (by kernel_rfl) (by kernel_rfl) (by kernel_rfl) (fun _ _ _ h => h) (Or.inl ⟨by rfl, ?_⟩) HSd.out ?_
    case refine_2 => (intro u hu; obtain ⟨s0, s1, s2⟩ := hu; go_simp; first | done | with_reducible rfl)
    simp only [Act.put, List.setIfInBounds_toArray, List.set_cons_zero, List.set_cons_succ]
    refine wpTill_take (i := 4) (d := some 107) (v := ?_) rfl rfl (by kernel_rfl) (by kernel_rfl) (by kernel_rfl) (by kernel_rfl) (by kernel_rfl) (fun _ _ _ h => h) (Or.inl ⟨by rfl, ?_⟩) HSd.out ?_
    case refine_2 => (intro u hu; obtain ⟨s0, s1, s2⟩ := hu; go_simp; first | done | with_reducible rfl)
    simp only [Act.put, List.setIfInBounds_toArray, List.set_cons_zero, List.set_cons_succ]
    refine wpTill_take (i := 5) (d := some 108) (v := ?_) rfl rfl (by kernel_rfl) (by kernel_rfl) (by kernel_rfl) (by kernel_rfl) (by kernel_rfl) (fun _ _ _ h => h) (Or.inl ⟨by rfl, ?_⟩) HSd.out ?_
    case refine_2 => (intro u hu; obtain ⟨s0, s1, s2⟩ := hu; go_simp; first | done | with_reducible rfl)
    simp only [Act.put, List.setIfInBounds_toArray, List.set_cons_zero, List.set_cons_succ]
    refine wpTill_take (i := 6) (d := some 109) (v := ?_) rfl rfl (by kernel_rfl) (by kernel_rfl) (by kernel_rfl) (by kernel_rfl) (by kernel_rfl) (fun _ _ _ h => h) (Or.inl ⟨by rfl, ?_⟩) HSd.out ?_
    case refine_2 => (intro u hu; obtain ⟨s0, s1, s2⟩ := hu; go_simp; first | done | with_reducible rfl)
    simp only [Act.put, List.setIfInBounds_toArray, List.set_cons_zero, List.set_cons_succ]
    refine wpTill_take (i := 7) (d := some 110) (v := ?_) rfl rfl (by kernel_rfl) (by kernel_rfl) (by kernel_rfl) (by kernel_rfl) (by kernel_rfl) (fun _ _ _ h => h) (Or.inl ⟨by rfl, ?_⟩) HSd.out ?_
    case refine_2 => (intro u hu; obtain ⟨s0, s1, s2⟩ := hu; go_simp; first | done | with_reducible rfl)
    simp only [Act.put, List.setIfInBounds_toArray, List.set_cons_zero, List.set_cons_succ]
    refine wpTill_take (i := 8) (d := some 111) (v := ?_) rfl rfl (by kernel_rfl) (by kernel_rfl) (by kernel_rfl) (by kernel_rfl) (by kernel_rfl) (fun _ _ _ h => h) (Or.inl ⟨by rfl, ?_⟩) HSd.out ?_
    case refine_2 => (intro u hu; obtain ⟨s0, s1, s2⟩ := hu; go_simp; first | done | with_reducible rfl)
    simp only [Act.put, List.setIfInBounds_toArray, List.set_cons_zero, List.set_cons_succ]
    refine wpTill_step (i := 9) (by kernel_rfl) rfl (fun K hK => ?_)
    go_simp
    rw [← hU]
    refine hK _ _ KU.out ?_
    clear hU hK K
    refine wpTill_step (i := 10) (by kernel_rfl) rfl (fun K hK => ?_)
    refine step_append_lies _ (by rfl) _ _ _ (by rfl) B 59 i0 _ 2 16 Tryz.underlying23 hi hz0 hz1 hz2 rfl (by omega) (.slice xo ts.length xc) ts.length (itC ts) (by simp [Act.eval]) FU.out.head ⟨w2.heap.size, 0, none⟩ 1 1 [.int .i64 z, .int .i64 y] (by simp [Act.eval]) (by simp) NWU.out (one_it z y) (by omega) (by unfold maxLen; omega) (by omega) (by have := SU.out; have := Z2.out; omega) U.heap.size rfl ?_
    intro gg cap5 w5 hown hgrow hat hlt5
    have F5 := hid (FU.out.app hgrow hown hat)
    have K5 := hid (CS.out w5 F5.out.tail)
    have G5 : Hid (Below B U w5) := hid ((Below.refl B U).grown hgrow hbU.out (fun k hk => (FU.out.head.lt k hk).1))
    clear hown hgrow hat
    refine hK _ _ K5.out ?_
    clear hK K
    refine wpTill_step (i := 11) (by kernel_rfl) rfl (fun K hK => ?_)
    go_simp
    refine hK _ _ K5.out ?_
    clear hK K
    obtain ⟨⟨a0, a1, a2⟩, g0, g1, g2, al⟩ := three_cc (box_blk F5.out.tail.head)
    refine wpTill_last (by kernel_rfl) rfl (by kernel_rfl) (fun K hK => ?_)
    go_simp
    refine hK _ _ ?_
    clear hK K
    refine wpTill_done (by kernel_rfl) ?_ _
    refine NoPanic.normal ?_
    have F6 : Hid (Flat (w5.setCell ⟨H3, 2, none⟩ (.slice (some ⟨gg, 0, none⟩) (ts.length + 1) cap5)) B (sysB H3 (.int .i64 sg) (.slice eo os.length ec) (.slice (some ⟨gg, 0, none⟩) (ts.length + 1) cap5) :: (⟨59, 2, (.slice (some ⟨gg, 0, none⟩) (ts.length + 1) cap5), ts.length + 1, itC ts ++ [.int .i64 z, .int .i64 y]⟩ : Rw) :: (sysB (H3 + 1) (.int .i64 0) nilV nilV :: nuR g7 p7 [z, y] :: ((ObsG.mk (.slice eo os.length ec) os).rows ++ R)))) := hid (F5.out.swap.setBox 2 (.slice (some ⟨gg, 0, none⟩) (ts.length + 1) cap5))
    have F7 : Hid (Flat (w5.setCell ⟨H3, 2, none⟩ (.slice (some ⟨gg, 0, none⟩) (ts.length + 1) cap5)) B (sysB (H3 + 1) (.int .i64 0) nilV nilV :: ([sysB H3 (.int .i64 sg) (.slice eo os.length ec) (.slice (some ⟨gg, 0, none⟩) (ts.length + 1) cap5), nuR g7 p7 [z, y]] ++ ((SyG.mk sg ⟨.slice eo os.length ec, os⟩ ⟨(.slice (some ⟨gg, 0, none⟩) (ts.length + 1) cap5), ts ++ [(z, y)]⟩).rows ++ R)))) := hid (F6.out.perm (by
        refine perm_count fun f g hf => ?_
        simp only [SyG.rows, ObsG.rows, ObsG.row, ob1, ObG.rows, InG.row, StsG.rows, TrsG.rows, StsG.row, TrsG.row, TmG.row, StG.rows, TrG.rows, SmsG.rows, SmsG.row, itC_append, itC, List.map_append, List.map_cons, List.flatMap_append, List.flatMap_cons, List.flatMap_nil, List.append_nil, List.length_append, List.length_cons, List.length_nil, List.map_nil, List.cons_append, List.nil_append, hf.c, hf.a, hf.z, Nat.zero_add]
        omega))
    have B5 : Hid (Below B w (w5.setCell ⟨H3, 2, none⟩ (.slice (some ⟨gg, 0, none⟩) (ts.length + 1) cap5))) := hid ((((B2.out.trans (BU.out.mono Z2.out)).trans G5.out).setCell (p := ⟨H3, 2, none⟩) H3B.out _))
    clear F5 F6 FU FW K5 KU HSd NWU CS a0 a1 a2 g0 g1 g2 al
    obtain ⟨⟨a0, a1, a2⟩, g0, g1, g2, al⟩ := three_cc (box_blk F7.out.tail.head)
    obtain ⟨⟨b0, b1, b2⟩, q0, q1, q2, ql⟩ := three_cc (box_blk F7.out.head)
    obtain ⟨Y, hY⟩ : ∃ Y, Y = (w5.setCell ⟨H3, 2, none⟩ (.slice (some ⟨gg, 0, none⟩) (ts.length + 1) cap5)) := ⟨_, rfl⟩
    rw [← hY] at F7 B5 a0 a1 a2 g0 g1 g2 al b0 b1 b2 q0 q1 q2 ql ⊢
    clear hY
    go_wp2_with fail
    obtain ⟨u0, u1, u2⟩ := ln_box F7.out (.int .i64 sg) (.slice eo os.length ec) (.slice (some ⟨gg, 0, none⟩) (ts.length + 1) cap5)
    exact bodyPost_ret (v := .tuple #[.agg #[.int .i64 sg, .slice eo os.length ec, .slice (some ⟨gg, 0, none⟩) (ts.length + 1) cap5], .bool true]) (by simp [results, Tryz.results10, go_sem, u0, u1, u2]) rfl (ln_ans (SyG.mk sg ⟨.slice eo os.length ec, os⟩ ⟨(.slice (some ⟨gg, 0, none⟩) (ts.length + 1) cap5), ts ++ [(z, y)]⟩) [sysB H3 (.int .i64 sg) (.slice eo os.length ec) (.slice (some ⟨gg, 0, none⟩) (ts.length + 1) cap5), nuR g7 p7 [z, y]] B5.out B6.out F7.out (List.Perm.refl _) (by rw [LW.out]; simp [SyG.dat]))
end Go.Proofs.YtbcjlpjohknljaaGreatDoor
