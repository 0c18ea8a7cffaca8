import Derived.Test.YtiimkhepplkocaaGreatZt11a
namespace Go.Proofs.YtiimkhepplkocaaGreat
open Go.RowKit Go.Sort
set_option linter.unusedVariables false
attribute [local go_sem ↓] Go.wp_at_zero Go.wp_at_succ

set_option maxRecDepth 100000 in
set_option maxHeartbeats 16000000 in
theorem specCompile_ok (so tq : Option Addr) (n sc tn tc : Nat) (ss : List StD) (ts : List TrD) (o s t v : Int) (w : World) (hn : n ≤ 9223372036854775807) (htn : tn ≤ 9223372036854775807) (hs : StatesOf w so n ss) (ht : TransOf w tq tn ts) (hc : (checkOf ss ts ⟨o, s, t, v⟩).1 = 0) :
    Calls Tryz.prog 11 #[.agg #[.slice so n sc, .slice tq tn tc], .agg #[.int .i64 o, .int .i64 s, .int .i64 t, .int .i64 v]] w fun e w' => ∃ lv sv rv bx bn R HB w1, e = .returned (tabV (tblX ss ts s.toNat) lv sv rv bx bn) ∧ w.heap.size ≤ w1.heap.size ∧ (∃ X, TbI w1 HB (tblX ss ts s.toNat) lv sv rv bx bn R X ∧ OnlyP (fun b => b = w.heap.size + 1 + 1) X w' ∧ w.heap.size + 1 + 1 < w1.heap.size) ∧ Below w.heap.size w w' := by
  have hC := chk_of hc
  have HL := hid hs.1
  have TL := hid ht.1
  have EN := hid (cr0_start w #[.slice so n sc, .slice tq tn tc] #[.int .i64 o, .int .i64 s, .int .i64 t, .int .i64 v])
  have C := hid (specCheck_any so tq n sc tn tc ss ts o s t v _ hn htn (hs.below EN.out.bel) (ht.below EN.out.bel))
  obtain ⟨f1, hf1⟩ : ∃ f, f = (checkOf ss ts ⟨o, s, t, v⟩).2 := ⟨_, rfl⟩
  rw [hc, ← hf1] at C
  obtain ⟨S, hS⟩ : ∃ S : Nat, S = s.toNat := ⟨_, rfl⟩
  have hlim := hC.lim.2.1
  have hsS : s = (S : Int) := by have := hlim.1; simp only at this; omega
  have S64 : S ≤ 64 := by have := hlim.2; simp only at this; omega
  rw [← hS]
  have HC := hid hC
  obtain ⟨i0, hi0, hz0, hz1, hz2⟩ := info_parts Tryz.infoInt0
  obtain ⟨i1, hi1, hy0, hy1, hy2⟩ := info_parts infoRow
  subst hsS
  have n2 : n ≤ 200 := by rw [← HL.out]; exact hC.good.n2
  have HX : Hid (∀ w', Below w.heap.size w w' → StatesOf w' so n ss ∧ TransOf w' tq tn ts) := hid (fun w' h => ⟨hs.below h, ht.below h⟩)
  clear hs ht hc hlim hS hC hf1
  go_enter Tryz.func11, Tryz.ntmps11
  go_upto_region 5 with (go_at_call 48; refine C.out.mono ?_; rintro e w0 ⟨rfl, hb⟩; have B0 := hid (EN.out.below hb); obtain ⟨l0, l1, l2, l3⟩ := quad_cells B0.out.l; obtain ⟨c0, c1⟩ := two_cells B0.out.c; clear hb)
  have T0 := hid (tbi_new w0 (S : Int))
  obtain ⟨HB, hHB⟩ : ∃ x, x = w0.heap.size := ⟨_, rfl⟩
  obtain ⟨W1, hW1⟩ : ∃ x, x = w0.alloc (.cells #[.int .i64 (S : Int), .slice none 0 0, .slice none 0 0, .slice none 0 0, .int .i64 0, .slice none 0 0, .slice none 0 0, .int .i64 0] 46) := ⟨_, rfl⟩
  rw [← hW1] at T0 ⊢
  rw [← hHB] at T0 ⊢
  have cl9 := lt_of_block B0.out.c
  have HBl : Hid (w0.heap.size ≤ HB) := hid (by omega)
  have BX : Hid (∀ X, Below w0.heap.size w0 X → Cr0 w #[.slice so n sc, .slice tq tn tc] #[.int .i64 o, .int .i64 (S : Int), .int .i64 t, .int .i64 v] X) := hid (fun X hb => B0.out.below hb)
  have LI : Hid (∀ k, k < ss.length → decide (¬ kids ss ss.length k = []) = !(decide (ini ss k < 0))) := hid (fun k hk => by rw [← leaf_ini HC.out.good hk]; by_cases e : kids ss ss.length k = [] <;> simp [e])
  obtain ⟨k0, k1⟩ := two_cells (BX.out _ T0.out.bel).c
  clear hHB hW1 C c0 c1 l0 l1 l2 l3 cl9
  go_wp2_with fail
  go_loopg [33] n (fun mm i X => ∃ (k : Nat) (lv : Value), k ≤ n ∧ mm = n - k ∧ i = .int .i64 k ∧ TbI w0 HB (tblS S (leavesOf ss k) []) lv (.slice none 0 0) (.slice none 0 0) (.slice none 0 0) (.slice none 0 0) [] X)
  case atStart => exact ⟨0, _, by omega, by omega, rfl, by simpa [leavesOf, tblS, stB] using T0.out⟩
  case round =>
    obtain ⟨k, lv, hk, rfl, rfl, hT⟩ := hrel
    have TT := hid hT
    have X0 := BX.out _ hT.bel
    obtain ⟨c0, c1⟩ := two_cells X0.c
    clear k0 k1 T0
    by_cases hlt : k < n
    · have hks : k < ss.length := by rw [HL.out]; exact hlt
      have ki : (k : Int) < (n : Int) := by omega
      have CH := hid (l2HasChild_any so tq n sc tn tc ss k wr hn (HX.out _ X0.bel).1)
      rw [LI.out k hks] at CH
      have LS := hid (leaves_succ ss k)
      by_cases hlf : ini ss k < 0
      case neg =>
        rw [decide_eq_false hlf] at CH
        rw [if_neg hlf, List.append_nil] at LS
        clear hT X0
        go_wp2_with (go_at_call 49; refine CH.out.mono ?_; rintro e wa ⟨rfl, hb⟩; have T1 := hid (TT.out.below hb); clear hb)
        go_roundg (n - (k + 1))
        case measure => omega
        case rel => exact ⟨k + 1, lv, by omega, rfl, by go_num, by rw [LS.out]; exact T1.out⟩
      case pos =>
        rw [decide_eq_true hlf] at CH
        rw [if_pos hlf] at LS
        obtain ⟨la, lc, hlv⟩ : ∃ la lc, lv = .slice la (leavesOf ss k).length lc := own_any hT.l
        subst hlv
        have LLn : Hid ((leavesOf ss k).length ≤ 200) := hid (by have := leaves_len ss k; omega)
        obtain ⟨Lv, hLv⟩ : ∃ x, x = leavesOf ss k := ⟨_, rfl⟩
        rw [← hLv] at TT LLn LS
        have ln2 : Lv.length ≤ 200 := LLn.out
        have F63 : Hid (Lv.length + 1 ≤ maxLen ∧ (Lv.length + 1) * 8 ≤ 140737488355328) := hid (by unfold maxLen; omega)
        clear hT X0 hLv
        go_wp2_with (first
          | (go_at_call 49; refine CH.out.mono ?_; rintro e wa ⟨rfl, hb⟩; have T1 := hid (TT.out.below hb); obtain ⟨x0', x1, x2, x3, x4, x5, x6, x7⟩ := eight_cells T1.out.box; have hbl := lt_of_block T1.out.box; have TA := hid (T1.out.below (below1 wa (.cells #[.int .i64 (k : Int)] 3))); have OLa : Hid ((wa.alloc (.cells #[.int .i64 (k : Int)] 3)).ownsRow w0.heap.size 3 1 (.slice la Lv.length lc) Lv.length (ints Lv)) := hid TA.out.l; have NW := hid (World.news_of_block (heap_alloc_new wa (.cells #[.int .i64 (k : Int)] 3))); clear hb)
          | (at_builtin; refine wpList_append_lies _ rfl (.tmp 41) (.tmp 43) 30 rfl w0.heap.size 3 i0 _ 1 8 Tryz.underlying30 hi0 hz0 hz1 hz2 rfl (by decide) (.slice la Lv.length lc) Lv.length (ints Lv) rfl OLa.out ⟨wa.heap.size, 0, none⟩ 1 1 [.int .i64 (k : Int)] rfl rfl NW.out (by intro u hu; simp at hu; subst hu; rfl) (by omega) F63.out.1 F63.out.2 TA.out.bel.size (wa.heap.size + 1) (by simp) ?_))
        intro g3 cap3 w3 hown hgrow hat3 _
        have X3 := (hgrow.block _ (lt_of_block TA.out.box) (fun e => int_tag OLa.out TA.out.box _ e.symm rfl)).trans TA.out.box
        obtain ⟨q0, q1, q2, q3, q4, q5, q6, q7⟩ := eight_cells X3
        have fr1 := frozen_of_row w3 HB 1 _ _ X3
        have AL := hid (TbI.addL (x := k) TA.out hgrow (show w3.ownsRow w0.heap.size 3 1 (.slice (some ⟨g3, 0, none⟩) (Lv.length + 1) cap3) (Lv.length + 1) (ints (Lv ++ [k])) by simpa [ints] using hown) (at_new2 rfl hat3 (by simp)))
        clear hown hgrow hat3 X3
        go_wp2_with fail
        go_roundg (n - (k + 1))
        case measure => omega
        case rel => exact ⟨k + 1, _, by omega, rfl, by go_num, by rw [LS.out]; exact AL.out⟩
    · obtain rfl : k = n := by omega
      obtain ⟨la, lc, hlv⟩ : ∃ la lc, lv = .slice la (leavesOf ss k).length lc := own_any hT.l
      subst hlv
      have LLn : Hid ((leavesOf ss k).length ≤ 200) := hid (by have := leaves_len ss k; omega)
      have LM := hid (leaves_lt ss k)
      obtain ⟨Lv, hLv⟩ : ∃ x, x = leavesOf ss k := ⟨_, rfl⟩
      have HLv := hid hLv
      rw [← hLv] at TT LLn LM
      obtain ⟨m2, hm2⟩ : ∃ x, x = Lv.length := ⟨_, rfl⟩
      have EM2 := hid hm2
      rw [← hm2] at TT LLn
      have m200 : m2 ≤ 200 := LLn.out
      obtain ⟨x0', x1, x2, x3, x4, x5, x6, x7⟩ := eight_cells TT.out.box
      have hbl := lt_of_block TT.out.box
      clear hT X0 hLv hm2
      go_wp2_with fail
      go_loopg [50] m2 (fun mm i X => ∃ (p : Nat) (sv rv : Value) (R : List (List Value)), p ≤ m2 ∧ mm = m2 - p ∧ i = .int .i64 p ∧ TbI w0 HB (tblS S Lv (cellsX ss ts S (Lv.take p))) (.slice la m2 lc) sv rv (.slice none 0 0) (.slice none 0 0) R X)
      case atStart => exact ⟨0, _, _, [], by omega, by omega, rfl, by simpa [cellsX] using TT.out⟩
      case round =>
        obtain ⟨p, sv, rv, R, hp, rfl, rfl, hT⟩ := hrel
        have T2 := hid hT
        clear TT x0' x1 x2 x3 x4 x5 x6 x7 hbl c0 c1
        by_cases hpl : p < m2
        · have hpL : p < Lv.length := by rw [← EM2.out]; exact hpl
          obtain ⟨gv, cap9, hgv, _, hgl⟩ := World.ownsRow.form hT.l (show 0 < Lv.length by omega)
          obtain ⟨f, hf⟩ : ∃ f, f = Lv.getD p 0 := ⟨_, rfl⟩
          have hgv2 : Value.slice la m2 lc = .slice (some ⟨gv, 0, none⟩) Lv.length cap9 := hgv
          simp only [Value.slice.injEq] at hgv2
          obtain ⟨rfl, hm9, rfl⟩ := hgv2
          clear hm9
          have cf : wr.cell? ⟨gv, p, none⟩ = some (.int .i64 (f : Int)) := by
            have h1 : wr.ownsRow w0.heap.size 3 1 (.slice (some ⟨gv, 0, none⟩) m2 lc) m2 (ints Lv) := by have h := hT.l; rw [show (tblS S Lv (cellsX ss ts S (Lv.take p))).lv.length = m2 from EM2.out.symm] at h; exact h
            rw [World.ownsRow.cellAt h1 p (by omega), hf]
            simp [ints, hpL]
          have fm : f ∈ Lv := by rw [hf, List.getD_eq_getElem?_getD, List.getElem?_eq_getElem hpL]; simp
          have fk : f < k := LM.out f fm
          have hfs : f < ss.length := by rw [HL.out]; exact fk
          have TKs : Hid (cellsX ss ts S (Lv.take (p + 1)) = cellsX ss ts S (Lv.take p) ++ (List.range S).map (fun (s : Nat) => rowsX ss ts f (s : Int))) := hid (by rw [take_snoc hpL, cellsX_snoc, hf])
          obtain ⟨C0, hC0⟩ : ∃ x, x = cellsX ss ts S (Lv.take p) := ⟨_, rfl⟩
          have HC0 := hid hC0
          rw [← hC0] at T2 TKs
          have pi : (p : Int) < (m2 : Int) := by omega
          clear hT hf hgv fm hC0
          go_wp2_with fail
          go_loopg [11] S (fun mm i X => ∃ (j : Nat) (sv rv : Value) (R : List (List Value)), j ≤ S ∧ mm = S - j ∧ i = .int .i64 j ∧ TbI w0 HB (tblS S Lv (C0 ++ (List.range j).map (fun (s : Nat) => rowsX ss ts f (s : Int)))) (.slice (some ⟨gv, 0, none⟩) m2 lc) sv rv (.slice none 0 0) (.slice none 0 0) R X)
          case atStart => exact ⟨0, _, _, _, by omega, by omega, rfl, by simpa using T2.out⟩
          case round =>
            obtain ⟨j, sv, rv, R, hj, rfl, rfl, hT⟩ := hrel
            have TJ := hid hT
            have X0 := BX.out _ hT.bel
            obtain ⟨l0, l1, l2, l3⟩ := quad_cells X0.l
            have ll := lt_of_block X0.l
            clear T2 cf
            by_cases hjt : j < S
            · obtain ⟨K, hK⟩ : ∃ K, K = cands ts (up ss f) (j : Int) := ⟨_, rfl⟩
              have CC := hid (fun X (hb : Below w0.heap.size w0 X) => l3Cand_any so tq k sc tn tc ss ts HC.out.good.tree n2 (by rw [← TL.out]; exact HC.out.good.tn) f fk (j : Int) X (HX.out X (BX.out X hb).bel).1 (HX.out X (BX.out X hb).bel).2)
              have WY := hid (fun q (hq : q ∈ cands ts (up ss f) (j : Int)) => way_of HC.out hfs hq)
              have RX : Hid (rowsX ss ts f (j : Int) = K.map (rowX ss ts f)) := hid (by rw [hK]; rfl)
              have RL : Hid (K.length ≤ 100000) := hid (by have := rowsX_len HC.out hfs (j : Int); rw [RX.out, List.length_map] at this; exact this)
              rw [← hK] at CC WY
              obtain ⟨m, hm⟩ : ∃ m, m = K.length := ⟨_, rfl⟩
              have EM := hid hm
              rw [← hm] at CC RL
              obtain ⟨Cj, hCj⟩ : ∃ x, x = C0 ++ (List.range j).map (fun (s : Nat) => rowsX ss ts f (s : Int)) := ⟨_, rfl⟩
              have HCj := hid hCj
              rw [← hCj] at TJ
              have CjN : Hid (Cj.length ≤ 200 * 64) := hid (by
                rw [hCj, List.length_append, List.length_map, List.length_range, HC0.out, cellsX_len, List.length_take]
                have h4 : min p Lv.length * S ≤ 199 * S := Nat.mul_le_mul (by omega) (Nat.le_refl _)
                omega)
              have CjL : Hid (Cj.flatten.length ≤ 1280000000) := hid (by
                have hmem : ∀ c, c ∈ Cj → c.length ≤ 100000 := by
                  intro c hc
                  rw [hCj] at hc
                  rcases List.mem_append.1 hc with h | h
                  · rw [HC0.out] at h
                    exact cellsX_mem HC.out (fun x hx => by have := LM.out x (List.mem_of_mem_take hx); rw [HL.out]; exact this) c h
                  · obtain ⟨s, _, rfl⟩ := List.mem_map.1 h
                    exact rowsX_len HC.out hfs _
                have h1 := flat_len hmem
                have h3 := Nat.mul_le_mul CjN.out (Nat.le_refl 100000)
                omega)
              have JN : Hid (tblM S Lv Cj (K.map (rowX ss ts f)) = tblS S Lv (C0 ++ (List.range (j + 1)).map (fun (s : Nat) => rowsX ss ts f (s : Int)))) := hid (by
                rw [range_snoc, ← List.append_assoc, ← hCj, RX.out]
                simp only [tblM, tblS, stOf, stB_snoc, List.flatten_append, List.flatten_cons, List.flatten_nil, List.append_nil])
              obtain ⟨DR, hDR⟩ : ∃ x, x = Cj.flatten := ⟨_, rfl⟩
              have HDR := hid hDR
              have DRl : DR.length ≤ 1280000000 := by rw [hDR]; exact CjL.out
              obtain ⟨ra, rc, hrv⟩ : ∃ ra rc, rv = .slice ra DR.length rc := by rw [hDR]; exact own_any TJ.out.ro
              subst hrv
              obtain ⟨st, hst⟩ : ∃ x, x = stB Cj := ⟨_, rfl⟩
              have HST := hid hst
              have stl : st.length ≤ 100000 := by rw [hst, stB_len]; have := CjN.out; omega
              obtain ⟨sa, sc2, hsv⟩ : ∃ sa sc2, sv = .slice sa st.length sc2 := by rw [hst]; exact own_any TJ.out.s
              have TA := hid (TJ.out.below (below1 wr (.cells #[.int .i64 (DR.length : Int)] 3)))
              have OSa : Hid ((wr.alloc (.cells #[.int .i64 (DR.length : Int)] 3)).ownsRow w0.heap.size 3 1 (.slice sa st.length sc2) st.length (ints st)) := hid (by have h := TA.out.s; rw [hsv, show (tblS S Lv Cj).st = st from HST.out.symm] at h; exact h)
              have NW := hid (World.news_of_block (heap_alloc_new wr (.cells #[.int .i64 (DR.length : Int)] 3)))
              obtain ⟨x0', x1, x2, x3, x4, x5, x6, x7⟩ := eight_cells TJ.out.box
              have hbl := lt_of_block TJ.out.box
              have HSV := hid hsv
              rw [hsv] at x2
              have ji : (j : Int) < (S : Int) := by omega
              clear hT hK hm hCj hDR hst hsv X0
              go_wp2_with (at_builtin; refine wpList_append_lies _ rfl (.tmp 61) (.tmp 65) 30 rfl w0.heap.size 3 i0 _ 1 8 Tryz.underlying30 hi0 hz0 hz1 hz2 rfl (by decide) (.slice sa st.length sc2) st.length (ints st) rfl OSa.out ⟨wr.heap.size, 0, none⟩ 1 1 [.int .i64 (DR.length : Int)] rfl rfl NW.out (by intro u hu; simp at hu; subst hu; rfl) (by omega) (by unfold maxLen; omega) (by omega) TA.out.bel.size (wr.heap.size + 1) (by simp) ?_)
              intro g4 cap4 w4 hown hgrow hat4 _
              have X4 := (hgrow.block _ (lt_of_block TA.out.box) (fun e => int_tag OSa.out TA.out.box _ e.symm rfl)).trans TA.out.box
              obtain ⟨q0, q1, q2, q3, q4, q5, q6, q7⟩ := eight_cells X4
              have fr2 := frozen_of_row w4 HB 2 _ _ X4
              have AS : Hid (TbI w0 HB (tblM S Lv Cj []) (.slice (some ⟨gv, 0, none⟩) m2 lc) (.slice (some ⟨g4, 0, none⟩) (st.length + 1) cap4) (.slice ra DR.length rc) (.slice none 0 0) (.slice none 0 0) R (w4.setCell ⟨HB, 2, none⟩ (.slice (some ⟨g4, 0, none⟩) (st.length + 1) cap4))) := hid (by
                have h := TbI.addS (x := DR.length) TA.out (by rw [HSV.out]; exact hgrow) (show w4.ownsRow w0.heap.size 3 1 (.slice (some ⟨g4, 0, none⟩) (st.length + 1) cap4) ((tblS S Lv Cj).st.length + 1) (ints ((tblS S Lv Cj).st ++ [DR.length])) by rw [show (tblS S Lv Cj).st = st from HST.out.symm]; simpa [ints] using hown) (by rw [HSV.out]; exact at_new2 rfl hat4 (by simp))
                simpa [tblM, tblS, stOf, HDR.out] using h)
              clear hown hgrow hat4 X4 q0 q1 q3 q4 q5 q6 q7 x0' x1 x2 x3 x4 x5 x6 x7 l0 l1 l2 l3
              go_upto_region 18 with fail
              obtain ⟨W, hW⟩ : ∃ W, W = w4.setCell ⟨HB, 2, none⟩ (.slice (some ⟨g4, 0, none⟩) (st.length + 1) cap4) := ⟨_, rfl⟩
              rw [← hW] at AS ⊢
              obtain ⟨c0, c1⟩ := two_cells (BX.out _ AS.out.bel).c
              clear hW q2 fr2 OSa TA NW hbl
              go_wp2_with (go_at_call 50; refine (CC.out _ AS.out.bel).mono ?_; rintro e w5 ⟨gc, cc, rfl, ho, hb⟩; have T5 := hid (AS.out.below hb); have OM : Hid (w5.ownsRow w0.heap.size 3 1 (.slice (some ⟨gc, 0, none⟩) m cc) m (ints K)) := hid (by have h := ownsRow_base ho AS.out.bel.size; rw [← EM.out] at h; exact h); clear ho hb)
              go_loopg [73] m (fun mm i X => ∃ (a : Nat) (rv : Value) (R : List (List Value)), a ≤ m ∧ mm = m - a ∧ i = .int .i64 a ∧ TbI w0 HB (tblM S Lv Cj ((K.map (rowX ss ts f)).take a)) (.slice (some ⟨gv, 0, none⟩) m2 lc) (.slice (some ⟨g4, 0, none⟩) (st.length + 1) cap4) rv (.slice none 0 0) (.slice none 0 0) R X ∧ X.ownsRow w0.heap.size 3 1 (.slice (some ⟨gc, 0, none⟩) m cc) m (ints K))
              case atStart => exact ⟨0, _, _, by omega, by omega, rfl, by simpa using T5.out, OM.out⟩
              case round =>
                obtain ⟨a, rv, R, ha, rfl, rfl, hT, hO⟩ := hrel
                have TT := hid hT
                have X0 := BX.out _ hT.bel
                obtain ⟨c0, c1⟩ := two_cells X0.c
                by_cases hat : a < m
                · obtain ⟨q, hq⟩ : ∃ q, q = K.getD a 0 := ⟨_, rfl⟩
                  have hak : a < K.length := by rw [← EM.out]; exact hat
                  have hqm : q ∈ K := by rw [hq, List.getD_eq_getElem?_getD, List.getElem?_eq_getElem hak]; simp
                  have cq : wr.cell? ⟨gc, a, none⟩ = some (.int .i64 (q : Int)) := by
                    rw [World.ownsRow.cellAt hO a (by omega), hq]
                    simp [ints, hak]
                  have gcl : gc < wr.heap.size := (World.ownsRow.lt hO gc rfl).2
                  have WQ := hid (WY.out q hqm)
                  have CP := hid (path_q2 HC.out so tq k sc tn tc TL.out fk WQ.out wr (HX.out _ X0.bel).1 (HX.out _ X0.bel).2)
                  have TKa : Hid ((K.map (rowX ss ts f)).take (a + 1) = (K.map (rowX ss ts f)).take a ++ [rowX ss ts f q]) := hid (by rw [hq]; exact takeX_snoc hak)
                  obtain ⟨ex, hex⟩ : ∃ x, x = exX ss f (ts.getD q tr0) := ⟨_, rfl⟩
                  obtain ⟨en, hen⟩ : ∃ x, x = enX ss (ts.getD q tr0) := ⟨_, rfl⟩
                  obtain ⟨nx, hnx⟩ : ∃ x, x = nxX ss f (ts.getD q tr0) := ⟨_, rfl⟩
                  have RWX : Hid (rowX ss ts f q = ⟨(q : Int), ex, en, (nx : Nat)⟩) := hid (by rw [hex, hen, hnx]; rfl)
                  rw [← hex, ← hen, ← hnx] at CP
                  obtain ⟨DQ, hDQ⟩ : ∃ x, x = Cj.flatten ++ (K.map (rowX ss ts f)).take a := ⟨_, rfl⟩
                  have HDQ := hid hDQ
                  have DQl : DQ.length ≤ 1280100000 := by
                    rw [hDQ, List.length_append, List.length_take, List.length_map]
                    have := CjL.out
                    have := RL.out
                    omega
                  obtain ⟨ra, rc, hrv⟩ : ∃ ra rc, rv = .slice ra DQ.length rc := by rw [hDQ]; exact own_any hT.ro
                  subst hrv
                  have ai : (a : Int) < (m : Int) := by omega
                  have a5 : a ≤ 100000 := by have := RL.out; omega
                  have F63 : Hid (DQ.length + 1 ≤ maxLen ∧ (DQ.length + 1) * 64 ≤ 140737488355328) := hid (by unfold maxLen; omega)
                  have OV := hid hO
                  clear hT hO hq hqm hak X0 hex hen hnx hDQ
                  go_wp2_with (first
                    | (go_at_call 51; refine CP.out.mono ?_; rintro e w6 ⟨ge, ce, gn, cn, rfl, o1, o2, hne, hb⟩; have T6 := hid (TT.out.below hb); have TA := hid (T6.out.below (below1 w6 (.cells #[.int .i64 (q : Int), .slice (some ⟨ge, 0, none⟩) ex.length ce, .slice (some ⟨gn, 0, none⟩) en.length cn, .int .i64 (nx : Nat)] 44))); have OA : Hid ((w6.alloc (.cells #[.int .i64 (q : Int), .slice (some ⟨ge, 0, none⟩) ex.length ce, .slice (some ⟨gn, 0, none⟩) en.length cn, .int .i64 (nx : Nat)] 44)).ownsRow w0.heap.size 44 4 (.slice ra DQ.length rc) DQ.length R.flatten) := hid (by have h := TA.out.ro; rw [show (tblM S Lv Cj ((K.map (rowX ss ts f)).take a)).rw = DQ from HDQ.out.symm] at h; exact h); have MA := hid (ownsRow_below (ownsRow_below OV.out hb) (below1 w6 (.cells #[.int .i64 (q : Int), .slice (some ⟨ge, 0, none⟩) ex.length ce, .slice (some ⟨gn, 0, none⟩) en.length cn, .int .i64 (nx : Nat)] 44))); have RI := hid (row_in (tr := (q : Int)) (nx := ((nx : Nat) : Int)) o1 o2 (below1 w6 (.cells #[.int .i64 (q : Int), .slice (some ⟨ge, 0, none⟩) ex.length ce, .slice (some ⟨gn, 0, none⟩) en.length cn, .int .i64 (nx : Nat)] 44)) TT.out.bel.size); have GE : Hid (wr.heap.size ≤ ge ∧ wr.heap.size ≤ gn ∧ ge ≠ gn) := hid ⟨(World.ownsRow.lt o1 ge rfl).1, (World.ownsRow.lt o2 gn rfl).1, hne⟩; have NW := hid (World.news_of_block (heap_alloc_new w6 (.cells #[.int .i64 (q : Int), .slice (some ⟨ge, 0, none⟩) ex.length ce, .slice (some ⟨gn, 0, none⟩) en.length cn, .int .i64 (nx : Nat)] 44))); have SZ := hid TA.out.bel.size; obtain ⟨p0, p1, p2, p3, p4, p5, p6, p7⟩ := eight_cells T6.out.box; have hbl2 := lt_of_block T6.out.box; clear o1 o2 hne hb)
                    | (at_builtin; refine wpList_append_lies _ rfl (.tmp 86) (.tmp 92) 42 rfl w0.heap.size 44 i1 _ 4 64 Tryz.underlying42 hi1 hy0 hy1 hy2 rfl (by decide) (.slice ra DQ.length rc) DQ.length R.flatten rfl OA.out ⟨w6.heap.size, 0, none⟩ 1 1 [.int .i64 (q : Int), .slice (some ⟨ge, 0, none⟩) ex.length ce, .slice (some ⟨gn, 0, none⟩) en.length cn, .int .i64 (nx : Nat)] rfl rfl NW.out (by intro u hu; simp at hu; rcases hu with rfl | rfl | rfl | rfl <;> rfl) (by omega) F63.out.1 F63.out.2 SZ.out (w6.heap.size + 1) (by simp) ?_))
                  intro g7 cap7 w7 hown hgrow hat7 _
                  have X7 := (hgrow.block _ (lt_of_block TA.out.box) (fun e => rows_tag OA.out TA.out.box _ e.symm rfl)).trans TA.out.box
                  obtain ⟨q0, q1, q2, q3, q4, q5, q6, q7⟩ := eight_cells X7
                  have fr3 := frozen_of_row w7 HB 3 _ _ X7
                  have AR := hid (TbI.addR (t := rowX ss ts f q) (c := [.int .i64 (q : Int), .slice (some ⟨ge, 0, none⟩) ex.length ce, .slice (some ⟨gn, 0, none⟩) en.length cn, .int .i64 (nx : Nat)]) (N := wr.heap.size) TA.out (fun b e => by
                    rcases e with (e | e | e | e) | e
                    · exact (TT.out.l.lt b e).2
                    · exact (TT.out.s.lt b e).2
                    · exact (TT.out.x.lt b e).2
                    · exact (TT.out.n.lt b e).2
                    · exact (TT.out.inner b e).2) (by rw [RWX.out]; exact RI.out) (fun b e => by
                    have h1 := GE.out
                    rcases e with e | e
                    · simp [Value.ownBlock] at e; omega
                    · simp [Value.ownBlock] at e; omega) (fun b e e2 => by have h1 := GE.out; simp [Value.ownBlock] at e e2; omega) hgrow (by
                    rw [show (tblM S Lv Cj ((K.map (rowX ss ts f)).take a)).rw = DQ from HDQ.out.symm]
                    exact hown))
                  have MK := hid (i_keep (o := 3) (u := .slice (some ⟨g7, 0, none⟩) (DQ.length + 1) cap7) MA.out OA.out hgrow TA.out.box)
                  have EQ : Hid ((⟨(tblM S Lv Cj ((K.map (rowX ss ts f)).take a)).sg, (tblM S Lv Cj ((K.map (rowX ss ts f)).take a)).lv, (tblM S Lv Cj ((K.map (rowX ss ts f)).take a)).st, (tblM S Lv Cj ((K.map (rowX ss ts f)).take a)).rw ++ [rowX ss ts f q], (tblM S Lv Cj ((K.map (rowX ss ts f)).take a)).bt⟩ : TbD) = tblM S Lv Cj ((K.map (rowX ss ts f)).take (a + 1))) := hid (by rw [TKa.out]; simp [tblM])
                  clear hown hgrow hat7 X7
                  go_wp2_with fail
                  go_roundg (m - (a + 1))
                  case measure => omega
                  case rel => exact ⟨a + 1, _, _, by omega, rfl, by go_num, by rw [← EQ.out]; exact AR.out, MK.out⟩
                · obtain rfl : a = m := by omega
                  have TK : (K.map (rowX ss ts f)).take a = K.map (rowX ss ts f) := List.take_of_length_le (by rw [List.length_map, EM.out]; exact Nat.le_refl _)
                  rw [TK, JN.out] at TT
                  clear hT hO TK X0
                  go_wp2_with fail
                  go_roundg (S - (j + 1))
                  case measure => omega
                  case rel => exact ⟨j + 1, _, _, _, by omega, rfl, by go_num, TT.out⟩
            · obtain rfl : j = S := by omega
              rw [← TKs.out] at TJ
              clear hT X0
              go_wp2_with fail
              go_roundg (m2 - (p + 1))
              case measure => omega
              case rel => exact ⟨p + 1, _, _, _, by omega, rfl, by go_num, TJ.out⟩
        · obtain rfl : p = m2 := by omega
          have TKp : Lv.take p = Lv := List.take_of_length_le (by rw [EM2.out]; exact Nat.le_refl _)
          rw [TKp] at T2
          obtain ⟨C9, hC9⟩ : ∃ x, x = cellsX ss ts S Lv := ⟨_, rfl⟩
          rw [← hC9] at T2
          have TX : Hid ((⟨(S : Int), Lv, stOf C9, C9.flatten ++ [], ⟨-1, [], bootOf ss, (bootTo ss : Nat)⟩⟩ : TbD) = tblX ss ts S) := hid (by rw [hC9, HLv.out, List.append_nil]; simp only [tblX, HL.out])
          have CjN : Hid (C9.length ≤ 200 * 64) := hid (by
            rw [hC9, cellsX_len]
            have h4 : Lv.length * S ≤ 200 * S := Nat.mul_le_mul (by rw [← EM2.out]; omega) (Nat.le_refl _)
            omega)
          have CjL : Hid (C9.flatten.length ≤ 1280000000) := hid (by
            have h1 := flat_len (C := C9) (m := 100000) (fun c hc => by rw [hC9] at hc; exact cellsX_mem HC.out (fun x hx => by have := LM.out x hx; rw [HL.out]; exact this) c hc)
            have h3 := Nat.mul_le_mul CjN.out (Nat.le_refl 100000)
            omega)
          obtain ⟨DR, hDR⟩ : ∃ x, x = C9.flatten := ⟨_, rfl⟩
          have HDR := hid hDR
          have DRl : DR.length ≤ 1280000000 := by rw [hDR]; exact CjL.out
          obtain ⟨ra, rc, hrv⟩ : ∃ ra rc, rv = .slice ra DR.length rc := by rw [hDR]; exact own_any T2.out.ro
          subst hrv
          obtain ⟨st, hst⟩ : ∃ x, x = stB C9 := ⟨_, rfl⟩
          have HST := hid hst
          have stl : st.length ≤ 100000 := by rw [hst, stB_len]; have := CjN.out; omega
          obtain ⟨sa, sc2, hsv⟩ : ∃ sa sc2, sv = .slice sa st.length sc2 := by rw [hst]; exact own_any T2.out.s
          have TA := hid (T2.out.below (below1 wr (.cells #[.int .i64 (DR.length : Int)] 3)))
          have OSa : Hid ((wr.alloc (.cells #[.int .i64 (DR.length : Int)] 3)).ownsRow w0.heap.size 3 1 (.slice sa st.length sc2) st.length (ints st)) := hid (by have h := TA.out.s; rw [hsv, show (tblS S Lv C9).st = st from HST.out.symm] at h; exact h)
          have NW := hid (World.news_of_block (heap_alloc_new wr (.cells #[.int .i64 (DR.length : Int)] 3)))
          obtain ⟨x0', x1, x2, x3, x4, x5, x6, x7⟩ := eight_cells T2.out.box
          have hbl := lt_of_block T2.out.box
          have HSV := hid hsv
          rw [hsv] at x2
          clear hT hC9 hDR hst hsv TKp
          go_wp2_with (at_builtin; refine wpList_append_lies _ rfl (.tmp 98) (.tmp 102) 30 rfl w0.heap.size 3 i0 _ 1 8 Tryz.underlying30 hi0 hz0 hz1 hz2 rfl (by decide) (.slice sa st.length sc2) st.length (ints st) rfl OSa.out ⟨wr.heap.size, 0, none⟩ 1 1 [.int .i64 (DR.length : Int)] rfl rfl NW.out (by intro u hu; simp at hu; subst hu; rfl) (by omega) (by unfold maxLen; omega) (by omega) TA.out.bel.size (wr.heap.size + 1) (by simp) ?_)
          intro g4 cap4 w4 hown hgrow hat4 _
          have X4 := (hgrow.block _ (lt_of_block TA.out.box) (fun e => int_tag OSa.out TA.out.box _ e.symm rfl)).trans TA.out.box
          obtain ⟨q0, q1, q2, q3, q4, q5, q6, q7⟩ := eight_cells X4
          have fr2 := frozen_of_row w4 HB 2 _ _ X4
          have AS : Hid (TbI w0 HB (tblM S Lv C9 []) (.slice la p lc) (.slice (some ⟨g4, 0, none⟩) (st.length + 1) cap4) (.slice ra DR.length rc) (.slice none 0 0) (.slice none 0 0) R (w4.setCell ⟨HB, 2, none⟩ (.slice (some ⟨g4, 0, none⟩) (st.length + 1) cap4))) := hid (by
            have h := TbI.addS (x := DR.length) TA.out (by rw [HSV.out]; exact hgrow) (show w4.ownsRow w0.heap.size 3 1 (.slice (some ⟨g4, 0, none⟩) (st.length + 1) cap4) ((tblS S Lv C9).st.length + 1) (ints ((tblS S Lv C9).st ++ [DR.length])) by rw [show (tblS S Lv C9).st = st from HST.out.symm]; simpa [ints] using hown) (by rw [HSV.out]; exact at_new2 rfl hat4 (by simp))
            simpa [tblM, tblS, stOf, HDR.out] using h)
          clear hown hgrow hat4 X4 q0 q1 q3 q4 q5 q6 q7 x0' x1 x2 x3 x4 x5 x6 x7
          go_upto_region 26 with fail
          obtain ⟨W, hW⟩ : ∃ W, W = w4.setCell ⟨HB, 2, none⟩ (.slice (some ⟨g4, 0, none⟩) (st.length + 1) cap4) := ⟨_, rfl⟩
          rw [← hW] at AS ⊢
          have G := HC.out.good
          rw [TL.out] at G
          have A1 := hid (AS.out.below (below1 W (.cells #[.int .i64 0] 3)))
          have OW : Hid ((W.alloc (.cells #[.int .i64 0] 3)).ownsRow W.heap.size 3 1 (.slice (some ⟨W.heap.size, 0, none⟩) 1 1) 1 (ints [0])) := hid (by simpa [ints] using own_lit W W 0 (Nat.le_refl _))
          have CD := hid (l2Down_any so tq k sc tn tc ss G (k - 0) 0 (by have := G.n1; rw [HL.out] at this; omega) rfl (W.alloc (.cells #[.int .i64 0] 3)) (HX.out _ (BX.out _ A1.out.bel).bel).1)
          have DL := hid (down_len G (ss.length - 0) 0 G.n1 rfl)
          have NB := hid G.n2
          have BN := hid (bootOf_len G)
          obtain ⟨c0, c1⟩ := two_cells (BX.out _ A1.out.bel).c
          have WL : Hid (w0.heap.size ≤ W.heap.size ∧ HB < W.heap.size) := hid ⟨AS.out.bel.size, lt_of_block AS.out.box⟩
          have LT := hid AS.out.lt
          clear hW q2 fr2 OSa TA NW hbl G
          go_wp2_with (first
            | (go_at_call 52; refine CD.out.mono ?_; rintro e w5 ⟨g1, c5, rfl, ho, hb⟩; have T5 := hid (A1.out.below hb); have I5 := hid ho; have O5 := hid (ownsRow_below OW.out hb); have Z5 : Hid (W.heap.size ≤ w5.heap.size) := hid (Nat.le_trans (by simp) hb.size); clear ho hb)
            | (at_builtin; refine wpList_append_own _ rfl (.tmp 105) (.tmp 107) 30 rfl W.heap.size 3 i0 (.int .i64 0) 1 8 Tryz.underlying30 hi0 hz0 hz1 hz2 rfl (by decide) (.slice (some ⟨W.heap.size, 0, none⟩) 1 1) 1 (ints [0]) rfl O5.out ⟨g1, 0, none⟩ (down ss 0).length c5 (ints (down ss 0)) rfl (by rw [ints_len]; omega) (own_news I5.out) (ints_one _) (by have := DL.out; have := NB.out; unfold maxLen; omega) (by have := DL.out; have := NB.out; omega) Z5.out ?_))
          intro v' w6 hown hgrow _
          have LB : Hid (1 + (down ss 0).length = (bootOf ss).length) := hid (by unfold bootOf; simp; omega)
          have hown2 : w6.ownsRow W.heap.size 3 1 v' (bootOf ss).length (ints (bootOf ss)) := by rw [← LB.out]; simpa [bootOf, ints] using hown
          have T6 := hid (T5.out.keep (grown_P hgrow) (fun b e => by simp [Value.ownBlock] at e; have := WL.out; omega) (fun e => by simp [Value.ownBlock] at e; have := WL.out; omega) (fun b hb e => by simp [Value.ownBlock] at e; have := LT.out b hb; omega))
          obtain ⟨g6, cap6, hv6, _, hgl6⟩ := World.ownsRow.form hown2 (by rw [← LB.out]; omega)
          subst hv6
          have O6 := hid hown2
          obtain ⟨q, hq⟩ : ∃ q, (bootOf ss).length = q + 1 := ⟨(down ss 0).length, by rw [← LB.out]; omega⟩
          have cq : w6.cell? ⟨g6, q, none⟩ = some (.int .i64 (bootTo ss : Nat)) := by
            rw [World.ownsRow.cellAt O6.out q (by omega)]
            unfold bootTo
            simp [ints, hq]
          have HQ := hid hq
          obtain ⟨nx, hnx⟩ : ∃ x : Nat, x = bootTo ss := ⟨_, rfl⟩
          rw [← hnx] at cq
          have NX := hid hnx
          have qn : (q : Int) < (q : Int) + 1 := by omega
          have q0' : (0 : Int) ≤ (q : Int) := by omega
          have q3 : q ≤ 1000 := by have := BN.out; omega
          have qI : (q : Int) ≤ 1000 := by omega
          have qw : IntKind.i64.wrap (q : Int) = q := IntWalk.i64_in _ (by omega)
          obtain ⟨b0, b1, b2, b3, b4, b5, b6, b7⟩ := eight_cells T6.out.box
          have fb := six_fr T6.out.box
          have bl6 := lt_of_block T6.out.box
          have TF := hid (TbI.boot (tr := -1) (nx := (nx : Int)) T6.out LT.out WL.out.1 O6.out)
          have TB : Hid ((⟨(tblM S Lv C9 []).sg, (tblM S Lv C9 []).lv, (tblM S Lv C9 []).st, (tblM S Lv C9 []).rw, ⟨-1, [], bootOf ss, (nx : Int)⟩⟩ : TbD) = tblX ss ts S) := hid (by rw [← TX.out, NX.out]; rfl)
          rw [TB.out] at TF
          have B6 := hid (BX.out _ T6.out.bel)
          clear hown hgrow hown2 hq hnx
          try rw [LB.out]
          rw [HQ.out]
          go_upto_region 28 with fail
          rw [HQ.out] at TF
          obtain ⟨W9, hW9⟩ : ∃ x, x = (((w6.setCell ⟨HB, 4, none⟩ (.int .i64 (-1))).setCell ⟨HB, 5, none⟩ (.slice none 0 0)).setCell ⟨HB, 6, none⟩ (.slice (some ⟨g6, 0, none⟩) (q + 1) cap6)).setCell ⟨HB, 7, none⟩ (.int .i64 (nx : Int)) := ⟨_, rfl⟩
          rw [show set47 w6 HB (.int .i64 (-1)) (.slice none 0 0) (.slice (some ⟨g6, 0, none⟩) (q + 1) cap6) (.int .i64 (nx : Int)) = W9 from hW9.symm] at TF
          rw [← hW9]
          have RB := hid (BX.out _ TF.out.bel).r
          have RL0 : w.heap.size + 1 + 1 < w0.heap.size := lt_of_block B0.out.r
          have RLw : w.heap.size + 1 + 1 < W9.heap.size := lt_of_block RB.out
          obtain ⟨x0', x1, x2, x3, x4, x5, x6, x7⟩ := eight_cells TF.out.box
          have hbl := lt_of_block TF.out.box
          obtain ⟨r0, r1, r2, r3, r4, r5, r6, r7⟩ := eight_cells RB.out
          have fz := six_fr RB.out
          have nHB : ¬ (HB = w.heap.size + 1 + 1) := by have := HBl.out; omega
          have nHB2 : ¬ (w.heap.size + 1 + 1 = HB) := fun e => nHB e.symm
          clear hW9 b0 b1 b2 b3 b4 b5 b6 b7 fb bl6 cq
          go_wp2_with fail
          obtain ⟨c0, c1, c2, c3, c4, c5', c6, c7⟩ := eight_cells (row8 (a := .int .i64 (tblX ss ts S).sg) (b := .slice la p lc) (c := .slice (some ⟨g4, 0, none⟩) (st.length + 1) cap4) (d := .slice ra DR.length rc) (e := .int .i64 (tblX ss ts S).bt.tr) (f := .slice none 0 0) (g := .slice (some ⟨g6, 0, none⟩) (q + 1) cap6) (i := .int .i64 (tblX ss ts S).bt.nx) RB.out)
          refine bodyPost_ret (v := tabV (tblX ss ts S) (.slice la p lc) (.slice (some ⟨g4, 0, none⟩) (st.length + 1) cap4) (.slice ra DR.length rc) (.slice none 0 0) (.slice (some ⟨g6, 0, none⟩) (q + 1) cap6)) (by simp [results, Tryz.results11, go_sem, c0, c1, c2, c3, c4, c5', c6, c7]) rfl ?_
          exact ⟨_, _, _, _, _, R, HB, w0, rfl, B0.out.bel.size, ⟨W9, TF.out, only8, RL0⟩, (B0.out.bel.trans (TF.out.bel.mono B0.out.bel.size)).trans (only8.toBelow (fun b e => by omega) (Nat.le_trans B0.out.bel.size TF.out.bel.size))⟩
end Go.Proofs.YtiimkhepplkocaaGreat
