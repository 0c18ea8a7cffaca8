import Derived.Test.YtiimkhepplkocaaGreatZa
namespace Go.Proofs.YtiimkhepplkocaaGreat
open Go.RowKit Go.Sort
set_option linter.unusedVariables false
attribute [local go_sem ↓] Go.wp_at_zero Go.wp_at_succ
set_option maxRecDepth 100000 in
set_option maxHeartbeats 8000000 in
theorem liftMachine_any (so tq : Option Addr) (n sc tn tc : Nat) (ss : List StD) (ts : List TrD) (o s t v : Int) (hC : Chk ss ts ⟨o, s, t, v⟩) (w : World) (hs : StatesOf w so n ss) (ht : TransOf w tq tn ts) :
  Calls Tryz.prog 99 #[.agg #[.slice so n sc, .slice tq tn tc], .agg #[.int .i64 o, .int .i64 s, .int .i64 t, .int .i64 v]] w fun e w' => ∃ N tg tcap B P M E F ev xv L lets act, e = .returned (.pointer (some ⟨M, 0, none⟩)) ∧ L2 w #[.slice so n sc, .slice tq tn tc] #[.int .i64 o, .int .i64 s, .int .i64 t, .int .i64 v] N tg tcap ss ts n ⟨o, s, t, v⟩ B P M tn E F ev xv L lets act w' := by
 have HL := hid hs.1
 have HT := hid ht.1
 have n1 : 1 ≤ n := by rw [← HL.out]; exact hC.good.n1
 have n2 : n ≤ 200 := by rw [← HL.out]; exact hC.good.n2
 have t2 : tn ≤ 500 := by rw [← HT.out]; exact hC.good.tn
 have HC := hid hC
 obtain ⟨i0, hi0, hz0, hz1, hz2⟩ := info_parts infoS_stmNode
 have EN := hid (env_start w #[.slice so n sc, .slice tq tn tc] #[.int .i64 o, .int .i64 s, .int .i64 t, .int .i64 v])
 have C := hid (liftTree_ok so tq n sc tn tc ss ts o s t v hC _ (hs.below EN.out.bel) HT.out)
 have hmm := @run_makeMap Tryz.prog
 have hmk := run_make_row' (P := Tryz.prog) 106 114 (.slice none 0 0) 24 Tryz.underlying106 infoS_move rfl .i64 .i64 n (by omega) (by omega)
 obtain ⟨sb, soff, rfl, hsl, hsc⟩ := hs.2 (by omega)
 have HS : Hid (∀ i, i < n → StAt w sb (soff + i * 4) (ss.getD i st0)) := hid hsc
 have HTT := hid ht
 clear hC hs hsc ht
 go_enter Tryz.func99, Tryz.ntmps99
 go_upto_region 3 with (go_at_call 139; refine C.out.mono ?_; rintro e w1 ⟨N, tg, tcap, rfl, hN, hNB, hT, hb1⟩; have B1 := hid (EN.out.below hb1); have HN := hid hN; have HNB := hid hNB; have HTR := hid hT; have z1 : w.heap.size + 1 < w1.heap.size := lt_of_block B1.out.li; have z0 : w.heap.size < w1.heap.size := lt_of_block B1.out.ch; obtain ⟨q0, q1⟩ := two_cells B1.out.ch; clear hN hNB hT hb1)
 obtain ⟨B, hBB⟩ : ∃ B, B = w1.heap.size := ⟨_, rfl⟩
 obtain ⟨W, hW⟩ : ∃ W, W = (((w1.alloc (.cells (madeCells #[.slice none 0 0] n) 114)).alloc (.map #[] 0)).alloc (.cells #[.slice (some ⟨tg, 0, none⟩) n tcap, .slice none 0 0, .slice none 0 0, .slice (some ⟨w1.heap.size, 0, none⟩) n n, .map (some (w1.heap.size + 1))] 109)) := ⟨_, rfl⟩
 have I0 : Hid (L1 w #[.slice (some ⟨sb, soff, none⟩) n sc, .slice tq tn tc] #[.int .i64 o, .int .i64 s, .int .i64 t, .int .i64 v] N tg tcap ss n ⟨o, s, t, v⟩ B (B + 1) (B + 1 + 1) 0 0 [] [] (.slice none 0 0) (.slice none 0 0) (fun _ => .slice none 0 0) W) := hid (by
  have b3 : Below w1.heap.size w1 W := by rw [hW]; exact below3 _ _ _ _
  have h1 : W.heap[B]? = some (.cells (madeCells #[.slice none 0 0] n) 114 (0, 0)) := by
   rw [hW, hBB]
   exact block_below (block_below (heap_alloc_new w1 _) (below1 _ _)) (below1 _ _)
  have h2 : W.heap[B + 1]? = some (.map #[] 0) := by
   rw [hW, hBB]
   have := heap_alloc_new (w1.alloc (.cells (madeCells #[.slice none 0 0] n) 114)) (.map #[] 0)
   rw [World.size_alloc] at this
   exact block_below this (below1 _ _)
  have h3 : W.heap[B + 1 + 1]? = some (.cells #[.slice (some ⟨tg, 0, none⟩) n tcap, .slice none 0 0, .slice none 0 0, .slice (some ⟨B, 0, none⟩) n n, .map (some (B + 1))] 109 (0, 0)) := by
   rw [hW, hBB]
   have := heap_alloc_new ((w1.alloc (.cells (madeCells #[.slice none 0 0] n) 114)).alloc (.map #[] 0)) (.cells #[.slice (some ⟨tg, 0, none⟩) n tcap, .slice none 0 0, .slice none 0 0, .slice (some ⟨w1.heap.size, 0, none⟩) n n, .map (some (w1.heap.size + 1))] 109)
   simpa using this
  refine ⟨⟨by rw [hBB]; exact z1, by omega⟩, ⟨B1.out.bel.trans (b3.mono B1.out.bel.size), block_below B1.out.ch b3, block_below B1.out.li b3, HN.out.below b3, HNB.out.below b3, ownsRow_base (ownsRow_below HTR.out b3) (by simp; omega), h2⟩, ⟨h3, by omega, ?_, ?_, fun b e => by simp [Value.ownBlock] at e⟩, ?_, rfl, rfl, fun i h => absurd h (by omega), fun i h => absurd h (by omega)⟩
  ·exact World.ownsRow_nil W B 118 1
  ·exact World.ownsRow_nil W B 118 1
  ·rw [hW, hBB]; exact ((World.rowIs_made w1 (.slice none 0 0) n 114).of_block ((below1 _ _).block _ (by simp))).of_block ((below1 _ _).block _ (by simp; omega)))
 rw [← hW]
 rw [← hBB]
 obtain ⟨P, hP⟩ : ∃ P, P = B + 1 := ⟨_, rfl⟩
 rw [← hP] at I0 ⊢
 obtain ⟨M, hM⟩ : ∃ M, M = P + 1 := ⟨_, rfl⟩
 rw [← hM] at I0 ⊢
 obtain ⟨c0, c1⟩ := two_cells I0.out.mb.ch
 have LS := hid (fun co cn cc ls w' (hn : cn ≤ 9223372036854775807) (h : StmsOf w' co cn ls) => liftStms_any co cn cc ls o s t v w' hn h)
 clear hW hBB hP hM q0 q1 z0 z1 B1 HN HNB HTR C EN hmk hmm
 go_wp2_with fail
 go_loopg [31] n (fun mm i X => ∃ (k : Nat) (E F : List Value) (ev xv : Value), k ≤ n ∧ mm = n - k ∧ i = .int .i64 k ∧ L1 w #[.slice (some ⟨sb, soff, none⟩) n sc, .slice tq tn tc] #[.int .i64 o, .int .i64 s, .int .i64 t, .int .i64 v] N tg tcap ss n ⟨o, s, t, v⟩ B P M k k E F ev xv (fun _ => .slice none 0 0) X)
 case atStart => exact ⟨0, [], [], _, _, Nat.zero_le _, by omega, rfl, I0.out⟩
 case round =>
  obtain ⟨k, E, F, ev, xv, hk, rfl, rfl, hI⟩ := hrel
  have I := hid hI
  clear c0 c1
  by_cases hlt : k < n
  ·obtain ⟨p1, p2, ⟨co, cn, cc, p3, hcn, hcs⟩, ⟨do_, dn, dc, p4, hdn, hds⟩⟩ := HS.out k hlt
   have p1 := (hI.mb.bel.cell (p := ⟨sb, soff + k * 4, none⟩) hsl).trans p1
   have p2 := (hI.mb.bel.cell (p := ⟨sb, soff + k * 4 + 1, none⟩) hsl).trans p2
   have p3 := (hI.mb.bel.cell (p := ⟨sb, soff + k * 4 + 2, none⟩) hsl).trans p3
   have p4 := (hI.mb.bel.cell (p := ⟨sb, soff + k * 4 + 3, none⟩) hsl).trans p4
   obtain ⟨pv, hpv⟩ : ∃ x, x = (ss.getD k st0).parent := ⟨_, rfl⟩
   obtain ⟨iv, hiv⟩ : ∃ x, x = (ss.getD k st0).initial := ⟨_, rfl⟩
   rw [← hpv] at p1
   rw [← hiv] at p2
   have ki : (k : Int) < (n : Int) := by omega
   have CE := hid (fun X (hb : Below w.heap.size w X) => LS.out co cn cc _ X hcn (hcs.below hb))
   have CF := hid (fun X (hb : Below w.heap.size w X) => LS.out do_ dn dc _ X hdn (hds.below hb))
   obtain ⟨vsE, hvE⟩ := HC.out.ent k (by rw [HL.out]; exact hlt)
   obtain ⟨vsF, hvF⟩ := HC.out.ext k (by rw [HL.out]; exact hlt)
   rw [hvE] at CE
   rw [hvF] at CF
   have NE := hid (lift_nodes hvE)
   have NF := hid (lift_nodes hvF)
   obtain ⟨W1, hW1⟩ : ∃ W1, W1 = wr.alloc (.cells #[.int .i64 pv, .int .i64 iv, .slice co cn cc, .slice do_ dn dc] 65) := ⟨_, rfl⟩
   have J := hid (hI.below (Y := W1) (by rw [hW1]; exact below1 _ _))
   have Q := hid (show W1.heap[wr.heap.size]? = some (.cells #[.int .i64 pv, .int .i64 iv, .slice co cn cc, .slice do_ dn dc] 65 (0, 0)) by rw [hW1]; exact heap_alloc_new _ _)
   clear hI hpv hiv hcs hds hcn hdn hvE hvF
   go_upto_region 6 with fail
   rw [← hW1]
   obtain ⟨H, hH⟩ : ∃ H, H = wr.heap.size := ⟨_, rfl⟩
   rw [← hH] at Q ⊢
   clear hW1 p1 p2 p3 p4 hH
   obtain ⟨e0, e1, e2, e3, e4⟩ := five_cells J.out.mac.box
   obtain ⟨f0, f1, f2, f3⟩ := quad_cells Q.out
   obtain ⟨l0, l1, l2, l3⟩ := quad_cells J.out.mb.li
   have D := hid (J.out.below ((Below.refl _ _).drew))
   have QD : Hid (W1.drew.heap[H]? = some (.cells #[.int .i64 pv, .int .i64 iv, .slice co cn cc, .slice do_ dn dc] 65 (0, 0))) := hid Q.out
   go_cut [] (fun wx => ∃ E' ev', L1 w #[.slice (some ⟨sb, soff, none⟩) n sc, .slice tq tn tc] #[.int .i64 o, .int .i64 s, .int .i64 t, .int .i64 v] N tg tcap ss n ⟨o, s, t, v⟩ B P M (k + 1) k E' F ev' xv (fun _ => .slice none 0 0) wx ∧ wx.heap[H]? = some (.cells #[.int .i64 pv, .int .i64 iv, .slice co cn cc, .slice do_ dn dc] 65 (0, 0)))
   case first =>
    obtain ⟨ea, ec, rfl⟩ := slice_of J.out.mac.e
    have LE : Hid (E.length = k) := hid J.out.le
    have F63 : Hid (E.length + 1 ≤ maxLen ∧ (E.length + 1) * 24 ≤ 140737488355328) := hid (by rw [LE.out]; unfold maxLen; omega)
    clear I J Q
    go_region_law
     (first
      | (refine step_append_lies _ (by rfl) _ _ _ (by rfl) B 118 i0 _ 1 24 Tryz.underlying105 hi0 hz0 hz1 hz2 rfl (by omega) (.slice ea E.length ec) E.length E (by simp [Act.eval]) (D3.out.mac.e) ⟨w2.heap.size, 0, none⟩ 1 1 [.slice ao vsE.length ac] (by simp [Act.eval]) (by simp) NW.out (by intro u hu; simp at hu; subst hu; rfl) (by omega) F63.out.1 F63.out.2 SZ.out (w2.heap.size + 1) (by simp) ?_; intro gg cap' w3 hown1 hgrow hat hlt3; have O3 := hid hown1; have G3 := hid hgrow; have A3 := hid hat; have X3 := hid ((hgrow.block M (lt_of_block D3.out.mac.box) (fun e => own_far D3.out.mac.e (by decide) D3.out.mac.box e.symm)).trans D3.out.mac.box); obtain ⟨r0, r1, r2, r3, r4⟩ := five_cells X3.out; have fr1 := frozen_of_row w3 M 1 _ _ X3.out; clear hown1 hgrow hat)
      | (go_simp; go_wp2_with (go_at_call 66; refine (CE.out _ D.out.mb.bel).mono ?_; rintro e w2 ⟨⟨val, rfl, hown⟩, hb⟩; obtain ⟨ao, ac, rfl⟩ := slice_of hown; have D2 := hid (D.out.below hb); have Q2 := hid (block_below QD.out hb); have V2 := hid (show StmR w2 w.heap.size ⟨o, s, t, v⟩ (.slice ao vsE.length ac) (ss.getD k st0).entry from ⟨vsE, NE.out, ownsRow_base hown (Nat.le_trans D.out.mb.bel.size (Nat.le_succ _))⟩); have BD := hid hb; have D3 := hid (D2.out.below (below1 w2 (.cells #[.slice ao vsE.length ac] 118))); have NW := hid (World.news_of_block (heap_alloc_new w2 (.cells #[.slice ao vsE.length ac] 118))); have SZ : Hid (B ≤ (w2.alloc (.cells #[.slice ao vsE.length ac] 118)).heap.size) := hid (by have := lt_of_block D3.out.mac.box; have := D3.out.mac.hB; omega); obtain ⟨a0, a1, a2, a3, a4⟩ := five_cells D2.out.mac.box; have ml2 : M < w2.heap.size := lt_of_block D2.out.mac.box; clear hown hb)))
    all_goals
     go_wp2_with fail
     go_meet
     have KK := L1.entry D.out (Y := w2.alloc (.cells #[.slice ao vsE.length ac] 118)) (BD.out.trans ((below1 _ _).mono BD.out.size)) (V2.out.turn (S := fun _ => False) (B2 := 0) (Turn.of_below (below1 _ _)) (fun x => x)) G3.out O3.out (by simpa using A3.out)
     exact ⟨_, _, KK.1, KK.2.box QD.out (by simp [S1])⟩
   case rest =>
    obtain ⟨E', ev', hJ, hQ⟩ := hcut
    clear e0 e1 e2 e3 e4 f0 f1 f2 f3 l0 l1 l2 l3 D QD J Q
    obtain ⟨e0, e1, e2, e3, e4⟩ := five_cells hJ.mac.box
    obtain ⟨f0, f1, f2, f3⟩ := quad_cells hQ
    obtain ⟨l0, l1, l2, l3⟩ := quad_cells hJ.mb.li
    have D := hid (hJ.below ((Below.refl _ _).drew))
    have QD := hid (block_below hQ ((Below.refl _ _).drew))
    go_wp2_with fail
    obtain ⟨ea, ec, rfl⟩ := slice_of hJ.mac.x
    have LE : Hid (F.length = k) := hid hJ.lf
    have F63 : Hid (F.length + 1 ≤ maxLen ∧ (F.length + 1) * 24 ≤ 140737488355328) := hid (by rw [LE.out]; unfold maxLen; omega)
    clear I hJ hQ
    go_region_law
     (first
      | (refine step_append_lies _ (by rfl) _ _ _ (by rfl) B 118 i0 _ 1 24 Tryz.underlying105 hi0 hz0 hz1 hz2 rfl (by omega) (.slice ea F.length ec) F.length F (by simp [Act.eval]) (D3.out.mac.x) ⟨w2.heap.size, 0, none⟩ 1 1 [.slice ao vsF.length ac] (by simp [Act.eval]) (by simp) NW.out (by intro u hu; simp at hu; subst hu; rfl) (by omega) F63.out.1 F63.out.2 SZ.out (w2.heap.size + 1) (by simp) ?_; intro gg cap' w3 hown1 hgrow hat hlt3; have O3 := hid hown1; have G3 := hid hgrow; have A3 := hid hat; have X3 := hid ((hgrow.block M (lt_of_block D3.out.mac.box) (fun e => own_far D3.out.mac.x (by decide) D3.out.mac.box e.symm)).trans D3.out.mac.box); obtain ⟨r0, r1, r2, r3, r4⟩ := five_cells X3.out; have fr1 := frozen_of_row w3 M 2 _ _ X3.out; clear hown1 hgrow hat)
      | (go_simp; go_wp2_with (go_at_call 66; refine (CF.out _ D.out.mb.bel).mono ?_; rintro e w2 ⟨⟨val, rfl, hown⟩, hb⟩; obtain ⟨ao, ac, rfl⟩ := slice_of hown; have D2 := hid (D.out.below hb); have Q2 := hid (block_below QD.out hb); have V2 := hid (show StmR w2 w.heap.size ⟨o, s, t, v⟩ (.slice ao vsF.length ac) (ss.getD k st0).exit from ⟨vsF, NF.out, ownsRow_base hown (Nat.le_trans D.out.mb.bel.size (Nat.le_succ _))⟩); have BD := hid hb; have D3 := hid (D2.out.below (below1 w2 (.cells #[.slice ao vsF.length ac] 118))); have NW := hid (World.news_of_block (heap_alloc_new w2 (.cells #[.slice ao vsF.length ac] 118))); have SZ : Hid (B ≤ (w2.alloc (.cells #[.slice ao vsF.length ac] 118)).heap.size) := hid (by have := lt_of_block D3.out.mac.box; have := D3.out.mac.hB; omega); obtain ⟨a0, a1, a2, a3, a4⟩ := five_cells D2.out.mac.box; have ml2 : M < w2.heap.size := lt_of_block D2.out.mac.box; clear hown hb)))
    all_goals
     have KK := L1.exit_ D.out (Y := w2.alloc (.cells #[.slice ao vsF.length ac] 118)) (BD.out.trans ((below1 _ _).mono BD.out.size)) (V2.out.turn (S := fun _ => False) (B2 := 0) (Turn.of_below (below1 _ _)) (fun x => x)) G3.out O3.out (by simpa using A3.out)
     
     go_wp2_with fail
     go_roundg (n - (k + 1))
     case measure => omega
     case rel => exact ⟨k + 1, _, _, _, _, by omega, rfl, by go_num, KK.1⟩
  ·obtain rfl : k = n := by omega
   have I2 := hid (L2.start (ts := ts) hI)
   obtain ⟨c0, c1⟩ := two_cells hI.mb.ch
   clear hI I
   go_wp2_with fail
   go_loopg [65] tn (fun mm i X => ∃ (j : Nat) (L lets act : Nat → Value), j ≤ tn ∧ mm = tn - j ∧ i = .int .i64 j ∧ L2 w #[.slice (some ⟨sb, soff, none⟩) k sc, .slice tq tn tc] #[.int .i64 o, .int .i64 s, .int .i64 t, .int .i64 v] N tg tcap ss ts k ⟨o, s, t, v⟩ B P M j E F ev xv L lets act X)
   case atStart => exact ⟨0, _, _, _, Nat.zero_le _, by omega, rfl, I2.out⟩
   case round =>
    obtain ⟨j, L, lets, act, hj, rfl, rfl, hI⟩ := hrel
    have I := hid hI
    clear c0 c1
    by_cases hlt2 : j < tn
    ·obtain ⟨tb, toff, rfl, htl, htc⟩ := HTT.out.2 (by omega)
     obtain ⟨p1, p2, ⟨co, cn, cc, p3, hcn, hcs⟩, p4, ⟨do_, dn, dc, p5, hdn, hds⟩⟩ := htc j hlt2
     have p1 := (hI.l1.mb.bel.cell (p := ⟨tb, toff + j * 5, none⟩) htl).trans p1
     have p2 := (hI.l1.mb.bel.cell (p := ⟨tb, toff + j * 5 + 1, none⟩) htl).trans p2
     have p3 := (hI.l1.mb.bel.cell (p := ⟨tb, toff + j * 5 + 2, none⟩) htl).trans p3
     have p4 := (hI.l1.mb.bel.cell (p := ⟨tb, toff + j * 5 + 3, none⟩) htl).trans p4
     have p5 := (hI.l1.mb.bel.cell (p := ⟨tb, toff + j * 5 + 4, none⟩) htl).trans p5
     have hjt : j < ts.length := by rw [HT.out]; exact hlt2
     obtain ⟨f, hf⟩ : ∃ f : Nat, (ts.getD j tr0).src = f := ⟨(ts.getD j tr0).src.toNat, by have := (HC.out.src j hjt).1; omega⟩
     have hfn : f < k := by have := (HC.out.src j hjt).2; rw [HL.out, hf] at this; omega
     obtain ⟨gv0, hg0⟩ : ∃ x, x = (ts.getD j tr0).sig := ⟨_, rfl⟩
     obtain ⟨tv0, ht0⟩ : ∃ x, x = (ts.getD j tr0).target := ⟨_, rfl⟩
     rw [hf] at p1
     rw [← hg0] at p2
     rw [← ht0] at p4
     have ji : (j : Int) < (tn : Int) := by omega
     have fi : (f : Int) < (k : Int) := by omega
     have CG := hid (fun X (hb : Below w.heap.size w X) => guardOf_any co cn cc (ts.getD j tr0).guard v X hcn (hcs.below hb) (HC.out.grd j hjt))
     have CA := hid (fun X (hb : Below w.heap.size w X) => LS.out do_ dn dc _ X hdn (hds.below hb))
     obtain ⟨vsA, hvA⟩ := HC.out.act j hjt
     rw [hvA] at CA
     have NA := hid (lift_nodes hvA)
     obtain ⟨W1, hW1⟩ : ∃ W1, W1 = wr.alloc (.cells #[.int .i64 (f : Int), .int .i64 gv0, .slice co cn cc, .int .i64 tv0, .slice do_ dn dc] 60) := ⟨_, rfl⟩
     have J := hid (hI.below (Y := W1) (by rw [hW1]; exact below1 _ _))
     have Q := hid (show W1.heap[wr.heap.size]? = some (.cells #[.int .i64 (f : Int), .int .i64 gv0, .slice co cn cc, .int .i64 tv0, .slice do_ dn dc] 60 (0, 0)) by rw [hW1]; exact heap_alloc_new _ _)
     have HG0 := hid hg0
     have HT0 := hid ht0
     have HF := hid hf
     clear hI hcs hds hcn hdn hvA hg0 ht0 hf htc
     go_upto_region 12 with fail
     rw [← hW1]
     obtain ⟨H, hH⟩ : ∃ H, H = wr.heap.size := ⟨_, rfl⟩
     rw [← hH] at Q ⊢
     clear hW1 p1 p2 p3 p4 p5 hH I
     have TC := tree_cell J.out.l1.mb.tr hfn
     obtain ⟨f0, f1, f2, f3, f4⟩ := five_cells Q.out
     obtain ⟨l0, l1, l2, l3⟩ := quad_cells J.out.l1.mb.li
     have DA := hid (J.out.below ((Below.refl _ _).drew))
     have QA := hid (block_below Q.out ((Below.refl _ _).drew))
     have DB := hid ((J.out.below (below1 _ (.cells #[.int .i64 0, .int .i64 0, .pointer none, .pointer none, .nilFunc, .slice none 0 0] 120))).below ((Below.refl _ _).drew))
     have QB := hid (block_below (block_below Q.out (below1 _ (.cells #[.int .i64 0, .int .i64 0, .pointer none, .pointer none, .nilFunc, .slice none 0 0] 120))) ((Below.refl _ _).drew))
     have SB0 : Hid (∀ X (h1 : L2 w #[.slice (some ⟨sb, soff, none⟩) k sc, .slice (some ⟨tb, toff, none⟩) tn tc] #[.int .i64 o, .int .i64 s, .int .i64 t, .int .i64 v] N tg tcap ss ts k ⟨o, s, t, v⟩ B P M j E F ev xv L lets act X) (h2 : X.heap[H]? = some (.cells #[.int .i64 (f : Int), .int .i64 gv0, .slice co cn cc, .int .i64 tv0, .slice do_ dn dc] 60 (0, 0))),
       X.cell? ⟨H, 0, none⟩ = some (.int .i64 (f : Int)) ∧ X.cell? ⟨H, 1, none⟩ = some (.int .i64 gv0) ∧ X.cell? ⟨H, 2, none⟩ = some (.slice co cn cc) ∧ X.cell? ⟨H, 4, none⟩ = some (.slice do_ dn dc) ∧ X.cell? ⟨tg, f, none⟩ = some (.pointer (some ⟨N f, 0, none⟩)) ∧ X.cell? ⟨w.heap.size + 1, 0, none⟩ = some (.int .i64 o) ∧ X.cell? ⟨w.heap.size + 1, 1, none⟩ = some (.int .i64 s) ∧ X.cell? ⟨w.heap.size + 1, 2, none⟩ = some (.int .i64 t) ∧ X.cell? ⟨w.heap.size + 1, 3, none⟩ = some (.int .i64 v)) :=
      hid fun X h1 h2 => ⟨(five_cells h2).1, (five_cells h2).2.1, (five_cells h2).2.2.1, (five_cells h2).2.2.2.2, tree_cell h1.l1.mb.tr hfn, (quad_cells h1.l1.mb.li)⟩
     have SA := hid (SB0.out _ DA.out QA.out)
     have SB := hid (SB0.out _ DB.out QB.out)
     go_cut [13] (fun c wx => ∃ b gv av, c = .pointer (some ⟨b, 0, none⟩) ∧ Bt w W1 H b #[.int .i64 (f : Int), .int .i64 gv0, .slice co cn cc, .int .i64 tv0, .slice do_ dn dc] #[.int .i64 (j : Int), .int .i64 gv0, .pointer (some ⟨N f, 0, none⟩), .pointer none, gv, av] ⟨o, s, t, v⟩ (ts.getD j tr0).guard (ts.getD j tr0).action gv av wx)
     case first =>
      clear f0 f1 f2 f3 f4 l0 l1 l2 l3 TC
      go_region_held3 (fun w' => w'.cell? ⟨H, 0, none⟩ = some (.int .i64 (f : Int)) ∧ w'.cell? ⟨H, 1, none⟩ = some (.int .i64 gv0) ∧ w'.cell? ⟨H, 2, none⟩ = some (.slice co cn cc) ∧ w'.cell? ⟨H, 4, none⟩ = some (.slice do_ dn dc) ∧ w'.cell? ⟨tg, f, none⟩ = some (.pointer (some ⟨N f, 0, none⟩)) ∧ w'.cell? ⟨w.heap.size + 1, 0, none⟩ = some (.int .i64 o) ∧ w'.cell? ⟨w.heap.size + 1, 1, none⟩ = some (.int .i64 s) ∧ w'.cell? ⟨w.heap.size + 1, 2, none⟩ = some (.int .i64 t) ∧ w'.cell? ⟨w.heap.size + 1, 3, none⟩ = some (.int .i64 v))
       (first | (with_reducible exact S3.out) | (with_reducible exact SB0.out (w3.alloc _) (D3.out.below (below1 _ _)) (block_below Q3.out (below1 _ _))) | (with_reducible exact S3b.out _ _ _ _ _ _) | (with_reducible exact S2b.out) | (with_reducible exact S2a.out) | (with_reducible exact SB.out) | (with_reducible exact SA.out) | go_keep)
       (first
        | (go_at_call 142; with_reducible refine (CG.out _ DA.out.l1.mb.bel).mono ?_; rintro e w2 ⟨gv, rfl, hga, hb⟩; obtain ⟨fn, cp, rfl⟩ := hga.form; have D2 := hid (DA.out.below hb); have Q2 := hid (block_below QA.out hb); have G2 := hid (show GuardAt w2 w.heap.size (LimD.v ⟨o, s, t, v⟩) (ts.getD j tr0).guard (.func fn #[] cp) from hga.base DA.out.l1.mb.bel.size); have BW2 := hid (undrewH hb); have LE2 := hid BW2.out.size; have S2a := hid (SB0.out _ D2.out Q2.out); have S2b := hid (SB0.out _ (D2.out.below (below1 _ (.cells #[.int .i64 0, .int .i64 0, .pointer none, .pointer none, .nilFunc, .slice none 0 0] 120))) (block_below Q2.out (below1 _ (.cells #[.int .i64 0, .int .i64 0, .pointer none, .pointer none, .nilFunc, .slice none 0 0] 120)))); clear hga hb)
        | (go_at_call 142; with_reducible refine (CG.out _ DB.out.l1.mb.bel).mono ?_; rintro e w2 ⟨gv, rfl, hga, hb⟩; obtain ⟨fn, cp, rfl⟩ := hga.form; have D2 := hid (DB.out.below hb); have Q2 := hid (block_below QB.out hb); have X2 := hid (block_below (block_below (heap_alloc_new W1 (.cells #[.int .i64 0, .int .i64 0, .pointer none, .pointer none, .nilFunc, .slice none 0 0] 120)) ((Below.refl _ _).drew)) hb); have G2 := hid (show GuardAt w2 w.heap.size (LimD.v ⟨o, s, t, v⟩) (ts.getD j tr0).guard (.func fn #[] cp) from hga.base DB.out.l1.mb.bel.size); have BW2 := hid ((below1 W1 (.cells #[.int .i64 0, .int .i64 0, .pointer none, .pointer none, .nilFunc, .slice none 0 0] 120)).trans ((undrew hb).mono (by simp))); have LE2 := hid BW2.out.size; have S2a := hid (SB0.out _ D2.out Q2.out); clear hga hb)
        | (go_at_call 66; refine Calls.mono (CA.out (w2.alloc _) (D2.out.below (below1 _ _)).l1.mb.bel) ?_; unfold StmsEnd; rintro e w3 ⟨⟨val, rfl, hown⟩, hb⟩; obtain ⟨ao, ac, rfl⟩ := slice_of hown; have D3 := hid ((D2.out.below (below1 _ _)).below hb); have Q3 := hid (block_below (block_below Q2.out (below1 _ _)) hb); have X3 := hid (block_below (heap_alloc_new w2 (.cells #[.int .i64 0, .int .i64 0, .pointer none, .pointer none, .nilFunc, .slice none 0 0] 120)) hb); obtain ⟨z0, z1, z2, z3, z4, z5⟩ := six_cells X3.out; have fz := six_fr X3.out; have G3 := hid ((G2.out.below (below1 _ _)).below hb); have BW3 := hid (BW2.out.trans (((below1 _ _).trans (hb.mono (by simp))).mono BW2.out.size)); have S3b := hid (fun a b c d e f => SB0.out (set6 w3 w2.heap.size a b c d e f) (J.out.below (bel6 BW3.out LE2.out)) (block_below Q.out (bel6 BW3.out LE2.out))); have A3 := hid (show StmR w3 w.heap.size ⟨o, s, t, v⟩ (.slice ao vsA.length ac) (ts.getD j tr0).action from ⟨vsA, NA.out, ownsRow_base hown (by have := D2.out.l1.mb.bel.size; first | (simp only [World.size_alloc]; omega) | omega)⟩); have S3 := hid (SB0.out _ D3.out Q3.out); clear hown hb)
        | (go_at_call 66; refine Calls.mono (CA.out w2 D2.out.l1.mb.bel) ?_; unfold StmsEnd; rintro e w3 ⟨⟨val, rfl, hown⟩, hb⟩; obtain ⟨ao, ac, rfl⟩ := slice_of hown; have D3 := hid (D2.out.below hb); have Q3 := hid (block_below Q2.out hb); have X3 := hid (block_below X2.out hb); obtain ⟨z0, z1, z2, z3, z4, z5⟩ := six_cells X3.out; have fz := six_fr X3.out; have G3 := hid (G2.out.below hb); have BW3 := hid (BW2.out.trans (hb.mono BW2.out.size)); have S3b := hid (fun a b c d e f => SB0.out (set6 w3 W1.heap.size a b c d e f) (J.out.below (bel6 BW3.out (Nat.le_refl _))) (block_below Q.out (bel6 BW3.out (Nat.le_refl _)))); have B23 := hid hb; have A3 := hid (show StmR w3 w.heap.size ⟨o, s, t, v⟩ (.slice ao vsA.length ac) (ts.getD j tr0).action from ⟨vsA, NA.out, ownsRow_base hown (by have := D2.out.l1.mb.bel.size; first | (simp only [World.size_alloc]; omega) | omega)⟩); have S3 := hid (SB0.out _ D3.out Q3.out); clear hown hb)
        | (go_at_call 66; refine Calls.mono (CA.out w2 D2.out.l1.mb.bel) ?_; unfold StmsEnd; rintro e w3 ⟨⟨val, rfl, hown⟩, hb⟩; obtain ⟨ao, ac, rfl⟩ := slice_of hown; have D3 := hid (D2.out.below hb); have Q3 := hid (block_below Q2.out hb); have G3 := hid (G2.out.below hb); have BW3 := hid (BW2.out.trans (hb.mono BW2.out.size)); have B23 := hid hb; have A3 := hid (show StmR w3 w.heap.size ⟨o, s, t, v⟩ (.slice ao vsA.length ac) (ts.getD j tr0).action from ⟨vsA, NA.out, ownsRow_base hown (by have := D2.out.l1.mb.bel.size; first | (simp only [World.size_alloc]; omega) | omega)⟩); have S3 := hid (SB0.out _ D3.out Q3.out); clear hown hb))
      all_goals
       go_wp2_with fail
       go_meet
       first
        | (refine ⟨w3.heap.size, .func fn #[] cp, .slice ao vsA.length ac, by with_reducible rfl, ?_⟩; with_reducible exact bt_new BW3.out Q3.out G3.out A3.out)
        | (refine ⟨w2.heap.size, .func fn #[] cp, .slice ao vsA.length ac, by with_reducible rfl, ?_⟩; with_reducible exact bt_set BW3.out LE2.out Q3.out X3.out G3.out A3.out)
        | (refine ⟨W1.heap.size, .func fn #[] cp, .slice ao vsA.length ac, by with_reducible rfl, ?_⟩; with_reducible exact bt_set BW3.out (Nat.le_refl _) Q3.out X3.out G3.out A3.out)
     case rest =>
      obtain ⟨b, gv, av, rfl, hT⟩ := hcut
      obtain ⟨fn, cp, rfl⟩ := hT.g.form
      obtain ⟨ao, ac, vsn, rfl⟩ : ∃ ao ac vsn, av = .slice ao vsn ac := by obtain ⟨vs, _, h2⟩ := hT.a; obtain ⟨ao, ac, h3⟩ := slice_of h2; exact ⟨ao, ac, _, h3⟩
      have T := hid hT
      have J2 := hid (J.out.below hT.bel)
      have J4 := J
      obtain ⟨f0', f1', f2', f3', f4'⟩ := five_cells hT.q
      obtain ⟨m0, m1, m2, m3, m4, m5⟩ := six_cells hT.m
      have mf := six_fr hT.m
      clear hT f0 f1 f2 f3 f4 l0 l1 l2 l3 TC SA SB DA DB QA QB J Q
      have TV : Hid (tgtV N tv0 = if tv0 = -1 then .pointer none else .pointer (some ⟨N tv0.toNat, 0, none⟩)) := hid rfl
      by_cases htg : tv0 = -1
      ·subst htg
       go_upto_region 15 with fail
       obtain ⟨tp, htg0⟩ : ∃ x, Value.pointer x = tgtV N (-1) := ⟨none, rfl⟩
       have T2 := T
       rw [show (Value.pointer none) = .pointer tp from by rw [htg0]; rfl] at T2
       have J3 := hid (J4.out.below T2.out.bel)
       obtain ⟨Y, hY⟩ : ∃ Y, Y = wc := ⟨_, rfl⟩
       rw [← hY] at T2 J3 ⊢
       have HTG := hid htg0
       clear hY htg0 T J2 f0' f1' f2' f3' f4' m0 m1 m2 m3 m4 m5 mf
       obtain ⟨la, lc, hL⟩ := slice_of (J3.out.lv f hfn)
       have OL := hid (J3.out.lv f hfn)
       have RB := (J3.out.l1.row).cell hfn
       rw [hL] at RB OL
       obtain ⟨e0, e1, e2, e3, e4⟩ := five_cells J3.out.l1.mac.box
       obtain ⟨f0, f1, f2, f3, f4⟩ := five_cells T2.out.q
       obtain ⟨m0, m1, m2, m3, m4, m5⟩ := six_cells T2.out.m
       have HS : Hid (Y.drew.cell? ⟨M, 3, none⟩ = some (.slice (some ⟨B, 0, none⟩) k k) ∧ Y.drew.cell? ⟨H, 0, none⟩ = some (.int .i64 (f : Int)) ∧ Y.drew.cell? ⟨B, f, none⟩ = some (.slice la (outs ts f j).length lc) ∧ Y.drew.cell? ⟨b, 0, none⟩ = some (.int .i64 (j : Int)) ∧ Y.drew.cell? ⟨b, 1, none⟩ = some (.int .i64 gv0) ∧ Y.drew.cell? ⟨b, 2, none⟩ = some (.pointer (some ⟨N f, 0, none⟩)) ∧ Y.drew.cell? ⟨b, 3, none⟩ = some (.pointer tp) ∧ Y.drew.cell? ⟨b, 4, none⟩ = some (.func fn #[] cp) ∧ Y.drew.cell? ⟨b, 5, none⟩ = some (.slice ao vsn ac)) := hid ⟨e3, f0, RB, m0, m1, m2, m3, m4, m5⟩
       refine wp_region_noPanic ?_
       refine wp_region_till (st := 18) (S := fun u => u.cell? ⟨M, 3, none⟩ = some (.slice (some ⟨B, 0, none⟩) k k) ∧ u.cell? ⟨H, 0, none⟩ = some (.int .i64 (f : Int)) ∧ u.cell? ⟨B, f, none⟩ = some (.slice la (outs ts f j).length lc) ∧ u.cell? ⟨b, 0, none⟩ = some (.int .i64 (j : Int)) ∧ u.cell? ⟨b, 1, none⟩ = some (.int .i64 gv0) ∧ u.cell? ⟨b, 2, none⟩ = some (.pointer (some ⟨N f, 0, none⟩)) ∧ u.cell? ⟨b, 3, none⟩ = some (.pointer tp) ∧ u.cell? ⟨b, 4, none⟩ = some (.func fn #[] cp) ∧ u.cell? ⟨b, 5, none⟩ = some (.slice ao vsn ac)) (by kernel_rfl) ?_
       refine wpTill_take (i := 0) (d := some 97) (v := ?_) rfl rfl (by kernel_rfl) (by kernel_rfl) (by kernel_rfl) (by kernel_rfl) (by kernel_rfl) (fun _ _ _ h => h) (Or.inl ⟨by rfl, ?_⟩) HS.out ?_
       case refine_2 => (intro u hu; obtain ⟨s0, s1, s2, s3, s4, s5, s6, s7, s8⟩ := hu; go_simp; first | done | with_reducible rfl)
       simp only [Act.put, List.setIfInBounds_toArray, List.set_cons_zero, List.set_cons_succ]
       refine wpTill_take (i := 1) (d := some 98) (v := ?_) rfl rfl (by kernel_rfl) (by kernel_rfl) (by kernel_rfl) (by kernel_rfl) (by kernel_rfl) (fun _ _ _ h => h) (Or.inl ⟨by rfl, ?_⟩) HS.out ?_
       case refine_2 => (intro u hu; obtain ⟨s0, s1, s2, s3, s4, s5, s6, s7, s8⟩ := hu; go_simp; first | done | with_reducible rfl)
       simp only [Act.put, List.setIfInBounds_toArray, List.set_cons_zero, List.set_cons_succ]
       refine wpTill_take (i := 2) (d := some 99) (v := ?_) rfl rfl (by kernel_rfl) (by kernel_rfl) (by kernel_rfl) (by kernel_rfl) (by kernel_rfl) (fun _ _ _ h => h) (Or.inl ⟨by rfl, ?_⟩) HS.out ?_
       case refine_2 => (intro u hu; obtain ⟨s0, s1, s2, s3, s4, s5, s6, s7, s8⟩ := hu; go_simp; first | done | with_reducible rfl)
       simp only [Act.put, List.setIfInBounds_toArray, List.set_cons_zero, List.set_cons_succ]
       refine wpTill_take (i := 3) (d := some 100) (v := ?_) rfl rfl (by kernel_rfl) (by kernel_rfl) (by kernel_rfl) (by kernel_rfl) (by kernel_rfl) (fun _ _ _ h => h) (Or.inl ⟨by rfl, ?_⟩) HS.out ?_
       case refine_2 => (intro u hu; obtain ⟨s0, s1, s2, s3, s4, s5, s6, s7, s8⟩ := hu; go_simp; first | done | with_reducible rfl)
       simp only [Act.put, List.setIfInBounds_toArray, List.set_cons_zero, List.set_cons_succ]
       refine wpTill_take (i := 4) (d := some 101) (v := ?_) rfl rfl (by kernel_rfl) (by kernel_rfl) (by kernel_rfl) (by kernel_rfl) (by kernel_rfl) (fun _ _ _ h => h) (Or.inl ⟨by rfl, ?_⟩) HS.out ?_
       case refine_2 => (intro u hu; obtain ⟨s0, s1, s2, s3, s4, s5, s6, s7, s8⟩ := hu; go_simp; first | done | with_reducible rfl)
       simp only [Act.put, List.setIfInBounds_toArray, List.set_cons_zero, List.set_cons_succ]
       refine wpTill_take (i := 5) (d := some 102) (v := ?_) rfl rfl (by kernel_rfl) (by kernel_rfl) (by kernel_rfl) (by kernel_rfl) (by kernel_rfl) (fun _ _ _ h => h) (Or.inl ⟨by rfl, ?_⟩) HS.out ?_
       case refine_2 => (intro u hu; obtain ⟨s0, s1, s2, s3, s4, s5, s6, s7, s8⟩ := hu; go_simp; first | done | with_reducible rfl)
       simp only [Act.put, List.setIfInBounds_toArray, List.set_cons_zero, List.set_cons_succ]
       refine wpTill_take (i := 6) (d := some 103) (v := ?_) rfl rfl (by kernel_rfl) (by kernel_rfl) (by kernel_rfl) (by kernel_rfl) (by kernel_rfl) (fun _ _ _ h => h) (Or.inl ⟨by rfl, ?_⟩) HS.out ?_
       case refine_2 => (intro u hu; obtain ⟨s0, s1, s2, s3, s4, s5, s6, s7, s8⟩ := hu; go_simp; first | done | with_reducible rfl)
       simp only [Act.put, List.setIfInBounds_toArray, List.set_cons_zero, List.set_cons_succ]
       refine wpTill_take (i := 7) (d := some 104) (v := ?_) rfl rfl (by kernel_rfl) (by kernel_rfl) (by kernel_rfl) (by kernel_rfl) (by kernel_rfl) (fun _ _ _ h => h) (Or.inl ⟨by rfl, ?_⟩) HS.out ?_
       case refine_2 => (intro u hu; obtain ⟨s0, s1, s2, s3, s4, s5, s6, s7, s8⟩ := hu; go_simp; first | done | with_reducible rfl)
       simp only [Act.put, List.setIfInBounds_toArray, List.set_cons_zero, List.set_cons_succ]
       refine wpTill_take (i := 8) (d := some 105) (v := ?_) rfl rfl (by kernel_rfl) (by kernel_rfl) (by kernel_rfl) (by kernel_rfl) (by kernel_rfl) (fun _ _ _ h => h) (Or.inl ⟨by rfl, ?_⟩) HS.out ?_
       case refine_2 => (intro u hu; obtain ⟨s0, s1, s2, s3, s4, s5, s6, s7, s8⟩ := hu; go_simp; first | done | with_reducible rfl)
       simp only [Act.put, List.setIfInBounds_toArray, List.set_cons_zero, List.set_cons_succ]
       refine wpTill_take (i := 9) (d := some 106) (v := ?_) rfl rfl (by kernel_rfl) (by kernel_rfl) (by kernel_rfl) (by kernel_rfl) (by kernel_rfl) (fun _ _ _ h => h) (Or.inl ⟨by rfl, ?_⟩) HS.out ?_
       case refine_2 => (intro u hu; obtain ⟨s0, s1, s2, s3, s4, s5, s6, s7, s8⟩ := hu; go_simp; first | done | with_reducible rfl)
       simp only [Act.put, List.setIfInBounds_toArray, List.set_cons_zero, List.set_cons_succ]
       refine wpTill_take (i := 10) (d := some 107) (v := ?_) rfl rfl (by kernel_rfl) (by kernel_rfl) (by kernel_rfl) (by kernel_rfl) (by kernel_rfl) (fun _ _ _ h => h) (Or.inl ⟨by rfl, ?_⟩) HS.out ?_
       case refine_2 => (intro u hu; obtain ⟨s0, s1, s2, s3, s4, s5, s6, s7, s8⟩ := hu; go_simp; first | done | with_reducible rfl)
       simp only [Act.put, List.setIfInBounds_toArray, List.set_cons_zero, List.set_cons_succ]
       refine wpTill_take (i := 11) (d := some 108) (v := ?_) rfl rfl (by kernel_rfl) (by kernel_rfl) (by kernel_rfl) (by kernel_rfl) (by kernel_rfl) (fun _ _ _ h => h) (Or.inl ⟨by rfl, ?_⟩) HS.out ?_
       case refine_2 => (intro u hu; obtain ⟨s0, s1, s2, s3, s4, s5, s6, s7, s8⟩ := hu; go_simp; first | done | with_reducible rfl)
       simp only [Act.put, List.setIfInBounds_toArray, List.set_cons_zero, List.set_cons_succ]
       refine wpTill_take (i := 12) (d := some 109) (v := ?_) rfl rfl (by kernel_rfl) (by kernel_rfl) (by kernel_rfl) (by kernel_rfl) (by kernel_rfl) (fun _ _ _ h => h) (Or.inl ⟨by rfl, ?_⟩) HS.out ?_
       case refine_2 => (intro u hu; obtain ⟨s0, s1, s2, s3, s4, s5, s6, s7, s8⟩ := hu; go_simp; first | done | with_reducible rfl)
       simp only [Act.put, List.setIfInBounds_toArray, List.set_cons_zero, List.set_cons_succ]
       refine wpTill_take (i := 13) (d := some 110) (v := ?_) rfl rfl (by kernel_rfl) (by kernel_rfl) (by kernel_rfl) (by kernel_rfl) (by kernel_rfl) (fun _ _ _ h => h) (Or.inl ⟨by rfl, ?_⟩) HS.out ?_
       case refine_2 => (intro u hu; obtain ⟨s0, s1, s2, s3, s4, s5, s6, s7, s8⟩ := hu; go_simp; first | done | with_reducible rfl)
       simp only [Act.put, List.setIfInBounds_toArray, List.set_cons_zero, List.set_cons_succ]
       refine wpTill_take (i := 14) (d := some 111) (v := ?_) rfl rfl (by kernel_rfl) (by kernel_rfl) (by kernel_rfl) (by kernel_rfl) (by kernel_rfl) (fun _ _ _ h => h) (Or.inl ⟨by rfl, ?_⟩) HS.out ?_
       case refine_2 => (intro u hu; obtain ⟨s0, s1, s2, s3, s4, s5, s6, s7, s8⟩ := hu; go_simp; first | done | with_reducible rfl)
       simp only [Act.put, List.setIfInBounds_toArray, List.set_cons_zero, List.set_cons_succ]
       obtain ⟨U, hU⟩ : ∃ U, U = (Y.alloc (.cells #[.int .i64 (j : Int), .int .i64 gv0, .pointer (some ⟨N f, 0, none⟩), .pointer tp, .func fn #[] cp, .slice ao vsn ac] 120)).drew := ⟨_, rfl⟩
       have BU : Hid (Below Y.heap.size Y U) := hid (by rw [hU]; exact (below1 _ _).drew)
       have SU0 : Hid (U.heap.size = Y.heap.size + 1) := hid (by rw [hU]; simp)
       have NU : Hid (U.heap[Y.heap.size]? = some (.cells #[.int .i64 (j : Int), .int .i64 gv0, .pointer (some ⟨N f, 0, none⟩), .pointer tp, .func fn #[] cp, .slice ao vsn ac] 120 (0, 0))) := hid (by rw [hU]; exact heap_alloc_new Y _)
       have KS : Hid (∀ u : World, (∀ q o, q = M ∨ q = H ∨ q = B ∨ q = b → u.cell? ⟨q, o, none⟩ = Y.cell? ⟨q, o, none⟩) → u.cell? ⟨M, 3, none⟩ = some (.slice (some ⟨B, 0, none⟩) k k) ∧ u.cell? ⟨H, 0, none⟩ = some (.int .i64 (f : Int)) ∧ u.cell? ⟨B, f, none⟩ = some (.slice la (outs ts f j).length lc) ∧ u.cell? ⟨b, 0, none⟩ = some (.int .i64 (j : Int)) ∧ u.cell? ⟨b, 1, none⟩ = some (.int .i64 gv0) ∧ u.cell? ⟨b, 2, none⟩ = some (.pointer (some ⟨N f, 0, none⟩)) ∧ u.cell? ⟨b, 3, none⟩ = some (.pointer tp) ∧ u.cell? ⟨b, 4, none⟩ = some (.func fn #[] cp) ∧ u.cell? ⟨b, 5, none⟩ = some (.slice ao vsn ac)) := hid (fun u h => ⟨(h M 3 (.inl rfl)).trans e3, (h H 0 (.inr (.inl rfl))).trans f0, (h B f (.inr (.inr (.inl rfl)))).trans RB, (h b 0 (.inr (.inr (.inr rfl)))).trans m0, (h b 1 (.inr (.inr (.inr rfl)))).trans m1, (h b 2 (.inr (.inr (.inr rfl)))).trans m2, (h b 3 (.inr (.inr (.inr rfl)))).trans m3, (h b 4 (.inr (.inr (.inr rfl)))).trans m4, (h b 5 (.inr (.inr (.inr rfl)))).trans m5⟩)
       have LQ : Hid (∀ q, q = M ∨ q = H ∨ q = B ∨ q = b → q < Y.heap.size ∧ (Value.slice la (outs ts f j).length lc).ownBlock ≠ some q) := hid (by
        rintro q (rfl | rfl | rfl | rfl)
        ·exact ⟨lt_of_block J3.out.l1.mac.box, own_far OL.out (by decide) J3.out.l1.mac.box⟩
        ·exact ⟨lt_of_block T2.out.q, own_far OL.out (by decide) T2.out.q⟩
        ·obtain ⟨rc, rb, _, _⟩ := J3.out.l1.row
         exact ⟨lt_of_block rb, own_far OL.out (by decide) rb⟩
        ·refine ⟨lt_of_block T2.out.m, fun e => ?_⟩
         have h1 := ((J4.out.lv f hfn).lt q (by rw [hL]; exact e)).2
         have h2 := T2.out.bl
         omega)
       have KU := hid (KS.out U (fun q o h => BU.out.cell (p := ⟨q, o, none⟩) (LQ.out q h).1))
       have OU := hid (ownsRow_below OL.out BU.out)
       have NWU := hid (World.news_of_block NU.out)
       have BS : Hid (B ≤ U.heap.size) := hid (by have h1 := (LQ.out B (.inr (.inr (.inl rfl)))).1; have h2 := SU0.out; omega)
       have F63 : Hid ((outs ts f j).length + 1 ≤ maxLen ∧ ((outs ts f j).length + 1) * 64 ≤ 140737488355328) := hid (by have := outs_len ts f j; unfold maxLen; omega)
       obtain ⟨i1, hi1, hy0, hy1, hy2⟩ := info_parts infoMove
       refine wpTill_step (i := 15) (by kernel_rfl) rfl (fun K hK => ?_)
       go_simp
       rw [← hU]
       refine hK _ _ KU.out ?_
       clear hU hK K
       refine wpTill_step (i := 16) (by kernel_rfl) rfl (fun K hK => ?_)
       refine step_append_lies _ (by rfl) _ _ _ (by rfl) B 120 i1 _ 6 64 Tryz.underlying114 hi1 hy0 hy1 hy2 rfl (by omega) (.slice la (outs ts f j).length lc) (outs ts f j).length (mvs N ts lets act (outs ts f j)) (by simp [Act.eval]) OU.out ⟨Y.heap.size, 0, none⟩ 1 1 [.int .i64 (j : Int), .int .i64 gv0, .pointer (some ⟨N f, 0, none⟩), .pointer tp, .func fn #[] cp, .slice ao vsn ac] (by simp [Act.eval]) (by simp) NWU.out (by intro u hu; simp at hu; rcases hu with rfl | rfl | rfl | rfl | rfl | rfl <;> rfl) (by omega) F63.out.1 F63.out.2 BS.out U.heap.size rfl ?_
       intro gg cap' w2 hown hgrow hat hlt3
       have K2 := hid (KS.out w2 (fun q o h => (hgrow.cell_far ⟨q, o, none⟩ (by have h1 := (LQ.out q h).1; have h2 := SU0.out; show q < U.heap.size; omega) (fun e => (LQ.out q h).2 e.symm)).trans (BU.out.cell (p := ⟨q, o, none⟩) (LQ.out q h).1)))
       refine hK _ _ K2.out ?_
       clear hK K
       refine wpTill_take (i := 17) (d := some 114) (v := ?_) rfl rfl (by kernel_rfl) (by kernel_rfl) (by kernel_rfl) (by kernel_rfl) (by kernel_rfl) (fun _ _ _ h => h) (Or.inl ⟨by rfl, ?_⟩) K2.out ?_
       case refine_2 => (intro u hu; obtain ⟨s0, s1, s2, s3, s4, s5, s6, s7, s8⟩ := hu; go_simp; first | done | with_reducible rfl)
       simp only [Act.put, List.setIfInBounds_toArray]
       have rB : w2.cell? ⟨B, f, none⟩ = some (.slice la (outs ts f j).length lc) := K2.out.2.2.1
       have fB : w2.frozen? ⟨B, f, none⟩ = false := by
        obtain ⟨rc, rb, _, _⟩ := (J3.out.below BU.out).l1.row
        have hq := LQ.out B (.inr (.inr (.inl rfl)))
        exact frozen_of_row w2 B f _ _ ((hgrow.block B (by have h2 := SU0.out; have := hq.1; omega) (fun e => hq.2 e.symm)).trans rb)
       refine wpTill_last (by kernel_rfl) rfl (by kernel_rfl) (fun K hK => ?_)
       go_simp
       refine hK _ _ ?_
       clear hK K
       refine wpTill_done (by kernel_rfl) ?_ _
       refine NoPanic.normal ?_
       have AD : Hid (L2 w #[.slice (some ⟨sb, soff, none⟩) k sc, .slice (some ⟨tb, toff, none⟩) tn tc] #[.int .i64 o, .int .i64 s, .int .i64 t, .int .i64 v] N tg tcap ss ts k ⟨o, s, t, v⟩ B P M (j + 1) E F ev xv _ _ _ _) := hid (L2.add (g := gg) (cap := cap') J3.out BU.out hfn HF.out (T2.out.g.below BU.out) (T2.out.a.below BU.out) (by rw [hL]; exact hgrow) (by rw [← HG0.out, ← HT0.out, ← HTG.out]; exact hown) (by rw [hL]; exact hat))
       clear rB fB hown hgrow hat K2 KU OU NWU
       go_wp2_with fail
       go_roundg (tn - (j + 1))
       case measure => omega
       case rel => exact ⟨j + 1, _, _, _, by omega, rfl, by go_num, AD.out⟩
      ·obtain ⟨tt, rfl⟩ : ∃ tt : Nat, tv0 = tt := ⟨tv0.toNat, by have := (HC.out.tgt j hjt).1; rw [← HT0.out] at this; omega⟩
       have ttn : tt < k := by have := (HC.out.tgt j hjt).2; rw [← HT0.out, HL.out] at this; omega
       have TC := tree_cell J2.out.l1.mb.tr ttn
       have tti : (tt : Int) < (k : Int) := by omega
       have nb : ((tt : Int) != -1) = true := by simp
       go_upto_region 15 with fail
       obtain ⟨tp, htg0⟩ : ∃ x, Value.pointer x = tgtV N (tt : Int) := ⟨some ⟨N tt, 0, none⟩, by unfold tgtV; rw [if_neg htg]; rfl⟩
       have T2 := hid (bt_put (d' := .pointer tp) T.out)
       rw [show (Value.pointer (some ⟨N tt, 0, none⟩)) = .pointer tp from by rw [htg0]; unfold tgtV; rw [if_neg htg]; rfl]
       have J3 := hid (J4.out.below T2.out.bel)
       obtain ⟨Y, hY⟩ : ∃ Y, Y = wc.setCell ⟨b, 3, none⟩ (.pointer tp) := ⟨_, rfl⟩
       rw [← hY] at T2 J3 ⊢
       have HTG := hid htg0
       clear hY htg0 TC T J2 f0' f1' f2' f3' f4' m0 m1 m2 m3 m4 m5 mf
       obtain ⟨la, lc, hL⟩ := slice_of (J3.out.lv f hfn)
       have OL := hid (J3.out.lv f hfn)
       have RB := (J3.out.l1.row).cell hfn
       rw [hL] at RB OL
       obtain ⟨e0, e1, e2, e3, e4⟩ := five_cells J3.out.l1.mac.box
       obtain ⟨f0, f1, f2, f3, f4⟩ := five_cells T2.out.q
       obtain ⟨m0, m1, m2, m3, m4, m5⟩ := six_cells T2.out.m
       have HS : Hid (Y.drew.cell? ⟨M, 3, none⟩ = some (.slice (some ⟨B, 0, none⟩) k k) ∧ Y.drew.cell? ⟨H, 0, none⟩ = some (.int .i64 (f : Int)) ∧ Y.drew.cell? ⟨B, f, none⟩ = some (.slice la (outs ts f j).length lc) ∧ Y.drew.cell? ⟨b, 0, none⟩ = some (.int .i64 (j : Int)) ∧ Y.drew.cell? ⟨b, 1, none⟩ = some (.int .i64 gv0) ∧ Y.drew.cell? ⟨b, 2, none⟩ = some (.pointer (some ⟨N f, 0, none⟩)) ∧ Y.drew.cell? ⟨b, 3, none⟩ = some (.pointer tp) ∧ Y.drew.cell? ⟨b, 4, none⟩ = some (.func fn #[] cp) ∧ Y.drew.cell? ⟨b, 5, none⟩ = some (.slice ao vsn ac)) := hid ⟨e3, f0, RB, m0, m1, m2, m3, m4, m5⟩
       refine wp_region_noPanic ?_
       refine wp_region_till (st := 18) (S := fun u => u.cell? ⟨M, 3, none⟩ = some (.slice (some ⟨B, 0, none⟩) k k) ∧ u.cell? ⟨H, 0, none⟩ = some (.int .i64 (f : Int)) ∧ u.cell? ⟨B, f, none⟩ = some (.slice la (outs ts f j).length lc) ∧ u.cell? ⟨b, 0, none⟩ = some (.int .i64 (j : Int)) ∧ u.cell? ⟨b, 1, none⟩ = some (.int .i64 gv0) ∧ u.cell? ⟨b, 2, none⟩ = some (.pointer (some ⟨N f, 0, none⟩)) ∧ u.cell? ⟨b, 3, none⟩ = some (.pointer tp) ∧ u.cell? ⟨b, 4, none⟩ = some (.func fn #[] cp) ∧ u.cell? ⟨b, 5, none⟩ = some (.slice ao vsn ac)) (by kernel_rfl) ?_
       refine wpTill_take (i := 0) (d := some 97) (v := ?_) rfl rfl (by kernel_rfl) (by kernel_rfl) (by kernel_rfl) (by kernel_rfl) (by kernel_rfl) (fun _ _ _ h => h) (Or.inl ⟨by rfl, ?_⟩) HS.out ?_
       case refine_2 => (intro u hu; obtain ⟨s0, s1, s2, s3, s4, s5, s6, s7, s8⟩ := hu; go_simp; first | done | with_reducible rfl)
       simp only [Act.put, List.setIfInBounds_toArray, List.set_cons_zero, List.set_cons_succ]
       refine wpTill_take (i := 1) (d := some 98) (v := ?_) rfl rfl (by kernel_rfl) (by kernel_rfl) (by kernel_rfl) (by kernel_rfl) (by kernel_rfl) (fun _ _ _ h => h) (Or.inl ⟨by rfl, ?_⟩) HS.out ?_
       case refine_2 => (intro u hu; obtain ⟨s0, s1, s2, s3, s4, s5, s6, s7, s8⟩ := hu; go_simp; first | done | with_reducible rfl)
       simp only [Act.put, List.setIfInBounds_toArray, List.set_cons_zero, List.set_cons_succ]
       refine wpTill_take (i := 2) (d := some 99) (v := ?_) rfl rfl (by kernel_rfl) (by kernel_rfl) (by kernel_rfl) (by kernel_rfl) (by kernel_rfl) (fun _ _ _ h => h) (Or.inl ⟨by rfl, ?_⟩) HS.out ?_
       case refine_2 => (intro u hu; obtain ⟨s0, s1, s2, s3, s4, s5, s6, s7, s8⟩ := hu; go_simp; first | done | with_reducible rfl)
       simp only [Act.put, List.setIfInBounds_toArray, List.set_cons_zero, List.set_cons_succ]
       refine wpTill_take (i := 3) (d := some 100) (v := ?_) rfl rfl (by kernel_rfl) (by kernel_rfl) (by kernel_rfl) (by kernel_rfl) (by kernel_rfl) (fun _ _ _ h => h) (Or.inl ⟨by rfl, ?_⟩) HS.out ?_
       case refine_2 => (intro u hu; obtain ⟨s0, s1, s2, s3, s4, s5, s6, s7, s8⟩ := hu; go_simp; first | done | with_reducible rfl)
       simp only [Act.put, List.setIfInBounds_toArray, List.set_cons_zero, List.set_cons_succ]
       refine wpTill_take (i := 4) (d := some 101) (v := ?_) rfl rfl (by kernel_rfl) (by kernel_rfl) (by kernel_rfl) (by kernel_rfl) (by kernel_rfl) (fun _ _ _ h => h) (Or.inl ⟨by rfl, ?_⟩) HS.out ?_
       case refine_2 => (intro u hu; obtain ⟨s0, s1, s2, s3, s4, s5, s6, s7, s8⟩ := hu; go_simp; first | done | with_reducible rfl)
       simp only [Act.put, List.setIfInBounds_toArray, List.set_cons_zero, List.set_cons_succ]
       refine wpTill_take (i := 5) (d := some 102) (v := ?_) rfl rfl (by kernel_rfl) (by kernel_rfl) (by kernel_rfl) (by kernel_rfl) (by kernel_rfl) (fun _ _ _ h => h) (Or.inl ⟨by rfl, ?_⟩) HS.out ?_
       case refine_2 => (intro u hu; obtain ⟨s0, s1, s2, s3, s4, s5, s6, s7, s8⟩ := hu; go_simp; first | done | with_reducible rfl)
       simp only [Act.put, List.setIfInBounds_toArray, List.set_cons_zero, List.set_cons_succ]
       refine wpTill_take (i := 6) (d := some 103) (v := ?_) rfl rfl (by kernel_rfl) (by kernel_rfl) (by kernel_rfl) (by kernel_rfl) (by kernel_rfl) (fun _ _ _ h => h) (Or.inl ⟨by rfl, ?_⟩) HS.out ?_
       case refine_2 => (intro u hu; obtain ⟨s0, s1, s2, s3, s4, s5, s6, s7, s8⟩ := hu; go_simp; first | done | with_reducible rfl)
       simp only [Act.put, List.setIfInBounds_toArray, List.set_cons_zero, List.set_cons_succ]
       refine wpTill_take (i := 7) (d := some 104) (v := ?_) rfl rfl (by kernel_rfl) (by kernel_rfl) (by kernel_rfl) (by kernel_rfl) (by kernel_rfl) (fun _ _ _ h => h) (Or.inl ⟨by rfl, ?_⟩) HS.out ?_
       case refine_2 => (intro u hu; obtain ⟨s0, s1, s2, s3, s4, s5, s6, s7, s8⟩ := hu; go_simp; first | done | with_reducible rfl)
       simp only [Act.put, List.setIfInBounds_toArray, List.set_cons_zero, List.set_cons_succ]
       refine wpTill_take (i := 8) (d := some 105) (v := ?_) rfl rfl (by kernel_rfl) (by kernel_rfl) (by kernel_rfl) (by kernel_rfl) (by kernel_rfl) (fun _ _ _ h => h) (Or.inl ⟨by rfl, ?_⟩) HS.out ?_
       case refine_2 => (intro u hu; obtain ⟨s0, s1, s2, s3, s4, s5, s6, s7, s8⟩ := hu; go_simp; first | done | with_reducible rfl)
       simp only [Act.put, List.setIfInBounds_toArray, List.set_cons_zero, List.set_cons_succ]
       refine wpTill_take (i := 9) (d := some 106) (v := ?_) rfl rfl (by kernel_rfl) (by kernel_rfl) (by kernel_rfl) (by kernel_rfl) (by kernel_rfl) (fun _ _ _ h => h) (Or.inl ⟨by rfl, ?_⟩) HS.out ?_
       case refine_2 => (intro u hu; obtain ⟨s0, s1, s2, s3, s4, s5, s6, s7, s8⟩ := hu; go_simp; first | done | with_reducible rfl)
       simp only [Act.put, List.setIfInBounds_toArray, List.set_cons_zero, List.set_cons_succ]
       refine wpTill_take (i := 10) (d := some 107) (v := ?_) rfl rfl (by kernel_rfl) (by kernel_rfl) (by kernel_rfl) (by kernel_rfl) (by kernel_rfl) (fun _ _ _ h => h) (Or.inl ⟨by rfl, ?_⟩) HS.out ?_
       case refine_2 => (intro u hu; obtain ⟨s0, s1, s2, s3, s4, s5, s6, s7, s8⟩ := hu; go_simp; first | done | with_reducible rfl)
       simp only [Act.put, List.setIfInBounds_toArray, List.set_cons_zero, List.set_cons_succ]
       refine wpTill_take (i := 11) (d := some 108) (v := ?_) rfl rfl (by kernel_rfl) (by kernel_rfl) (by kernel_rfl) (by kernel_rfl) (by kernel_rfl) (fun _ _ _ h => h) (Or.inl ⟨by rfl, ?_⟩) HS.out ?_
       case refine_2 => (intro u hu; obtain ⟨s0, s1, s2, s3, s4, s5, s6, s7, s8⟩ := hu; go_simp; first | done | with_reducible rfl)
       simp only [Act.put, List.setIfInBounds_toArray, List.set_cons_zero, List.set_cons_succ]
       refine wpTill_take (i := 12) (d := some 109) (v := ?_) rfl rfl (by kernel_rfl) (by kernel_rfl) (by kernel_rfl) (by kernel_rfl) (by kernel_rfl) (fun _ _ _ h => h) (Or.inl ⟨by rfl, ?_⟩) HS.out ?_
       case refine_2 => (intro u hu; obtain ⟨s0, s1, s2, s3, s4, s5, s6, s7, s8⟩ := hu; go_simp; first | done | with_reducible rfl)
       simp only [Act.put, List.setIfInBounds_toArray, List.set_cons_zero, List.set_cons_succ]
       refine wpTill_take (i := 13) (d := some 110) (v := ?_) rfl rfl (by kernel_rfl) (by kernel_rfl) (by kernel_rfl) (by kernel_rfl) (by kernel_rfl) (fun _ _ _ h => h) (Or.inl ⟨by rfl, ?_⟩) HS.out ?_
       case refine_2 => (intro u hu; obtain ⟨s0, s1, s2, s3, s4, s5, s6, s7, s8⟩ := hu; go_simp; first | done | with_reducible rfl)
       simp only [Act.put, List.setIfInBounds_toArray, List.set_cons_zero, List.set_cons_succ]
       refine wpTill_take (i := 14) (d := some 111) (v := ?_) rfl rfl (by kernel_rfl) (by kernel_rfl) (by kernel_rfl) (by kernel_rfl) (by kernel_rfl) (fun _ _ _ h => h) (Or.inl ⟨by rfl, ?_⟩) HS.out ?_
       case refine_2 => (intro u hu; obtain ⟨s0, s1, s2, s3, s4, s5, s6, s7, s8⟩ := hu; go_simp; first | done | with_reducible rfl)
       simp only [Act.put, List.setIfInBounds_toArray, List.set_cons_zero, List.set_cons_succ]
       obtain ⟨U, hU⟩ : ∃ U, U = (Y.alloc (.cells #[.int .i64 (j : Int), .int .i64 gv0, .pointer (some ⟨N f, 0, none⟩), .pointer tp, .func fn #[] cp, .slice ao vsn ac] 120)).drew := ⟨_, rfl⟩
       have BU : Hid (Below Y.heap.size Y U) := hid (by rw [hU]; exact (below1 _ _).drew)
       have SU0 : Hid (U.heap.size = Y.heap.size + 1) := hid (by rw [hU]; simp)
       have NU : Hid (U.heap[Y.heap.size]? = some (.cells #[.int .i64 (j : Int), .int .i64 gv0, .pointer (some ⟨N f, 0, none⟩), .pointer tp, .func fn #[] cp, .slice ao vsn ac] 120 (0, 0))) := hid (by rw [hU]; exact heap_alloc_new Y _)
       have KS : Hid (∀ u : World, (∀ q o, q = M ∨ q = H ∨ q = B ∨ q = b → u.cell? ⟨q, o, none⟩ = Y.cell? ⟨q, o, none⟩) → u.cell? ⟨M, 3, none⟩ = some (.slice (some ⟨B, 0, none⟩) k k) ∧ u.cell? ⟨H, 0, none⟩ = some (.int .i64 (f : Int)) ∧ u.cell? ⟨B, f, none⟩ = some (.slice la (outs ts f j).length lc) ∧ u.cell? ⟨b, 0, none⟩ = some (.int .i64 (j : Int)) ∧ u.cell? ⟨b, 1, none⟩ = some (.int .i64 gv0) ∧ u.cell? ⟨b, 2, none⟩ = some (.pointer (some ⟨N f, 0, none⟩)) ∧ u.cell? ⟨b, 3, none⟩ = some (.pointer tp) ∧ u.cell? ⟨b, 4, none⟩ = some (.func fn #[] cp) ∧ u.cell? ⟨b, 5, none⟩ = some (.slice ao vsn ac)) := hid (fun u h => ⟨(h M 3 (.inl rfl)).trans e3, (h H 0 (.inr (.inl rfl))).trans f0, (h B f (.inr (.inr (.inl rfl)))).trans RB, (h b 0 (.inr (.inr (.inr rfl)))).trans m0, (h b 1 (.inr (.inr (.inr rfl)))).trans m1, (h b 2 (.inr (.inr (.inr rfl)))).trans m2, (h b 3 (.inr (.inr (.inr rfl)))).trans m3, (h b 4 (.inr (.inr (.inr rfl)))).trans m4, (h b 5 (.inr (.inr (.inr rfl)))).trans m5⟩)
       have LQ : Hid (∀ q, q = M ∨ q = H ∨ q = B ∨ q = b → q < Y.heap.size ∧ (Value.slice la (outs ts f j).length lc).ownBlock ≠ some q) := hid (by
        rintro q (rfl | rfl | rfl | rfl)
        ·exact ⟨lt_of_block J3.out.l1.mac.box, own_far OL.out (by decide) J3.out.l1.mac.box⟩
        ·exact ⟨lt_of_block T2.out.q, own_far OL.out (by decide) T2.out.q⟩
        ·obtain ⟨rc, rb, _, _⟩ := J3.out.l1.row
         exact ⟨lt_of_block rb, own_far OL.out (by decide) rb⟩
        ·refine ⟨lt_of_block T2.out.m, fun e => ?_⟩
         have h1 := ((J4.out.lv f hfn).lt q (by rw [hL]; exact e)).2
         have h2 := T2.out.bl
         omega)
       have KU := hid (KS.out U (fun q o h => BU.out.cell (p := ⟨q, o, none⟩) (LQ.out q h).1))
       have OU := hid (ownsRow_below OL.out BU.out)
       have NWU := hid (World.news_of_block NU.out)
       have BS : Hid (B ≤ U.heap.size) := hid (by have h1 := (LQ.out B (.inr (.inr (.inl rfl)))).1; have h2 := SU0.out; omega)
       have F63 : Hid ((outs ts f j).length + 1 ≤ maxLen ∧ ((outs ts f j).length + 1) * 64 ≤ 140737488355328) := hid (by have := outs_len ts f j; unfold maxLen; omega)
       obtain ⟨i1, hi1, hy0, hy1, hy2⟩ := info_parts infoMove
       refine wpTill_step (i := 15) (by kernel_rfl) rfl (fun K hK => ?_)
       go_simp
       rw [← hU]
       refine hK _ _ KU.out ?_
       clear hU hK K
       refine wpTill_step (i := 16) (by kernel_rfl) rfl (fun K hK => ?_)
       refine step_append_lies _ (by rfl) _ _ _ (by rfl) B 120 i1 _ 6 64 Tryz.underlying114 hi1 hy0 hy1 hy2 rfl (by omega) (.slice la (outs ts f j).length lc) (outs ts f j).length (mvs N ts lets act (outs ts f j)) (by simp [Act.eval]) OU.out ⟨Y.heap.size, 0, none⟩ 1 1 [.int .i64 (j : Int), .int .i64 gv0, .pointer (some ⟨N f, 0, none⟩), .pointer tp, .func fn #[] cp, .slice ao vsn ac] (by simp [Act.eval]) (by simp) NWU.out (by intro u hu; simp at hu; rcases hu with rfl | rfl | rfl | rfl | rfl | rfl <;> rfl) (by omega) F63.out.1 F63.out.2 BS.out U.heap.size rfl ?_
       intro gg cap' w2 hown hgrow hat hlt3
       have K2 := hid (KS.out w2 (fun q o h => (hgrow.cell_far ⟨q, o, none⟩ (by have h1 := (LQ.out q h).1; have h2 := SU0.out; show q < U.heap.size; omega) (fun e => (LQ.out q h).2 e.symm)).trans (BU.out.cell (p := ⟨q, o, none⟩) (LQ.out q h).1)))
       refine hK _ _ K2.out ?_
       clear hK K
       refine wpTill_take (i := 17) (d := some 114) (v := ?_) rfl rfl (by kernel_rfl) (by kernel_rfl) (by kernel_rfl) (by kernel_rfl) (by kernel_rfl) (fun _ _ _ h => h) (Or.inl ⟨by rfl, ?_⟩) K2.out ?_
       case refine_2 => (intro u hu; obtain ⟨s0, s1, s2, s3, s4, s5, s6, s7, s8⟩ := hu; go_simp; first | done | with_reducible rfl)
       simp only [Act.put, List.setIfInBounds_toArray]
       have rB : w2.cell? ⟨B, f, none⟩ = some (.slice la (outs ts f j).length lc) := K2.out.2.2.1
       have fB : w2.frozen? ⟨B, f, none⟩ = false := by
        obtain ⟨rc, rb, _, _⟩ := (J3.out.below BU.out).l1.row
        have hq := LQ.out B (.inr (.inr (.inl rfl)))
        exact frozen_of_row w2 B f _ _ ((hgrow.block B (by have h2 := SU0.out; have := hq.1; omega) (fun e => hq.2 e.symm)).trans rb)
       refine wpTill_last (by kernel_rfl) rfl (by kernel_rfl) (fun K hK => ?_)
       go_simp
       refine hK _ _ ?_
       clear hK K
       refine wpTill_done (by kernel_rfl) ?_ _
       refine NoPanic.normal ?_
       have AD : Hid (L2 w #[.slice (some ⟨sb, soff, none⟩) k sc, .slice (some ⟨tb, toff, none⟩) tn tc] #[.int .i64 o, .int .i64 s, .int .i64 t, .int .i64 v] N tg tcap ss ts k ⟨o, s, t, v⟩ B P M (j + 1) E F ev xv _ _ _ _) := hid (L2.add (g := gg) (cap := cap') J3.out BU.out hfn HF.out (T2.out.g.below BU.out) (T2.out.a.below BU.out) (by rw [hL]; exact hgrow) (by rw [← HG0.out, ← HT0.out, ← HTG.out]; exact hown) (by rw [hL]; exact hat))
       clear rB fB hown hgrow hat K2 KU OU NWU
       go_wp2_with fail
       go_roundg (tn - (j + 1))
       case measure => omega
       case rel => exact ⟨j + 1, _, _, _, by omega, rfl, by go_num, AD.out⟩
    ·obtain rfl : j = tn := by omega
     clear I
     have FIN := hid hI
     clear hI
     go_wp2_with fail
     go_ret
     exact ⟨N, tg, tcap, B, P, M, E, F, ev, xv, L, lets, act, rfl, FIN.out⟩
end Go.Proofs.YtiimkhepplkocaaGreat
