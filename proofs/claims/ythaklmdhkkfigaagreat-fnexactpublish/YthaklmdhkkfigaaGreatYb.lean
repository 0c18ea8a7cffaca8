import Derived.Test.YthaklmdhkkfigaaGreatYa
namespace Go.Proofs.YthaklmdhkkfigaaGreat
open Go.RowKit Go.Sort
set_option linter.unusedVariables false
attribute [local go_sem ↓] Go.wp_at_zero Go.wp_at_succ

theorem TT.form {w : World} {L : Nat} {v : Value} {ss : List StD} (h : TT w L v ss) : ∃ q, v = .slice (some ⟨q, 0, none⟩) ss.length ss.length := by obtain ⟨g, F, _, e, _⟩ := h; exact ⟨g, e⟩
theorem TR.form {w : World} {L : Nat} {v : Value} {ss : List TrD} (h : TR w L v ss) : ∃ q, v = .slice (some ⟨q, 0, none⟩) ss.length ss.length := by obtain ⟨g, F, _, e, _⟩ := h; exact ⟨g, e⟩
/-- An object's eight cells, as a marking wants them. -/
def ObT (w : World) (L U g n a : Nat) (s : ObD) : Prop := ∃ F, w.rowIs g 134 (n * 8) F ∧ ((∃ z, F (a * 8) = .int .i64 z) ∧ (∃ z, F (a * 8 + 1) = .int .i64 z) ∧ (∃ z, F (a * 8 + 2) = .int .i64 z)) ∧
  ((∃ q, F (a * 8 + 3) = .slice (some ⟨q, 0, none⟩) s.kinds.length s.kinds.length ∧ TN w L U 3 1 (.slice (some ⟨q, 0, none⟩) s.kinds.length s.kinds.length) s.kinds.length) ∧ (∃ q, F (a * 8 + 4) = .slice (some ⟨q, 0, none⟩) s.vals.length s.vals.length ∧ TN w L U 3 1 (.slice (some ⟨q, 0, none⟩) s.vals.length s.vals.length) s.vals.length) ∧ (∃ q, F (a * 8 + 5) = .slice (some ⟨q, 0, none⟩) s.subs.length s.subs.length ∧ TN w L U 3 1 (.slice (some ⟨q, 0, none⟩) s.subs.length s.subs.length) s.subs.length)) ∧
  (∃ q, F (a * 8 + 6) = .slice (some ⟨q, 0, none⟩) s.sts.length s.sts.length ∧ TT w L (.slice (some ⟨q, 0, none⟩) s.sts.length s.sts.length) s.sts) ∧ (∃ q, F (a * 8 + 7) = .slice (some ⟨q, 0, none⟩) s.trs.length s.trs.length ∧ TR w L (.slice (some ⟨q, 0, none⟩) s.trs.length s.trs.length) s.trs)
theorem TO.at {w : World} {L U g n : Nat} {os : List ObD} (h : TO w L U (.slice (some ⟨g, 0, none⟩) n n) os) (hn : n = os.length) {a : Nat} (ha : a < n) : ObT w L U g n a (os.getD a ob0) := by
  obtain ⟨g', F, _, e, hr, hf⟩ := h
  simp at e
  obtain ⟨rfl, _⟩ := e
  obtain ⟨hi, ⟨n3, n4, n5⟩, n6, n7⟩ := hf a (by omega)
  rw [← hn] at hr
  obtain ⟨q3, e3⟩ := n3.form
  obtain ⟨q4, e4⟩ := n4.form
  obtain ⟨q5, e5⟩ := n5.form
  obtain ⟨q6, e6⟩ := n6.form
  obtain ⟨q7, e7⟩ := n7.form
  exact ⟨F, hr, hi, ⟨⟨q3, e3, e3 ▸ n3⟩, ⟨q4, e4, e4 ▸ n4⟩, ⟨q5, e5, e5 ▸ n5⟩⟩, ⟨q6, e6, e6 ▸ n6⟩, ⟨q7, e7, e7 ▸ n7⟩⟩
set_option maxRecDepth 100000 in
set_option maxHeartbeats 3200000 in
theorem markObjectS_mj (L U : Nat) (v : Value) (os : List ObD) (k : Int) (w : World) (h0 : 0 ≤ k) (h1 : k + 3 * (wObs os : Nat) ≤ 1099511627776) (h : TO w L U v os) :
    Calls Tryz.prog 49 #[v, .int .i64 k] w fun e w' => ∃ k', e = .returned (.int .i64 k') ∧ (k ≤ k' ∧ k' ≤ k + 3 * (wObs os : Nat)) ∧ Mj L U w w' := by
  have HT := hid h
  obtain ⟨g, F, hL, rfl, hr, hf⟩ := h
  have HL := hid hL
  obtain ⟨n, hn⟩ : ∃ n, n = os.length := ⟨_, rfl⟩
  have HN := hid hn
  rw [← hn] at HT ⊢
  have HW : Hid ((wObs os : Nat) = n + sumTo (fun i => wOb (os.getD i ob0)) n) := hid (by unfold wObs; rw [hn])
  have hwn : n ≤ wObs os := by rw [HW.out]; omega
  clear hr hf hn hL
  go_enter Tryz.func49, Tryz.ntmps49
  go_wp2
  go_loopg [1, 5] n (fun mm kv i wr => ∃ (a : Nat) (kk : Int), a ≤ n ∧ mm = n - a ∧ i = .int .i64 a ∧ kv = .int .i64 kk ∧ Hid (k ≤ kk ∧ kk ≤ k + 3 * ((a + sumTo (fun i => wOb (os.getD i ob0)) a : Nat) : Int)) ∧ Mj L U w wr)
  case atStart => exact ⟨0, k, Nat.zero_le _, by omega, rfl, rfl, hid (by simp [sumTo]), Mj.refl _ _ _⟩
  case round =>
    obtain ⟨a, kk, ha, rfl, rfl, rfl, HK, hm⟩ := hrel
    have HM := hid hm
    by_cases hlt : a < n
    · obtain ⟨s, es⟩ : ∃ s, s = os.getD a ob0 := ⟨_, rfl⟩
      have TW : Hid (∀ w', Mj L U w w' → ObT w' L U g n a s) := hid (fun w' hm' => by rw [es]; exact (hm'.ob _ _ HT.out).at HN.out hlt)
      obtain ⟨m1, hm1⟩ : ∃ m, m = s.kinds.length := ⟨_, rfl⟩
      obtain ⟨m2, hm2⟩ : ∃ m, m = s.vals.length := ⟨_, rfl⟩
      obtain ⟨m3, hm3⟩ : ∃ m, m = s.subs.length := ⟨_, rfl⟩
      obtain ⟨m4, hm4⟩ : ∃ m, m = wStates s.sts := ⟨_, rfl⟩
      obtain ⟨m5, hm5⟩ : ∃ m, m = wTrans s.trs := ⟨_, rfl⟩
      have hs1 := sumTo_step (fun i => wOb (os.getD i ob0)) (k := a) (m := m1 + m2 + m3 + (m4 + m5)) (by show wOb (os.getD a ob0) = _; rw [← es, hm1, hm2, hm3, hm4, hm5]; rfl)
      have hs2 := sumTo_le (fun i => wOb (os.getD i ob0)) (show a + 1 ≤ n from hlt)
      have hkk := HK.out
      have hww := HW.out
      have kb0 : 0 ≤ kk := by omega
      have kb1 : kk + 3 + 3 * (m1 + m2 + m3 + (m4 + m5)) ≤ 1099511627776 := by omega
      have kb2 : kk ≤ 1099511627776 := by omega
      have S1 := hid hs1
      unfold ObT at TW
      rw [← hm1, ← hm2, ← hm3] at TW
      obtain ⟨F', hr, ⟨⟨z0, c0⟩, ⟨z1, c1⟩, ⟨z2, c2⟩⟩, ⟨⟨q3, e3, t3⟩, _, _⟩, _, _⟩ := TW.out _ hm
      have d0 := hr.cell (i := a * 8) (by omega)
      have d1 := hr.cell (i := a * 8 + 1) (by omega)
      have d2 := hr.cell (i := a * 8 + 2) (by omega)
      have d3 := hr.cell (i := a * 8 + 3) (by omega)
      have f0 := hr.frozen (a * 8)
      have f1 := hr.frozen (a * 8 + 1)
      have f2 := hr.frozen (a * 8 + 2)
      rw [c0] at d0
      rw [c1] at d1
      rw [c2] at d2
      rw [e3] at d3
      have RB := hid (row_block hr)
      have N : ∀ j, j < 3 → numR 134 (a * 8 + j) := fun j hj => .inr (.inr (.inr ⟨rfl, by omega⟩))
      have M3 : Hid (Mj L U wr (((wr.setCell ⟨g, a * 8, none⟩ (.int .i64 kk)).setCell ⟨g, a * 8 + 1, none⟩ (.int .i64 (kk + 1))).setCell ⟨g, a * 8 + 2, none⟩ (.int .i64 (kk + 1 + 1)))) := hid (mj_set' (mj_set' (mj_set' (Mj.refl _ _ _) RB.out HL.out (N 0 (by omega)) _) (set_block RB.out) HL.out (N 1 (by omega)) _) (set_block (set_block RB.out)) HL.out (N 2 (by omega)) _)
      have C1 := hid (markInt_mj L U _ m1 (kk + 1 + 1 + 1) _ (by omega) (by omega) (M3.out.tn _ _ _ _ ⟨by decide, by decide, by decide, by decide⟩ t3))
      have C2 := hid (fun v (kq : Int) w' (m : Nat) (b0 : 0 ≤ kq) (b1 : kq + (m : Int) ≤ 1099511627776) (ht : TN w' L U 3 1 v m) => markInt_mj L U v m kq w' b0 b1 ht)
      have C4 := hid (fun v (kq : Int) w' (b0 : 0 ≤ kq) (b1 : kq + 3 * (m4 : Int) ≤ 1099511627776) (ht : TT w' L v s.sts) => markStateS_any L v s.sts kq w' b0 (by rw [← hm4]; exact b1) ht)
      have C5 := hid (fun v (kq : Int) w' (b0 : 0 ≤ kq) (b1 : kq + 3 * (m5 : Int) ≤ 1099511627776) (ht : TR w' L v s.trs) => markTransS_any L v s.trs kq w' b0 (by rw [← hm5]; exact b1) ht)
      rw [← hm4] at C4
      rw [← hm5] at C5
      have an : (a : Int) < (n : Int) := by omega
      obtain ⟨k3, hk3⟩ : ∃ k3, k3 = kk + 1 + 1 + 1 + (m1 : Int) := ⟨_, rfl⟩
      rw [← hk3] at C1
      have K3 := hid hk3
      have ka : 0 ≤ k3 ∧ k3 + (m2 : Int) ≤ 1099511627776 := by omega
      obtain ⟨k4, hk4⟩ : ∃ k4, k4 = k3 + (m2 : Int) := ⟨_, rfl⟩
      have K4 := hid hk4
      have kb : 0 ≤ k4 ∧ k4 + (m3 : Int) ≤ 1099511627776 := by omega
      obtain ⟨k5, hk5⟩ : ∃ k5, k5 = k4 + (m3 : Int) := ⟨_, rfl⟩
      have K5 := hid hk5
      have kc : 0 ≤ k5 ∧ k5 + 3 * (m4 : Int) ≤ 1099511627776 := by omega
      have kd : k5 + 3 * (m4 : Int) + 3 * (m5 : Int) ≤ 1099511627776 := by omega
      have KA := hid ka
      have KB := hid kb
      have KC := hid kc
      have KD := hid kd
      clear es hr hm c0 c1 c2 e3 hs1 hs2 hkk hww hm1 hm2 hm3 hm4 hm5 t3 N ka kb kc kd hk3 hk4 hk5
      go_wp2_with (first
        | (go_at_call_of 51 (Value.slice (some ⟨q3, 0, none⟩) m1 m1); refine C1.out.mono ?_; rintro e w1 ⟨rfl, hmk1⟩; have N1 := hid (HM.out.trans (M3.out.trans hmk1)); obtain ⟨F1, hr1, _, ⟨_, ⟨q4, e4, t4⟩, _⟩, _, _⟩ := TW.out _ N1.out; have d4 := hr1.cell (i := a * 8 + 4) (by omega); rw [e4] at d4; have T4 := hid t4; clear hmk1 hr1 e4 t4)
        | (go_at_call_of 51 (Value.slice (some ⟨q4, 0, none⟩) m2 m2); refine (C2.out _ k3 _ m2 KA.out.1 KA.out.2 T4.out).mono ?_; rintro e w2 ⟨rfl, hmk2⟩; rw [← K4.out]; have N2 := hid (N1.out.trans hmk2); obtain ⟨F2, hr2, _, ⟨_, _, ⟨q5, e5, t5⟩⟩, _, _⟩ := TW.out _ N2.out; have d5 := hr2.cell (i := a * 8 + 5) (by omega); rw [e5] at d5; have T5 := hid t5; clear hmk2 hr2 e5 t5)
        | (go_at_call_of 51 (Value.slice (some ⟨q5, 0, none⟩) m3 m3); refine (C2.out _ k4 _ m3 KB.out.1 KB.out.2 T5.out).mono ?_; rintro e w3 ⟨rfl, hmk3⟩; rw [← K5.out]; have N3 := hid (N2.out.trans hmk3); obtain ⟨F3, hr3, _, _, ⟨q6, e6, t6⟩, _⟩ := TW.out _ N3.out; have d6 := hr3.cell (i := a * 8 + 6) (by omega); rw [e6] at d6; have T6 := hid t6; clear hmk3 hr3 e6 t6)
        | (go_at_call 84; refine (C4.out _ k5 _ KC.out.1 KC.out.2 T6.out).mono ?_; rintro e w4 ⟨k6, rfl, hk6, hmk4⟩; have K6 := hid hk6; have N4 := hid (N3.out.trans hmk4.mj); obtain ⟨F4, hr4, _, _, _, ⟨q7, e7, t7⟩⟩ := TW.out _ N4.out; have d7 := hr4.cell (i := a * 8 + 7) (by omega); rw [e7] at d7; have T7 := hid t7; clear hmk4 hr4 e7 t7 hk6)
        | (go_at_call 85; refine (C5.out _ k6 _ (by have := K6.out; have := KC.out; omega) (by have := K6.out; have := KD.out; omega) T7.out).mono ?_; rintro e w5 ⟨k7, rfl, hk7, hmk5⟩; have K7 := hid hk7; have N5 := hid (N4.out.trans hmk5.mj); clear hmk5 hk7))
      go_roundg (n - (a + 1))
      case measure => omega
      case rel =>
        have hkk := HK.out
        have hs1 := S1.out
        have x3 := K3.out
        have x4 := K4.out
        have x5 := K5.out
        have x6 := K6.out
        have x7 := K7.out
        exact ⟨a + 1, k7, by omega, rfl, by go_num, rfl, hid (by rw [hs1]; omega), N5.out⟩
    · have e : a = n := by omega
      subst e
      clear hm
      go_wp2
      go_ret
      exact ⟨kk, rfl, by rw [HW.out]; exact HK.out, HM.out⟩
end Go.Proofs.YthaklmdhkkfigaaGreat
namespace Go.Proofs.YthaklmdhkkfigaaGreat
open Go.RowKit Go.Sort
set_option linter.unusedVariables false
attribute [local go_sem ↓] Go.wp_at_zero Go.wp_at_succ

theorem fin_int : notC 3 := ⟨by decide, by decide, by decide, by decide⟩
theorem fin_tm : notC 115 := ⟨by decide, by decide, by decide, by decide⟩
theorem fin_ev : notC 70 := ⟨by decide, by decide, by decide, by decide⟩
theorem fin_ii : notC 26 ∧ notR 26 := ⟨⟨by decide, by decide, by decide, by decide⟩, ⟨by decide, by decide, by decide, by decide⟩⟩
theorem fin_ee : notC 138 ∧ notR 138 := ⟨⟨by decide, by decide, by decide, by decide⟩, ⟨by decide, by decide, by decide, by decide⟩⟩
theorem fin_sy : notC 42 ∧ notR 42 := ⟨⟨by decide, by decide, by decide, by decide⟩, ⟨by decide, by decide, by decide, by decide⟩⟩
theorem fin_ke : notC 35 ∧ notR 35 := ⟨⟨by decide, by decide, by decide, by decide⟩, ⟨by decide, by decide, by decide, by decide⟩⟩
/-- A system's two rows. -/
structure SyT (w : World) (L U : Nat) (v1 v2 : Value) (os : List ObD) (n : Nat) : Prop where
  o : TO w L U v1 os
  t : TN w L U 115 2 v2 n
set_option maxHeartbeats 1600000 in
theorem markSystem_mj (L U : Nat) (sg : Int) (v1 v2 : Value) (os : List ObD) (n : Nat) (k : Int) (w : World) (h0 : 0 ≤ k) (hw : k + 3 * ((wObs os + n : Nat) : Int) ≤ 1099511627776) (h : SyT w L U v1 v2 os n) :
    Calls Tryz.prog 15 #[.agg #[.int .i64 sg, v1, v2], .int .i64 k] w fun e w' => ∃ k', e = .returned (.int .i64 k') ∧ (k ≤ k' ∧ k' ≤ k + 3 * ((wObs os + n : Nat) : Int)) ∧ Mj L U (w.alloc (.cells #[.int .i64 sg, v1, v2] 42)) w' := by
  obtain ⟨h1, h2⟩ := h
  have f1 : ∃ g n, v1 = .slice (some ⟨g, 0, none⟩) n n := by obtain ⟨g, F, _, e, _⟩ := h1; exact ⟨g, _, e⟩
  have f2 : ∃ g n, v2 = .slice (some ⟨g, 0, none⟩) n n := by obtain ⟨g, F, _, e, _⟩ := h2; exact ⟨g, _, e⟩
  obtain ⟨g1, n1, rfl⟩ := f1
  obtain ⟨g2, n2, rfl⟩ := f2
  have C1 := hid (markObjectS_mj L U _ os k (w.alloc (.cells #[.int .i64 sg, .slice (some ⟨g1, 0, none⟩) n1 n1, .slice (some ⟨g2, 0, none⟩) n2 n2] 42)) (by omega) (by omega) (h1.of_below (below1 _ _)))
  have T2 : Hid (∀ w', Mj L U (w.alloc (.cells #[.int .i64 sg, .slice (some ⟨g1, 0, none⟩) n1 n1, .slice (some ⟨g2, 0, none⟩) n2 n2] 42)) w' → TN w' L U 115 2 (.slice (some ⟨g2, 0, none⟩) n2 n2) n) := hid (fun w' hm => hm.tn _ _ _ _ fin_tm (h2.of_below (below1 _ _)))
  have C2 := hid (fun (kq : Int) w' (b0 : 0 ≤ kq) (b1 : kq + 2 * (n : Int) ≤ 1099511627776) ht => markTimer_mj L U (.slice (some ⟨g2, 0, none⟩) n2 n2) n kq w' b0 b1 ht)
  have HW := hid hw
  clear h1 h2 hw
  go_enter Tryz.func15, Tryz.ntmps15
  go_wp2_with (first | (go_at_call 49; refine C1.out.mono ?_; rintro e w1 ⟨k1, rfl, hk1, hm1⟩; have M1 := hid hm1; have K1 := hid hk1; obtain ⟨q0, q1, q2⟩ := three_cells (hm1.box (heap_alloc_new w _) fin_sy.1 (.inr fin_sy.2)); clear hm1 hk1) | (go_at_call 50; refine (C2.out k1 _ (by have := K1.out; omega) (by have := K1.out; have := HW.out; omega) (T2.out _ M1.out)).mono ?_; rintro e w2 ⟨rfl, hm2⟩; have M2 := hid (M1.out.trans hm2); clear hm2))
  go_ret
  exact ⟨_, rfl, by have := K1.out; omega, M2.out⟩
/-- A kernel's six rows. -/
structure KeT (w : World) (L U : Nat) (h : KerS) (kd : KerD) : Prop where
  l : TN w L U 3 1 (.slice h.lo h.ln h.lc) kd.leaf.length
  v : TNN w L U 26 3 1 (.slice h.vo h.vn h.vc) (kd.vals.map List.length)
  q : TNN w L U 138 70 2 (.slice h.qo h.qn h.qc) (kd.qs.map List.length)
  d : TNN w L U 138 70 2 (.slice h.po h.pn h.pc) (kd.ds.map List.length)
  e : TN w L U 3 1 (.slice h.eo h.en h.ec) kd.left.length
  f : TN w L U 3 1 (.slice h.fo h.fn h.fc) kd.every.length
theorem KeT.of_below {w w' : World} {L U : Nat} {h : KerS} {kd : KerD} (k : KeT w L U h kd) (hb : Below w.heap.size w w') : KeT w' L U h kd := ⟨k.l.of_below hb, k.v.of_below hb, k.q.of_below hb, k.d.of_below hb, k.e.of_below hb, k.f.of_below hb⟩
theorem KeT.mj {w w' : World} {L U : Nat} {h : KerS} {kd : KerD} (k : KeT w L U h kd) (m : Mj L U w w') : KeT w' L U h kd :=
  ⟨m.tn _ _ _ _ fin_int k.l, k.v.mj m fin_ii.1 fin_ii.2 fin_int, k.q.mj m fin_ee.1 fin_ee.2 fin_ev, k.d.mj m fin_ee.1 fin_ee.2 fin_ev, m.tn _ _ _ _ fin_int k.e, m.tn _ _ _ _ fin_int k.f⟩
theorem sumTo_map {α : Type} (l : List (List α)) : sumTo (fun i => (l.map List.length).getD i 0) (l.map List.length).length = sumTo (fun i => (l.getD i []).length) l.length := by
  rw [List.length_map]
  congr 1
  funext i
  by_cases h : i < l.length
  · simp [List.getD_eq_getElem?_getD, h]
  · simp [List.getD_eq_getElem?_getD, Nat.not_lt.1 h]
set_option maxRecDepth 100000 in
set_option maxHeartbeats 3200000 in
theorem markKernel_mj (L U : Nat) (h : KerS) (kd : KerD) (k : Int) (w : World) (h0 : 0 ≤ k) (hw : k + 3 * ((wKer kd : Nat) : Int) ≤ 1099511627776) (hwk : wKer kd ≤ 1048576) (hk : KeT w L U h kd) :
    Calls Tryz.prog 16 #[kerV h, .int .i64 k] w fun e w' => ∃ k', e = .returned (.int .i64 k') ∧ k ≤ k' ∧ ∃ o, Mj L U (w.alloc o) w' := by
  obtain ⟨ao, an, ac, bo, bn, bc, co, cn, cc, po, dn, dc, eo, en, ec, fo, fn, fc⟩ := h
  obtain ⟨W, hW⟩ : ∃ W, W = w.alloc (.cells #[.slice ao an ac, .slice bo bn bc, .slice co cn cc, .slice po dn dc, .slice eo en ec, .slice fo fn fc] 35) := ⟨_, rfl⟩
  have HB : Hid (∀ w', Mj L U W w' → (w'.cell? ⟨w.heap.size, 0, none⟩ = some (.slice ao an ac) ∧ w'.cell? ⟨w.heap.size, 1, none⟩ = some (.slice bo bn bc) ∧ w'.cell? ⟨w.heap.size, 2, none⟩ = some (.slice co cn cc) ∧ w'.cell? ⟨w.heap.size, 3, none⟩ = some (.slice po dn dc) ∧ w'.cell? ⟨w.heap.size, 4, none⟩ = some (.slice eo en ec) ∧ w'.cell? ⟨w.heap.size, 5, none⟩ = some (.slice fo fn fc))) := hid (fun w' hm => six_cells (hm.box (by rw [hW]; exact heap_alloc_new w _) fin_ke.1 (.inr fin_ke.2)))
  have hk1 : KeT W L U ⟨ao, an, ac, bo, bn, bc, co, cn, cc, po, dn, dc, eo, en, ec, fo, fn, fc⟩ kd := by rw [hW]; exact hk.of_below (below1 _ _)
  have TK : Hid (∀ w', Mj L U W w' → KeT w' L U ⟨ao, an, ac, bo, bn, bc, co, cn, cc, po, dn, dc, eo, en, ec, fo, fn, fc⟩ kd) := hid (fun w' hm => hk1.mj hm)
  have s2 := sumTo_map kd.vals
  have s3 := sumTo_map kd.qs
  have s4 := sumTo_map kd.ds
  have w2 : wNest kd.vals = kd.vals.length + sumTo (fun i => (kd.vals.getD i []).length) kd.vals.length := rfl
  have w3 : wNest kd.qs = kd.qs.length + sumTo (fun i => (kd.qs.getD i []).length) kd.qs.length := rfl
  have w4 : wNest kd.ds = kd.ds.length + sumTo (fun i => (kd.ds.getD i []).length) kd.ds.length := rfl
  unfold wKer at hw hwk
  obtain ⟨a1, h1⟩ : ∃ a, a = kd.leaf.length := ⟨_, rfl⟩
  obtain ⟨a2, h2⟩ : ∃ a, a = sumTo (fun i => (kd.vals.getD i []).length) kd.vals.length := ⟨_, rfl⟩
  obtain ⟨a3, h3⟩ : ∃ a, a = sumTo (fun i => (kd.qs.getD i []).length) kd.qs.length := ⟨_, rfl⟩
  obtain ⟨a4, h4⟩ : ∃ a, a = sumTo (fun i => (kd.ds.getD i []).length) kd.ds.length := ⟨_, rfl⟩
  obtain ⟨a5, h5⟩ : ∃ a, a = kd.left.length := ⟨_, rfl⟩
  obtain ⟨a6, h6⟩ : ∃ a, a = kd.every.length := ⟨_, rfl⟩
  rw [w2, w3, w4, ← h1, ← h2, ← h3, ← h4, ← h5, ← h6] at hw hwk
  have C1 := hid (fun (kq : Int) w' (b0 : 0 ≤ kq) (b1 : kq + (a1 : Int) ≤ 1099511627776) ht => markInt_mj L U (.slice ao an ac) a1 kq w' b0 b1 ht)
  have C2 := hid (fun (kq : Int) w' (b0 : 0 ≤ kq) b1 (b2 : _ ≤ 1048576) ht => markIntSS_mj L U (.slice bo bn bc) (kd.vals.map List.length) kq w' b0 b1 b2 ht)
  have C3 := hid (fun (kq : Int) w' (b0 : 0 ≤ kq) b1 (b2 : _ ≤ 1048576) ht => markEventSS_mj L U (.slice co cn cc) (kd.qs.map List.length) kq w' b0 b1 b2 ht)
  have C4 := hid (fun (kq : Int) w' (b0 : 0 ≤ kq) b1 (b2 : _ ≤ 1048576) ht => markEventSS_mj L U (.slice po dn dc) (kd.ds.map List.length) kq w' b0 b1 b2 ht)
  have C5 := hid (fun (kq : Int) w' (b0 : 0 ≤ kq) (b1 : kq + (a5 : Int) ≤ 1099511627776) ht => markInt_mj L U (.slice eo en ec) a5 kq w' b0 b1 ht)
  have C6 := hid (fun (kq : Int) w' (b0 : 0 ≤ kq) (b1 : kq + (a6 : Int) ≤ 1099511627776) ht => markInt_mj L U (.slice fo fn fc) a6 kq w' b0 b1 ht)
  rw [s2, ← h2] at C2
  rw [s3, ← h3] at C3
  rw [s4, ← h4] at C4
  have L2 : Hid ((kd.vals.map List.length).length ≤ 1048576) := hid (by rw [List.length_map]; omega)
  have L3 : Hid ((kd.qs.map List.length).length ≤ 1048576) := hid (by rw [List.length_map]; omega)
  have L4 : Hid ((kd.ds.map List.length).length ≤ 1048576) := hid (by rw [List.length_map]; omega)
  have T0 := hid (TK.out W (Mj.refl _ _ _))
  have TL : Hid (∀ w', Mj L U W w' → TN w' L U 3 1 (.slice ao an ac) a1 ∧ TN w' L U 3 1 (.slice eo en ec) a5 ∧ TN w' L U 3 1 (.slice fo fn fc) a6) := hid (fun w' hm => by have := TK.out w' hm; rw [h1, h5, h6]; exact ⟨this.l, this.e, this.f⟩)
  obtain ⟨k1, hk1'⟩ : ∃ x, x = k + (a1 : Int) := ⟨_, rfl⟩
  obtain ⟨k2, hk2⟩ : ∃ x, x = k1 + 1 * ((a2 : Nat) : Int) := ⟨_, rfl⟩
  obtain ⟨k3, hk3⟩ : ∃ x, x = k2 + 2 * ((a3 : Nat) : Int) := ⟨_, rfl⟩
  obtain ⟨k4, hk4⟩ : ∃ x, x = k3 + 2 * ((a4 : Nat) : Int) := ⟨_, rfl⟩
  obtain ⟨k5, hk5⟩ : ∃ x, x = k4 + (a5 : Int) := ⟨_, rfl⟩
  have R : Hid ((0 ≤ k1 ∧ 0 ≤ k2 ∧ 0 ≤ k3 ∧ 0 ≤ k4 ∧ 0 ≤ k5) ∧ k + (a1 : Int) ≤ 1099511627776 ∧ k1 + 1 * ((a2 : Nat) : Int) ≤ 1099511627776 ∧ k2 + 2 * ((a3 : Nat) : Int) ≤ 1099511627776 ∧ k3 + 2 * ((a4 : Nat) : Int) ≤ 1099511627776 ∧ k4 + (a5 : Int) ≤ 1099511627776 ∧ k5 + (a6 : Int) ≤ 1099511627776) := hid (by omega)
  have KQ : Hid (k ≤ k5 + (a6 : Int)) := hid (by omega)
  have E1 := hid hk1'
  have E2 := hid hk2
  have E3 := hid hk3
  have E4 := hid hk4
  have E5 := hid hk5
  have HWW := hid hW
  have q0 := HB.out W (Mj.refl _ _ _)
  rw [hW] at q0
  obtain ⟨q1, q2, q3, q4, q5, q6⟩ := q0
  unfold kerV
  dsimp only
  clear hk hk1 hW s2 s3 s4 w2 w3 w4 h1 h2 h3 h4 h5 h6 hw hwk hk1' hk2 hk3 hk4 hk5
  go_enter Tryz.func16, Tryz.ntmps16
  go_wp2_with (first
    | (go_at_call_of 51 (Value.slice ao an ac); rw [← HWW.out]; refine (C1.out k _ h0 R.out.2.1 (TL.out _ (Mj.refl _ _ _)).1).mono ?_; rintro e x1 ⟨rfl, hm1⟩; rw [← E1.out]; have M1 := hid hm1; clear q1 q2 q3 q4 q5 q6; obtain ⟨q1, q2, q3, q4, q5, q6⟩ := HB.out _ hm1; clear hm1)
    | (go_at_call 52; refine (C2.out k1 _ R.out.1.1 R.out.2.2.1 L2.out (TK.out _ M1.out).v).mono ?_; rintro e x2 ⟨rfl, hm2⟩; rw [← E2.out]; have M2 := hid (M1.out.trans hm2); clear q1 q2 q3 q4 q5 q6; obtain ⟨q1, q2, q3, q4, q5, q6⟩ := HB.out _ M2.out; clear hm2)
    | (go_at_call_of 53 (Value.slice co cn cc); refine (C3.out k2 _ R.out.1.2.1 R.out.2.2.2.1 L3.out (TK.out _ M2.out).q).mono ?_; rintro e x3 ⟨rfl, hm3⟩; rw [← E3.out]; have M3 := hid (M2.out.trans hm3); clear q1 q2 q3 q4 q5 q6; obtain ⟨q1, q2, q3, q4, q5, q6⟩ := HB.out _ M3.out; clear hm3)
    | (go_at_call_of 53 (Value.slice po dn dc); refine (C4.out k3 _ R.out.1.2.2.1 R.out.2.2.2.2.1 L4.out (TK.out _ M3.out).d).mono ?_; rintro e x4 ⟨rfl, hm4⟩; rw [← E4.out]; have M4 := hid (M3.out.trans hm4); clear q1 q2 q3 q4 q5 q6; obtain ⟨q1, q2, q3, q4, q5, q6⟩ := HB.out _ M4.out; clear hm4)
    | (go_at_call_of 51 (Value.slice eo en ec); refine (C5.out k4 _ R.out.1.2.2.2.1 R.out.2.2.2.2.2.1 (TL.out _ M4.out).2.1).mono ?_; rintro e x5 ⟨rfl, hm5⟩; rw [← E5.out]; have M5 := hid (M4.out.trans hm5); clear q1 q2 q3 q4 q5 q6; obtain ⟨q1, q2, q3, q4, q5, q6⟩ := HB.out _ M5.out; clear hm5)
    | (go_at_call_of 51 (Value.slice fo fn fc); refine (C6.out k5 _ R.out.1.2.2.2.2 R.out.2.2.2.2.2.2 (TL.out _ M5.out).2.2).mono ?_; rintro e x6 ⟨rfl, hm6⟩; have M6 := hid (M5.out.trans hm6); clear hm6))
  go_ret
  exact ⟨_, rfl, KQ.out, _, by have := M6.out; rw [HWW.out] at this; exact this⟩
end Go.Proofs.YthaklmdhkkfigaaGreat
