import Derived.Test.YtjeckanjekgkkaaK8
namespace Go.Proofs.Ytjeckanjekgkkaa
open Go.RowKit Go.Sort
attribute [local go_sem ↓] Go.wp_at_zero Go.wp_at_succ

set_option maxHeartbeats 1600000 in
theorem markStateS_any (L : Nat) (v : Value) (ss : List StD) (k : Int) (w : World) (h0 : 0 ≤ k) (h1 : k + 3 * (wStates ss : Nat) ≤ 1099511627776) (h : TT w L v ss) :
    Calls Try.prog 31 #[v, .int .i64 k] w fun e w' => ∃ k', e = .returned (.int .i64 k') ∧ (k ≤ k' ∧ k' ≤ k + 3 * (wStates ss : Nat)) ∧ Mk L w w' := by
  have HT := hid h
  obtain ⟨g, F, hL, rfl, hr, hf⟩ := h
  obtain ⟨n, hn⟩ : ∃ n, n = ss.length := ⟨_, rfl⟩
  have HN := hid hn
  rw [← hn] at HT ⊢
  have HW : Hid ((wStates ss : Nat) = n + sumTo (fun i => wSt (ss.getD i st0)) n) := hid (by unfold wStates; rw [hn])
  have hwn : n ≤ wStates ss := by rw [HW.out]; omega
  clear hr hf hn
  go_enter Try.func31, Try.ntmps31
  go_wp2
  go_loopg [1, 5] n (fun mm kv i wr => ∃ (a : Nat) (kk : Int), a ≤ n ∧ mm = n - a ∧ i = .int .i64 a ∧ kv = .int .i64 kk ∧ Hid (k ≤ kk ∧ kk ≤ k + 3 * ((a + sumTo (fun i => wSt (ss.getD i st0)) a : Nat) : Int)) ∧ Mk L w wr)
  case atStart => exact ⟨0, k, Nat.zero_le _, by omega, rfl, rfl, hid (by simp [sumTo]), Mk.refl _ _⟩
  case round =>
    obtain ⟨a, kk, ha, rfl, rfl, rfl, HK, hm⟩ := hrel
    have HM := hid hm
    by_cases hlt : a < n
    · obtain ⟨s, es⟩ : ∃ s, s = ss.getD a st0 := ⟨_, rfl⟩
      have TW : Hid (∀ w', Mk L w w' → ∃ F', w'.rowIs g 74 (n * 4) F' ∧ (∃ z, F' (a * 4) = .int .i64 z) ∧ (∃ z, F' (a * 4 + 1) = .int .i64 z) ∧ (∃ q, F' (a * 4 + 2) = .slice (some ⟨q, 0, none⟩) s.entry.length s.entry.length ∧ TS w' L (.slice (some ⟨q, 0, none⟩) s.entry.length s.entry.length) s.entry) ∧ (∃ q, F' (a * 4 + 3) = .slice (some ⟨q, 0, none⟩) s.exit.length s.exit.length ∧ TS w' L (.slice (some ⟨q, 0, none⟩) s.exit.length s.exit.length) s.exit)) := hid (by
        intro w' hm'
        obtain ⟨g', F', hL', e, hr, hf⟩ := hm'.tt _ _ HT.out
        simp at e
        obtain ⟨rfl, _⟩ := e
        obtain ⟨c0, c1, h2, h3⟩ := hf a (by rw [← HN.out]; exact hlt)
        rw [← es] at h2 h3
        obtain ⟨q2, e2⟩ := h2.form
        obtain ⟨q3, e3⟩ := h3.form
        rw [← HN.out] at hr
        exact ⟨F', hr, c0, c1, ⟨q2, e2, by rw [← e2]; exact h2⟩, ⟨q3, e3, by rw [← e3]; exact h3⟩⟩)
      obtain ⟨m1, hm1⟩ : ∃ m, m = wStms s.entry := ⟨_, rfl⟩
      obtain ⟨m2, hm2⟩ : ∃ m, m = wStms s.exit := ⟨_, rfl⟩
      have hs1 := sumTo_step (fun i => wSt (ss.getD i st0)) (k := a) (m := m1 + m2) (by show wSt (ss.getD a st0) = _; rw [← es, hm1, hm2]; rfl)
      have hs2 := sumTo_le (fun i => wSt (ss.getD i st0)) (show a + 1 ≤ n from hlt)
      have hkk := HK.out
      have hww := HW.out
      have kb0 : 0 ≤ kk := by omega
      have kb1 : kk + 3 + 3 * m1 + 3 * m2 ≤ 1099511627776 := by omega
      have kb2 : kk ≤ 1099511627776 := by omega
      have S1 := hid hs1
      obtain ⟨F', hr, ⟨z0, c0⟩, ⟨z1, c1⟩, ⟨q2, e2, t2⟩, _⟩ := TW.out _ hm
      have d0 := hr.cell (i := a * 4) (by omega)
      have d1 := hr.cell (i := a * 4 + 1) (by omega)
      have d2 := hr.cell (i := a * 4 + 2) (by omega)
      have f0 := hr.frozen (a * 4)
      have f1 := hr.frozen (a * 4 + 1)
      rw [c0] at d0
      rw [c1] at d1
      rw [e2] at d2
      have RB := hid (row_block hr)
      have M2 : Hid (Mk L wr ((wr.setCell ⟨g, a * 4, none⟩ (.int .i64 kk)).setCell ⟨g, a * 4 + 1, none⟩ (.int .i64 (kk + 1)))) := hid (mk_set' (mk_set' (Mk.refl _ _) RB.out hL (.inr (.inr (.inl ⟨rfl, by omega⟩))) _) (set_block RB.out) hL (.inr (.inr (.inl ⟨rfl, by omega⟩))) _)
      have C1 := hid (markStmS_any L _ s.entry (kk + 1 + 1) _ (by omega) (by rw [← hm1]; omega) (M2.out.ts _ _ t2))
      have C2 := hid (fun v (kq : Int) w' (b0 : 0 ≤ kq) (b1 : kq + 3 * (m2 : Int) ≤ 1099511627776) (ht : TS w' L v s.exit) => markStmS_any L v s.exit kq w' b0 (by rw [← hm2]; exact b1) ht)
      rw [← hm1] at C1
      rw [← hm2] at C2
      have an : (a : Int) < (n : Int) := by omega
      clear es hr hm c0 c1 e2 hs1 hs2 hkk hww hm1 hm2 t2
      go_wp2_with (first | (go_at_call_of 46 (Value.slice (some ⟨q2, 0, none⟩) s.entry.length s.entry.length); refine C1.out.mono ?_; rintro e w1 ⟨k1, rfl, hk1, hmk1⟩; have N1 := hid (HM.out.trans (M2.out.trans hmk1)); have K1 := hid hk1; obtain ⟨F1, hr1, _, _, _, ⟨q3, e3, t3⟩⟩ := TW.out _ N1.out; have d3 := hr1.cell (i := a * 4 + 3) (by omega); rw [e3] at d3; have T3 := hid t3; have kc0 : 0 ≤ k1 := (by omega); have kc1 : k1 + 3 * (m2 : Int) ≤ 1099511627776 := (by omega); clear hk1 hmk1 hr1 e3 t3) | (go_at_call_of 46 (Value.int .i64 k1); refine (C2.out _ k1 _ kc0 kc1 T3.out).mono ?_; rintro e w2 ⟨k2, rfl, hk2, hmk2⟩; have N2 := hid (N1.out.trans hmk2); have K2 := hid hk2; clear hk2 hmk2))
      go_roundg (n - (a + 1))
      case measure => omega
      case rel =>
        have hkk := HK.out
        have hs1 := S1.out
        have h3 := K1.out
        have h4 := K2.out
        exact ⟨a + 1, k2, by omega, rfl, by go_num, rfl, hid (by rw [hs1]; omega), N2.out⟩
    · have e : a = n := by omega
      subst e
      clear hm
      go_wp2
      go_ret
      exact ⟨kk, rfl, by rw [HW.out]; exact HK.out, HM.out⟩
end Go.Proofs.Ytjeckanjekgkkaa
