import Derived.Test.YtjeckanjekgkkaaK7
import Derived.Deep.LoopGhost
namespace Go.Proofs.Ytjeckanjekgkkaa
open Go.RowKit Go.Sort
attribute [local go_sem ↓] Go.wp_at_zero Go.wp_at_succ

theorem TI.form {w : World} {L : Nat} {v : Value} {n : Nat} (h : TI w L v n) : ∃ q, v = .slice (some ⟨q, 0, none⟩) n n := by obtain ⟨g, F, _, e, _⟩ := h; exact ⟨g, e⟩
theorem TS.form {w : World} {L : Nat} {v : Value} {ss : List StmD} (h : TS w L v ss) : ∃ q, v = .slice (some ⟨q, 0, none⟩) ss.length ss.length := by obtain ⟨g, F, _, e, _⟩ := h; exact ⟨g, e⟩

set_option maxHeartbeats 800000 in
theorem markStmS_any (L : Nat) (v : Value) (ss : List StmD) (k : Int) (w : World) (h0 : 0 ≤ k) (h1 : k + 3 * (wStms ss : Nat) ≤ 1099511627776) (h : TS w L v ss) :
    Calls Try.prog 46 #[v, .int .i64 k] w fun e w' => ∃ k', e = .returned (.int .i64 k') ∧ (k ≤ k' ∧ k' ≤ k + 3 * (wStms ss : Nat)) ∧ Mk L w w' := by
  have HT := hid h
  obtain ⟨g, F, hL, rfl, hr, hf⟩ := h
  obtain ⟨n, hn⟩ : ∃ n, n = ss.length := ⟨_, rfl⟩
  have HN := hid hn
  rw [← hn] at HT ⊢
  have HW : Hid ((wStms ss : Nat) = n + sumTo (fun i => (ss.getD i stm0).code.length) n) := hid (by unfold wStms; rw [hn])
  have hwn : n ≤ wStms ss := by rw [HW.out]; omega
  clear hr hf hn
  go_enter Try.func46, Try.ntmps46
  go_wp2
  go_loopg [1, 5] n (fun mm kv i wr => ∃ (a : Nat) (kk : Int), a ≤ n ∧ mm = n - a ∧ i = .int .i64 a ∧ kv = .int .i64 kk ∧ Hid (k ≤ kk ∧ kk ≤ k + 3 * ((a + sumTo (fun i => (ss.getD i stm0).code.length) a : Nat) : Int)) ∧ Mk L w wr)
  case atStart => exact ⟨0, k, Nat.zero_le _, by omega, rfl, rfl, hid (by simp [sumTo]), Mk.refl _ _⟩
  case round =>
    obtain ⟨a, kk, ha, rfl, rfl, rfl, HK, hm⟩ := hrel
    have HM := hid hm
    by_cases hlt : a < n
    · obtain ⟨g', F', hL', e, hr, hf⟩ := hm.ts _ _ HT.out
      simp at e
      obtain ⟨rfl, e9⟩ := e
      clear e9
      obtain ⟨⟨z0, c0⟩, ⟨z1, c1⟩, ⟨z2, c2⟩, hti⟩ := hf a (by rw [← HN.out]; exact hlt)
      obtain ⟨q, c3⟩ := hti.form
      rw [c3] at hti
      obtain ⟨m, hm1⟩ : ∃ m, m = (ss.getD a stm0).code.length := ⟨_, rfl⟩
      rw [← hm1] at hti c3
      have d0 := hr.cell (i := a * 4) (by rw [← HN.out]; omega)
      have d1 := hr.cell (i := a * 4 + 1) (by rw [← HN.out]; omega)
      have d2 := hr.cell (i := a * 4 + 2) (by rw [← HN.out]; omega)
      have d3 := hr.cell (i := a * 4 + 3) (by rw [← HN.out]; omega)
      have f0 := hr.frozen (a * 4)
      have f1 := hr.frozen (a * 4 + 1)
      have f2 := hr.frozen (a * 4 + 2)
      rw [c0] at d0
      rw [c1] at d1
      rw [c2] at d2
      rw [c3] at d3
      have RB := hid (row_block hr)
      have hs1 := sumTo_step (fun i => (ss.getD i stm0).code.length) (k := a) (m := m) hm1.symm
      have hs2 := sumTo_le (fun i => (ss.getD i stm0).code.length) (show a + 1 ≤ n from hlt)
      have hkk := HK.out
      have hww := HW.out
      have kb0 : 0 ≤ kk := by omega
      have kb1 : kk + 3 + 2 * m ≤ 1099511627776 := by omega
      have S1 := hid hs1
      have M3 : Hid (Mk L wr (((wr.setCell ⟨g, a * 4, none⟩ (.int .i64 kk)).setCell ⟨g, a * 4 + 1, none⟩ (.int .i64 (kk + 1))).setCell ⟨g, a * 4 + 2, none⟩ (.int .i64 (kk + 1 + 1)))) := hid (mk_set' (mk_set' (mk_set' (Mk.refl _ _) RB.out hL (.inr (.inl ⟨rfl, by omega⟩)) _) (set_block RB.out) hL (.inr (.inl ⟨rfl, by omega⟩)) _) (set_block (set_block RB.out)) hL (.inr (.inl ⟨rfl, by omega⟩)) _)
      have C := hid (markItemS_any L (.slice (some ⟨q, 0, none⟩) m m) m (kk + 1 + 1 + 1) _ (by omega) (by omega) (M3.out.ti _ _ hti))
      obtain ⟨gg, _, hgL, eg, _⟩ := hti
      have an : (a : Int) < (n : Int) := by omega
      have kb2 : kk ≤ 1099511627776 := by omega
      clear hr hf hm c0 c1 c2 c3 hs1 hs2 hkk hww hm1 eg
      go_wp2_with (go_at_call 47; refine C.out.mono ?_; rintro e w1 ⟨rfl, hm1⟩; have M4 := hid (HM.out.trans (M3.out.trans hm1)); clear hm1)
      go_roundg (n - (a + 1))
      case measure => omega
      case rel =>
        have hkk := HK.out
        have hs1 := S1.out
        exact ⟨a + 1, kk + 1 + 1 + 1 + 2 * m, by omega, rfl, by go_num, by first | rfl | (congr 1; omega) | (simp; omega), hid (by rw [hs1]; omega), M4.out⟩
    · have e : a = n := by omega
      subst e
      clear hm
      go_wp2
      go_ret
      exact ⟨kk, rfl, by rw [HW.out]; exact HK.out, HM.out⟩

end Go.Proofs.Ytjeckanjekgkkaa
