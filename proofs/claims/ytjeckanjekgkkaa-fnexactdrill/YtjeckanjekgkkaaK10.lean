import Derived.Test.YtjeckanjekgkkaaK9
import Derived.Test.YtjeckanjekgkkaaS6
namespace Go.Proofs.Ytjeckanjekgkkaa
open Go.RowKit Go.Sort
attribute [local go_sem ↓] Go.wp_at_zero Go.wp_at_succ

set_option maxHeartbeats 1600000 in
theorem markTransS_any (L : Nat) (v : Value) (ss : List TrD) (k : Int) (w : World) (h0 : 0 ≤ k) (h1 : k + 3 * (wTrans ss : Nat) ≤ 1099511627776) (h : TR w L v ss) :
    Calls Try.prog 32 #[v, .int .i64 k] w fun e w' => ∃ k', e = .returned (.int .i64 k') ∧ (k ≤ k' ∧ k' ≤ k + 3 * (wTrans ss : Nat)) ∧ Mk L w w' := by
  have HT := hid h
  obtain ⟨g, F, hL, rfl, hr, hf⟩ := h
  obtain ⟨n, hn⟩ : ∃ n, n = ss.length := ⟨_, rfl⟩
  have HN := hid hn
  rw [← hn] at HT ⊢
  have HW : Hid ((wTrans ss : Nat) = n + sumTo (fun i => wTr (ss.getD i tr0)) n) := hid (by unfold wTrans; rw [hn])
  have hwn : n ≤ wTrans ss := by rw [HW.out]; omega
  clear hr hf hn
  go_enter Try.func32, Try.ntmps32
  go_wp2
  go_loopg [1, 5] n (fun mm kv i wr => ∃ (a : Nat) (kk : Int), a ≤ n ∧ mm = n - a ∧ i = .int .i64 a ∧ kv = .int .i64 kk ∧ Hid (k ≤ kk ∧ kk ≤ k + 3 * ((a + sumTo (fun i => wTr (ss.getD i tr0)) a : Nat) : Int)) ∧ Mk L w wr)
  case atStart => exact ⟨0, k, Nat.zero_le _, by omega, rfl, rfl, hid (by simp [sumTo]), Mk.refl _ _⟩
  case round =>
    obtain ⟨a, kk, ha, rfl, rfl, rfl, HK, hm⟩ := hrel
    have HM := hid hm
    by_cases hlt : a < n
    · obtain ⟨s, es⟩ : ∃ s, s = ss.getD a tr0 := ⟨_, rfl⟩
      have TW : Hid (∀ w', Mk L w w' → ∃ F', w'.rowIs g 78 (n * 5) F' ∧ (∃ z, F' (a * 5) = .int .i64 z) ∧ (∃ z, F' (a * 5 + 1) = .int .i64 z) ∧ (∃ q, F' (a * 5 + 2) = .slice (some ⟨q, 0, none⟩) s.guard.length s.guard.length ∧ TI w' L (.slice (some ⟨q, 0, none⟩) s.guard.length s.guard.length) s.guard.length) ∧ (∃ z, F' (a * 5 + 3) = .int .i64 z) ∧ (∃ q, F' (a * 5 + 4) = .slice (some ⟨q, 0, none⟩) s.action.length s.action.length ∧ TS w' L (.slice (some ⟨q, 0, none⟩) s.action.length s.action.length) s.action)) := hid (by
        intro w' hm'
        obtain ⟨g', F', hL', e, hr, hf⟩ := hm'.tr _ _ HT.out
        simp at e
        obtain ⟨rfl, _⟩ := e
        obtain ⟨c0, c1, h2, c3, h4⟩ := hf a (by rw [← HN.out]; exact hlt)
        rw [← es] at h2 h4
        obtain ⟨q2, e2⟩ := h2.form
        obtain ⟨q4, e4⟩ := h4.form
        rw [← HN.out] at hr
        exact ⟨F', hr, c0, c1, ⟨q2, e2, by rw [← e2]; exact h2⟩, c3, ⟨q4, e4, by rw [← e4]; exact h4⟩⟩)
      obtain ⟨m1, hm1⟩ : ∃ m, m = s.guard.length := ⟨_, rfl⟩
      obtain ⟨m2, hm2⟩ : ∃ m, m = wStms s.action := ⟨_, rfl⟩
      have hs1 := sumTo_step (fun i => wTr (ss.getD i tr0)) (k := a) (m := m1 + m2) (by show wTr (ss.getD a tr0) = _; rw [← es, hm1, hm2]; rfl)
      have hs2 := sumTo_le (fun i => wTr (ss.getD i tr0)) (show a + 1 ≤ n from hlt)
      have hkk := HK.out
      have hww := HW.out
      have kb0 : 0 ≤ kk := by omega
      have kb1 : kk + 3 + 3 * m1 + 3 * m2 ≤ 1099511627776 := by omega
      have kb2 : kk ≤ 1099511627776 := by omega
      have S1 := hid hs1
      rw [← hm1] at TW
      obtain ⟨F', hr, ⟨z0, c0⟩, ⟨z1, c1⟩, ⟨q2, e2, t2⟩, _⟩ := TW.out _ hm
      have d0 := hr.cell (i := a * 5) (by omega)
      have d1 := hr.cell (i := a * 5 + 1) (by omega)
      have d2 := hr.cell (i := a * 5 + 2) (by omega)
      have f0 := hr.frozen (a * 5)
      have f1 := hr.frozen (a * 5 + 1)
      rw [c0] at d0
      rw [c1] at d1
      rw [e2] at d2
      have RB := hid (row_block hr)
      have M2 : Hid (Mk L wr ((wr.setCell ⟨g, a * 5, none⟩ (.int .i64 kk)).setCell ⟨g, a * 5 + 1, none⟩ (.int .i64 (kk + 1)))) := hid (mk_set' (mk_set' (Mk.refl _ _) RB.out hL (.inr (.inr (.inr ⟨rfl, by omega, by omega⟩))) _) (set_block RB.out) hL (.inr (.inr (.inr ⟨rfl, by omega, by omega⟩))) _)
      have C1 := hid (markItemS_any L _ m1 (kk + 1 + 1) _ (by omega) (by omega) (M2.out.ti _ _ t2))
      have C2 := hid (fun v (kq : Int) w' (b0 : 0 ≤ kq) (b1 : kq + 3 * (m2 : Int) ≤ 1099511627776) (ht : TS w' L v s.action) => markStmS_any L v s.action kq w' b0 (by rw [← hm2]; exact b1) ht)
      rw [← hm2] at C2
      have an : (a : Int) < (n : Int) := by omega
      clear es hr hm c0 c1 e2 hs1 hs2 hkk hww hm1 hm2 t2
      go_wp2_with (first | (go_at_call 47; refine C1.out.mono ?_; rintro e w1 ⟨rfl, hmk1⟩; have N1 := hid (HM.out.trans (M2.out.trans hmk1)); obtain ⟨F1, hr1, _, _, _, ⟨z3, c3⟩, ⟨q4, e4, t4⟩⟩ := TW.out _ N1.out; have d3 := hr1.cell (i := a * 5 + 3) (by omega); rw [c3] at d3; have f3 := hr1.frozen (a * 5 + 3); have d4 := hr1.cell (i := a * 5 + 4) (by omega); rw [e4] at d4; have T4 := hid t4; have RB1 := hid (row_block hr1); clear hmk1 hr1 c3 e4 t4) | (go_at_call 46; refine (C2.out _ (kk + 1 + 1 + 2 * m1 + 1) _ (by omega) (by omega) ((mk_set' (Mk.refl _ _) RB1.out hL (.inr (.inr (.inr ⟨rfl, by omega, by omega⟩))) _).ts _ _ T4.out)).mono ?_; rintro e w2 ⟨k2, rfl, hk2, hmk2⟩; have N2 := hid ((mk_set' N1.out RB1.out hL (.inr (.inr (.inr ⟨rfl, by omega, by omega⟩))) _).trans hmk2); have K2 := hid hk2; clear hk2 hmk2))
      go_roundg (n - (a + 1))
      case measure => omega
      case rel =>
        have hkk := HK.out
        have hs1 := S1.out
        have h4 := K2.out
        exact ⟨a + 1, k2, by omega, rfl, by go_num, rfl, hid (by rw [hs1]; omega), N2.out⟩
    · have e : a = n := by omega
      subst e
      clear hm
      go_wp2
      go_ret
      exact ⟨kk, rfl, by rw [HW.out]; exact HK.out, HM.out⟩

theorem Mk.box {L : Nat} {w w' : World} {H : Nat} {cs : Array Value} {t : TypeId} {fr : Nat × Nat} (h : Mk L w w') (hb : w.heap[H]? = some (.cells cs t fr)) (h1 : t ≠ 102) (h2 : t ≠ 100) (h3 : t ≠ 74) (h4 : t ≠ 78) : w'.heap[H]? = some (.cells cs t fr) := (h.other H cs t fr hb h1 h2 h3 h4).trans hb
theorem TI.of_below {w w' : World} {L : Nat} {v : Value} {n : Nat} (h : TI w L v n) (hb : Below w.heap.size w w') : TI w' L v n := by
  obtain ⟨g, F, h1, h2, h3, h4⟩ := h
  exact ⟨g, F, h1, h2, h3.of_block (hb.block _ h3.lt), h4⟩
theorem TS.of_below {w w' : World} {L : Nat} {v : Value} {ss : List StmD} (h : TS w L v ss) (hb : Below w.heap.size w w') : TS w' L v ss := by
  obtain ⟨g, F, h1, h2, h3, h4⟩ := h
  exact ⟨g, F, h1, h2, h3.of_block (hb.block _ h3.lt), fun i hi => ⟨(h4 i hi).1, (h4 i hi).2.1, (h4 i hi).2.2.1, (h4 i hi).2.2.2.of_below hb⟩⟩
theorem TT.of_below {w w' : World} {L : Nat} {v : Value} {ss : List StD} (h : TT w L v ss) (hb : Below w.heap.size w w') : TT w' L v ss := by
  obtain ⟨g, F, h1, h2, h3, h4⟩ := h
  exact ⟨g, F, h1, h2, h3.of_block (hb.block _ h3.lt), fun i hi => ⟨(h4 i hi).1, (h4 i hi).2.1, (h4 i hi).2.2.1.of_below hb, (h4 i hi).2.2.2.of_below hb⟩⟩
theorem TR.of_below {w w' : World} {L : Nat} {v : Value} {ss : List TrD} (h : TR w L v ss) (hb : Below w.heap.size w w') : TR w' L v ss := by
  obtain ⟨g, F, h1, h2, h3, h4⟩ := h
  exact ⟨g, F, h1, h2, h3.of_block (hb.block _ h3.lt), fun i hi => ⟨(h4 i hi).1, (h4 i hi).2.1, (h4 i hi).2.2.1.of_below hb, (h4 i hi).2.2.2.1, (h4 i hi).2.2.2.2.of_below hb⟩⟩

set_option maxHeartbeats 800000 in
theorem markChart_any (L : Nat) (v1 v2 : Value) (es : List StD) (xs : List TrD) (w : World) (hw : wStates es + wTrans xs ≤ 1048576) (h1 : TT w L v1 es) (h2 : TR w L v2 xs) :
    Calls Try.prog 12 #[.agg #[v1, v2], .int .i64 1] w fun e w' => ∃ k', e = .returned (.int .i64 k') ∧ 1 ≤ k' ∧ Mk L (w.alloc (.cells #[v1, v2] 32)) w' := by
  have f1 : ∃ g n, v1 = .slice (some ⟨g, 0, none⟩) n n := by obtain ⟨g, F, _, e, _⟩ := h1; exact ⟨g, _, e⟩
  have f2 : ∃ g n, v2 = .slice (some ⟨g, 0, none⟩) n n := by obtain ⟨g, F, _, e, _⟩ := h2; exact ⟨g, _, e⟩
  obtain ⟨g1, n1, rfl⟩ := f1
  obtain ⟨g2, n2, rfl⟩ := f2
  have C1 := hid (markStateS_any L _ es 1 (w.alloc (.cells #[.slice (some ⟨g1, 0, none⟩) n1 n1, .slice (some ⟨g2, 0, none⟩) n2 n2] 32)) (by omega) (by omega) (h1.of_below (below1 _ _)))
  have C2 := hid (fun (kq : Int) w' (b0 : 0 ≤ kq) (b1 : kq + 3 * ((wTrans xs : Nat) : Int) ≤ 1099511627776) (ht : TR w' L (.slice (some ⟨g2, 0, none⟩) n2 n2) xs) => markTransS_any L _ xs kq w' b0 b1 ht)
  have T2 : Hid (∀ w', Mk L (w.alloc (.cells #[.slice (some ⟨g1, 0, none⟩) n1 n1, .slice (some ⟨g2, 0, none⟩) n2 n2] 32)) w' → TR w' L (.slice (some ⟨g2, 0, none⟩) n2 n2) xs) := hid (fun w' hm => hm.tr _ _ (h2.of_below (below1 _ _)))
  clear h1 h2
  go_enter Try.func12, Try.ntmps12
  go_wp2_with (first | (go_at_call 31; refine C1.out.mono ?_; rintro e w1 ⟨k1, rfl, hk1, hm1⟩; have M1 := hid hm1; have K1 := hid hk1; have kb0 : 0 ≤ k1 := (by omega); have kb1 : k1 + 3 * ((wTrans xs : Nat) : Int) ≤ 1099511627776 := (by omega); obtain ⟨q0, q1⟩ := two_cells (hm1.box (heap_alloc_new w _) (by decide) (by decide) (by decide) (by decide)); clear hm1 hk1) | (go_at_call 32; refine (C2.out k1 _ kb0 kb1 (T2.out _ M1.out)).mono ?_; rintro e w2 ⟨k2, rfl, hk2, hm2⟩; have M2 := hid (M1.out.trans hm2); have K2 := hid hk2; clear hm2 hk2))
  go_ret
  exact ⟨k2, rfl, by have := K1.out; have := K2.out; omega, M2.out⟩

/-- A row of numbers that was marked from k on. -/
def Marked (w : World) (g n : Nat) (k : Int) : Prop := ∀ i, i < n → w.cell? ⟨g, i, none⟩ = some (.int .i64 (k + i))

theorem cell_set_same {w : World} {g n : Nat} {F : Nat → Value} {t : TypeId} (h : w.rowIs g t n F) {a : Nat} (u : Value) (j : Nat) (hj : j < n) : (w.setCell ⟨g, a, none⟩ u).cell? ⟨g, j, none⟩ = some (if j = a then u else F j) := (h.set a u).cell hj

set_option maxHeartbeats 800000 in
theorem markIntS_any (g n c : Nat) (k : Int) (w : World) (h0 : 0 ≤ k) (h1 : k + n ≤ 1099511627776) (h : ∃ F, ∃ m, n ≤ m ∧ w.rowIs g 3 m F ∧ ∀ j, j < n → ∃ z, F j = .int .i64 z) :
    Calls Try.prog 13 #[.slice (some ⟨g, 0, none⟩) n c, .int .i64 k] w fun e w' => e = .returned (.int .i64 (k + n)) ∧ Marked w' g n k ∧ w'.heap.size = w.heap.size ∧ (w'.os = w.os ∧ w'.tape = w.tape ∧ w'.output = w.output) ∧ ∀ q, q ≠ g → w'.heap[q]? = w.heap[q]? := by
  have HR := hid h
  clear h
  go_enter Try.func13, Try.ntmps13
  go_wp2
  go_loopw [1, 5] (fun kv i wr => ∃ a : Nat, a ≤ n ∧ i = .int .i64 a ∧ kv = .int .i64 (k + a) ∧ (∃ F, ∃ m, n ≤ m ∧ wr.rowIs g 3 m F ∧ (∀ j, j < n → ∃ z, F j = .int .i64 z) ∧ ∀ j, j < a → F j = .int .i64 (k + j)) ∧ Hid (wr.heap.size = w.heap.size ∧ (wr.os = w.os ∧ wr.tape = w.tape ∧ wr.output = w.output) ∧ ∀ q, q ≠ g → wr.heap[q]? = w.heap[q]?)) (fun _ i _ => n - (intOf i).toNat)
  case atStart =>
    obtain ⟨F, m, hm, hr, hz⟩ := HR.out
    exact ⟨0, Nat.zero_le _, rfl, by simp, ⟨F, m, hm, hr, hz, fun j h => absurd h (by omega)⟩, hid ⟨rfl, ⟨rfl, rfl, rfl⟩, fun _ _ => rfl⟩⟩
  case round =>
    obtain ⟨a, ha, rfl, rfl, ⟨F, m, hnm, hr, hz, hmk⟩, HS⟩ := hrel
    have HR2 := hid hr
    have HZ := hid hz
    have HM := hid hmk
    by_cases hlt : a < n
    · obtain ⟨z, cz⟩ := hz a hlt
      have d0 := hr.cell (i := a) (by omega)
      rw [cz] at d0
      have f0 := hr.frozen a
      have an : (a : Int) < (n : Int) := by omega
      obtain ⟨kk, hkk⟩ : ∃ kk, kk = k + (a : Int) := ⟨_, rfl⟩
      have HK := hid hkk
      have kb0 : 0 ≤ kk := by omega
      have kb1 : kk ≤ 1099511627776 := by omega
      rw [← hkk]
      clear hr hz hmk cz hkk
      go_wp2
      go_roundw
      case rel =>
        have hk := HK.out
        refine ⟨a + 1, by omega, by go_num, by congr 1; omega, ⟨_, m, hnm, HR2.out.set a _, fun j hj => ?_, fun j hj => ?_⟩, hid ⟨by simp [HS.out.1], HS.out.2.1, fun q hq => (Below.heap_setCell _ _ _ _ (by simpa using hq)).trans (HS.out.2.2 q hq)⟩⟩
        · by_cases e : j = a
          · exact ⟨kk, by simp [e]⟩
          · obtain ⟨y, hy⟩ := HZ.out j hj
            exact ⟨y, by simp [e, hy]⟩
        · by_cases e : j = a
          · subst e; simp [hk]
          · simp [e]; exact HM.out j (by omega)
      case measure => simp [intOf]; omega
    · have e : a = n := by omega
      subst e
      clear hr hz hmk
      go_wp2
      go_ret
      exact ⟨rfl, fun i hi => by rw [← HM.out i hi]; exact HR2.out.cell (by omega), HS.out.1, HS.out.2.1, HS.out.2.2⟩

set_option maxHeartbeats 400000 in
theorem heldIntS_any (g n c : Nat) (k : Int) (w : World) (h0 : 0 ≤ k) (h1 : k + n ≤ 1099511627776) (h : Marked w g n k) :
    Calls Try.prog 14 #[.slice (some ⟨g, 0, none⟩) n c, .int .i64 k] w fun e w' => e = .returned (.int .i64 (k + n)) ∧ w' = w := by
  have HM := hid h
  clear h
  go_enter Try.func14, Try.ntmps14
  go_wp2
  go_loopw [1, 5] (fun kv i wr => wr = w ∧ ∃ a : Nat, a ≤ n ∧ i = .int .i64 a ∧ kv = .int .i64 (k + a)) (fun _ i _ => n - (intOf i).toNat)
  case atStart => exact ⟨rfl, 0, Nat.zero_le _, rfl, by simp⟩
  case round =>
    obtain ⟨rfl, a, ha, rfl, rfl⟩ := hrel
    by_cases hlt : a < n
    · have d0 := HM.out a hlt
      have an : (a : Int) < (n : Int) := by omega
      obtain ⟨kk, hkk⟩ : ∃ kk, kk = k + (a : Int) := ⟨_, rfl⟩
      have HK := hid hkk
      have kb0 : 0 ≤ kk := by omega
      have kb1 : kk ≤ 1099511627776 := by omega
      rw [← hkk] at d0 ⊢
      clear hkk
      go_wp2
      go_roundw
      case rel =>
        have hk := HK.out
        exact ⟨by first | rfl | trivial, a + 1, by omega, by go_num, by congr 1; omega⟩
      case measure => simp [intOf]; omega
    · have e : a = n := by omega
      subst e
      go_wp2
      go_ret
      exact ⟨rfl, rfl⟩
end Go.Proofs.Ytjeckanjekgkkaa
