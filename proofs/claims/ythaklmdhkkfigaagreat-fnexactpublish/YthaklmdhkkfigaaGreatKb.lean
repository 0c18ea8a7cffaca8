import Derived.Test.YthaklmdhkkfigaaGreatKa
import Derived.Deep.LoopGhost
import Derived.Test.YthaklmdhkkfigaaGreatSa
namespace Go.Proofs.YthaklmdhkkfigaaGreat
open Go.RowKit Go.Sort
attribute [local go_sem ↓] Go.wp_at_zero Go.wp_at_succ

/-- Rows of the four kinds, whatever numbers they hold. -/
def TI (w : World) (L : Nat) (v : Value) (n : Nat) : Prop :=
  ∃ g F, L ≤ g ∧ v = .slice (some ⟨g, 0, none⟩) n n ∧ w.rowIs g 225 (n * 2) F ∧ ∀ j, j < n * 2 → ∃ z, F j = .int .i64 z
def TS (w : World) (L : Nat) (v : Value) (ss : List StmD) : Prop :=
  ∃ g F, L ≤ g ∧ v = .slice (some ⟨g, 0, none⟩) ss.length ss.length ∧ w.rowIs g 223 (ss.length * 4) F ∧
    ∀ i, i < ss.length → (∃ z, F (i * 4) = .int .i64 z) ∧ (∃ z, F (i * 4 + 1) = .int .i64 z) ∧ (∃ z, F (i * 4 + 2) = .int .i64 z) ∧ TI w L (F (i * 4 + 3)) (ss.getD i stm0).code.length
def TT (w : World) (L : Nat) (v : Value) (ss : List StD) : Prop :=
  ∃ g F, L ≤ g ∧ v = .slice (some ⟨g, 0, none⟩) ss.length ss.length ∧ w.rowIs g 196 (ss.length * 4) F ∧
    ∀ i, i < ss.length → (∃ z, F (i * 4) = .int .i64 z) ∧ (∃ z, F (i * 4 + 1) = .int .i64 z) ∧ TS w L (F (i * 4 + 2)) (ss.getD i st0).entry ∧ TS w L (F (i * 4 + 3)) (ss.getD i st0).exit
def TR (w : World) (L : Nat) (v : Value) (ss : List TrD) : Prop :=
  ∃ g F, L ≤ g ∧ v = .slice (some ⟨g, 0, none⟩) ss.length ss.length ∧ w.rowIs g 200 (ss.length * 5) F ∧
    ∀ i, i < ss.length → (∃ z, F (i * 5) = .int .i64 z) ∧ (∃ z, F (i * 5 + 1) = .int .i64 z) ∧ TI w L (F (i * 5 + 2)) (ss.getD i tr0).guard.length ∧ (∃ z, F (i * 5 + 3) = .int .i64 z) ∧ TS w L (F (i * 5 + 4)) (ss.getD i tr0).action

theorem IRow.ti {w : World} {L : Nat} {v : Value} {its : List (Int × Int)} (h : IRow w L v its) : TI w L v its.length := by
  obtain ⟨g, hg, e, hr⟩ := h
  refine ⟨g, _, hg, e, hr, fun j _ => ?_⟩
  unfold icell
  split <;> exact ⟨_, rfl⟩
theorem SRow.ts {w : World} {L : Nat} {v : Value} {ss : List StmD} (h : SRow w L v ss) : TS w L v ss := by
  obtain ⟨g, F, hg, e, hr, hc⟩ := h
  exact ⟨g, F, hg, e, hr, fun i hi => ⟨⟨_, (hc i hi).1⟩, ⟨_, (hc i hi).2.1⟩, ⟨_, (hc i hi).2.2.1⟩, (hc i hi).2.2.2.ti⟩⟩
theorem StRow.tt {w : World} {L : Nat} {v : Value} {ss : List StD} (h : StRow w L v ss) : TT w L v ss := by
  obtain ⟨g, F, hg, e, hr, hc⟩ := h
  exact ⟨g, F, hg, e, hr, fun i hi => ⟨⟨_, (hc i hi).1⟩, ⟨_, (hc i hi).2.1⟩, (hc i hi).2.2.1.ts, (hc i hi).2.2.2.ts⟩⟩
theorem TrRow.tr {w : World} {L : Nat} {v : Value} {ss : List TrD} (h : TrRow w L v ss) : TR w L v ss := by
  obtain ⟨g, F, hg, e, hr, hc⟩ := h
  exact ⟨g, F, hg, e, hr, fun i hi => ⟨⟨_, (hc i hi).1⟩, ⟨_, (hc i hi).2.1⟩, (hc i hi).2.2.1.ti, ⟨_, (hc i hi).2.2.2.1⟩, (hc i hi).2.2.2.2.ts⟩⟩

/-- What a marking leaves. -/
structure Mk (L : Nat) (w w' : World) : Prop where
  os : w'.os = w.os
  tape : w'.tape = w.tape
  output : w'.output = w.output
  size : w'.heap.size = w.heap.size
  low : ∀ k, k < L → w'.heap[k]? = w.heap[k]?
  other : ∀ (k : Nat) (cs : Array Value) (t : TypeId) (fr : Nat × Nat), w.heap[k]? = some (Obj.cells cs t fr) → t ≠ 225 → t ≠ 223 → t ≠ 196 → t ≠ 200 → w'.heap[k]? = w.heap[k]?
  ti : ∀ v n, TI w L v n → TI w' L v n
  ts : ∀ v ss, TS w L v ss → TS w' L v ss
  tt : ∀ v ss, TT w L v ss → TT w' L v ss
  tr : ∀ v ss, TR w L v ss → TR w' L v ss
theorem Mk.refl (L : Nat) (w : World) : Mk L w w := ⟨rfl, rfl, rfl, rfl, fun _ _ => rfl, fun _ _ _ _ _ _ _ _ _ => rfl, fun _ _ h => h, fun _ _ h => h, fun _ _ h => h, fun _ _ h => h⟩
theorem Mk.trans {L : Nat} {a b c : World} (h : Mk L a b) (k : Mk L b c) : Mk L a c :=
  ⟨k.os.trans h.os, k.tape.trans h.tape, k.output.trans h.output, k.size.trans h.size, fun i hi => (k.low i hi).trans (h.low i hi),
    fun i cs t fr e h1 h2 h3 h4 => (k.other i cs t fr ((h.other i cs t fr e h1 h2 h3 h4).trans e) h1 h2 h3 h4).trans (h.other i cs t fr e h1 h2 h3 h4),
    fun v n x => k.ti v n (h.ti v n x), fun v n x => k.ts v n (h.ts v n x), fun v n x => k.tt v n (h.tt v n x), fun v n x => k.tr v n (h.tr v n x)⟩
/-- Which cells of a row of that kind hold numbers. -/
def numAt (t : TypeId) (o : Nat) : Prop := t = 225 ∨ (t = 223 ∧ o % 4 ≠ 3) ∨ (t = 196 ∧ o % 4 < 2) ∨ (t = 200 ∧ o % 5 ≠ 2 ∧ o % 5 ≠ 4)

theorem row_tag {w : World} {g : Nat} {t t' : TypeId} {cur : Array Value} {n : Nat} {F : Nat → Value} (h : w.rowIs g t n F) (hg : w.heap[g]? = some (.cells cur t' (0, 0))) : t' = t := by
  obtain ⟨cs, h1, _⟩ := h
  rw [hg] at h1
  simp at h1
  exact h1.2
theorem mk_set {L : Nat} {w : World} {g o : Nat} {t : TypeId} {cur : Array Value} (hg : w.heap[g]? = some (.cells cur t (0, 0))) (hL : L ≤ g) (ht : numAt t o) (z : Int) : Mk L w (w.setCell ⟨g, o, none⟩ (.int .i64 z)) := by
  have other : ∀ k, k ≠ g → (w.setCell ⟨g, o, none⟩ (.int .i64 z)).heap[k]? = w.heap[k]? := fun k hk => Below.heap_setCell _ _ _ _ (by simpa using hk)
  have ti : ∀ v n, TI w L v n → TI (w.setCell ⟨g, o, none⟩ (.int .i64 z)) L v n := by
    rintro v n ⟨g', F, h1, h2, h3, h4⟩
    by_cases e : g' = g
    · subst e
      refine ⟨g', _, h1, h2, h3.set o _, fun j hj => ?_⟩
      by_cases ej : j = o
      · exact ⟨z, by simp [ej]⟩
      · obtain ⟨y, hy⟩ := h4 j hj
        exact ⟨y, by simp [ej, hy]⟩
    · exact ⟨g', F, h1, h2, h3.of_block (other g' e), h4⟩
  have ts : ∀ v ss, TS w L v ss → TS (w.setCell ⟨g, o, none⟩ (.int .i64 z)) L v ss := by
    rintro v ss ⟨g', F, h1, h2, h3, h4⟩
    by_cases e : g' = g
    · subst e
      have tg := row_tag h3 hg
      subst tg
      have ho : o % 4 ≠ 3 := by
        rcases ht with h | h | h | h
        · exact absurd h (by decide)
        · exact h.2
        · exact absurd h.1 (by decide)
        · exact absurd h.1 (by decide)
      refine ⟨g', _, h1, h2, h3.set o _, fun i hi => ?_⟩
      obtain ⟨⟨a, ha⟩, ⟨b, hb⟩, ⟨c, hc⟩, hd⟩ := h4 i hi
      have e3 : ¬ i * 4 + 3 = o := by omega
      refine ⟨?_, ?_, ?_, ?_⟩
      · by_cases x : i * 4 = o
        · exact ⟨z, by simp [x]⟩
        · exact ⟨a, by simp [x, ha]⟩
      · by_cases x : i * 4 + 1 = o
        · exact ⟨z, by simp [x]⟩
        · exact ⟨b, by simp [x, hb]⟩
      · by_cases x : i * 4 + 2 = o
        · exact ⟨z, by simp [x]⟩
        · exact ⟨c, by simp [x, hc]⟩
      · simpa [e3] using ti _ _ hd
    · exact ⟨g', F, h1, h2, h3.of_block (other g' e), fun i hi => ⟨(h4 i hi).1, (h4 i hi).2.1, (h4 i hi).2.2.1, ti _ _ (h4 i hi).2.2.2⟩⟩
  have tt : ∀ v ss, TT w L v ss → TT (w.setCell ⟨g, o, none⟩ (.int .i64 z)) L v ss := by
    rintro v ss ⟨g', F, h1, h2, h3, h4⟩
    by_cases e : g' = g
    · subst e
      have tg := row_tag h3 hg
      subst tg
      have ho : o % 4 < 2 := by
        rcases ht with h | h | h | h
        · exact absurd h (by decide)
        · exact absurd h.1 (by decide)
        · exact h.2
        · exact absurd h.1 (by decide)
      refine ⟨g', _, h1, h2, h3.set o _, fun i hi => ?_⟩
      obtain ⟨⟨a, ha⟩, ⟨b, hb⟩, hc, hd⟩ := h4 i hi
      have e2 : ¬ i * 4 + 2 = o := by omega
      have e3 : ¬ i * 4 + 3 = o := by omega
      refine ⟨?_, ?_, ?_, ?_⟩
      · by_cases x : i * 4 = o
        · exact ⟨z, by simp [x]⟩
        · exact ⟨a, by simp [x, ha]⟩
      · by_cases x : i * 4 + 1 = o
        · exact ⟨z, by simp [x]⟩
        · exact ⟨b, by simp [x, hb]⟩
      · simpa [e2] using ts _ _ hc
      · simpa [e3] using ts _ _ hd
    · exact ⟨g', F, h1, h2, h3.of_block (other g' e), fun i hi => ⟨(h4 i hi).1, (h4 i hi).2.1, ts _ _ (h4 i hi).2.2.1, ts _ _ (h4 i hi).2.2.2⟩⟩
  have tr : ∀ v ss, TR w L v ss → TR (w.setCell ⟨g, o, none⟩ (.int .i64 z)) L v ss := by
    rintro v ss ⟨g', F, h1, h2, h3, h4⟩
    by_cases e : g' = g
    · subst e
      have tg := row_tag h3 hg
      subst tg
      have ho : o % 5 ≠ 2 ∧ o % 5 ≠ 4 := by
        rcases ht with h | h | h | h
        · exact absurd h (by decide)
        · exact absurd h.1 (by decide)
        · exact absurd h.1 (by decide)
        · exact h.2
      refine ⟨g', _, h1, h2, h3.set o _, fun i hi => ?_⟩
      obtain ⟨⟨a, ha⟩, ⟨b, hb⟩, hc, ⟨d, hd⟩, he⟩ := h4 i hi
      have e2 : ¬ i * 5 + 2 = o := by omega
      have e4 : ¬ i * 5 + 4 = o := by omega
      refine ⟨?_, ?_, ?_, ?_, ?_⟩
      · by_cases x : i * 5 = o
        · exact ⟨z, by simp [x]⟩
        · exact ⟨a, by simp [x, ha]⟩
      · by_cases x : i * 5 + 1 = o
        · exact ⟨z, by simp [x]⟩
        · exact ⟨b, by simp [x, hb]⟩
      · simpa [e2] using ti _ _ hc
      · by_cases x : i * 5 + 3 = o
        · exact ⟨z, by simp [x]⟩
        · exact ⟨d, by simp [x, hd]⟩
      · simpa [e4] using ts _ _ he
    · exact ⟨g', F, h1, h2, h3.of_block (other g' e), fun i hi => ⟨(h4 i hi).1, (h4 i hi).2.1, ti _ _ (h4 i hi).2.2.1, (h4 i hi).2.2.2.1, ts _ _ (h4 i hi).2.2.2.2⟩⟩
  refine ⟨rfl, rfl, rfl, by simp, fun k hk => other k (by omega), fun k cs t' fr e h1 h2 h3 h4 => other k ?_, ti, ts, tt, tr⟩
  rintro rfl
  rw [hg] at e
  simp at e
  obtain ⟨_, rfl, _⟩ := e
  rcases ht with h | h | h | h
  · exact h1 h
  · exact h2 h.1
  · exact h3 h.1
  · exact h4 h.1
theorem row_block {w : World} {g : Nat} {t : TypeId} {n : Nat} {F : Nat → Value} (h : w.rowIs g t n F) : ∃ cur, w.heap[g]? = some (.cells cur t (0, 0)) := by
  obtain ⟨cs, h1, _⟩ := h
  exact ⟨cs, h1⟩
theorem set_block {w : World} {g o : Nat} {t : TypeId} {v : Value} (h : ∃ cur, w.heap[g]? = some (.cells cur t (0, 0))) : ∃ cur, (w.setCell ⟨g, o, none⟩ v).heap[g]? = some (.cells cur t (0, 0)) := by
  obtain ⟨cur, h1⟩ := h
  exact ⟨_, heap_setCell_same w g o cur t v h1⟩
theorem mk_set' {L : Nat} {w0 w : World} {g o : Nat} {t : TypeId} (h : Mk L w0 w) (hg : ∃ cur, w.heap[g]? = some (.cells cur t (0, 0))) (hL : L ≤ g) (ht : numAt t o) (z : Int) : Mk L w0 (w.setCell ⟨g, o, none⟩ (.int .i64 z)) := by
  obtain ⟨cur, h1⟩ := hg
  exact h.trans (mk_set h1 hL ht z)

set_option maxHeartbeats 800000 in
theorem markItemS_any (L : Nat) (v : Value) (n : Nat) (k : Int) (w : World) (h0 : 0 ≤ k) (h1 : k + 2 * n ≤ 1099511627776) (h : TI w L v n) :
    Calls Tryz.prog 115 #[v, .int .i64 k] w fun e w' => e = .returned (.int .i64 (k + 2 * n)) ∧ Mk L w w' := by
  have HT := hid h
  obtain ⟨g, F, hL, rfl, hr, hf⟩ := h
  clear hr hf
  go_enter Tryz.func115, Tryz.ntmps115
  go_wp2
  go_loopw [1, 5] (fun kv i wr => ∃ a : Nat, a ≤ n ∧ i = .int .i64 a ∧ kv = .int .i64 (k + 2 * a) ∧ Mk L w wr) (fun _ i _ => n - (intOf i).toNat)
  case atStart => exact ⟨0, Nat.zero_le _, rfl, by simp, Mk.refl _ _⟩
  case round =>
    obtain ⟨a, ha, rfl, rfl, hm⟩ := hrel
    have HM := hid hm
    by_cases hlt : a < n
    · obtain ⟨g', F', hL', e, hr, hf⟩ := hm.ti _ _ HT.out
      simp at e
      subst e
      obtain ⟨z0, c0⟩ := hf (a * 2) (by omega)
      obtain ⟨z1, c1⟩ := hf (a * 2 + 1) (by omega)
      have d0 := hr.cell (i := a * 2) (by omega)
      have d1 := hr.cell (i := a * 2 + 1) (by omega)
      have f0 := hr.frozen (a * 2)
      have f1 := hr.frozen (a * 2 + 1)
      rw [c0] at d0
      rw [c1] at d1
      have RB := hid (row_block hr)
      have an : (a : Int) < (n : Int) := by omega
      clear hr hf hm c0 c1
      obtain ⟨kk, hkk⟩ : ∃ kk, kk = k + 2 * (a : Int) := ⟨_, rfl⟩
      have HK := hid hkk
      have kb0 : 0 ≤ kk := by omega
      have kb1 : kk ≤ 1099511627776 := by omega
      rw [← hkk]
      clear hkk
      go_wp2
      go_roundw
      case rel =>
        refine ⟨a + 1, by omega, by go_num, ?_, mk_set' (mk_set' HM.out RB.out hL (.inl rfl) _) (set_block RB.out) hL (.inl rfl) _⟩
        have := HK.out
        first | (congr 1; omega) | (simp; omega)
      case measure => simp [intOf]; omega
    · have e : a = n := by omega
      subst e
      clear hm
      go_wp2
      go_ret
      exact ⟨rfl, HM.out⟩
end Go.Proofs.YthaklmdhkkfigaaGreat
namespace Go.Proofs.YthaklmdhkkfigaaGreat
open Go.RowKit Go.Sort
attribute [local go_sem ↓] Go.wp_at_zero Go.wp_at_succ

theorem TI.form {w : World} {L : Nat} {v : Value} {n : Nat} (h : TI w L v n) : ∃ q, v = .slice (some ⟨q, 0, none⟩) n n := by obtain ⟨g, F, _, e, _⟩ := h; exact ⟨g, e⟩
theorem TS.form {w : World} {L : Nat} {v : Value} {ss : List StmD} (h : TS w L v ss) : ∃ q, v = .slice (some ⟨q, 0, none⟩) ss.length ss.length := by obtain ⟨g, F, _, e, _⟩ := h; exact ⟨g, e⟩

set_option maxHeartbeats 800000 in
theorem markStmS_any (L : Nat) (v : Value) (ss : List StmD) (k : Int) (w : World) (h0 : 0 ≤ k) (h1 : k + 3 * (wStms ss : Nat) ≤ 1099511627776) (h : TS w L v ss) :
    Calls Tryz.prog 114 #[v, .int .i64 k] w fun e w' => ∃ k', e = .returned (.int .i64 k') ∧ (k ≤ k' ∧ k' ≤ k + 3 * (wStms ss : Nat)) ∧ Mk L w w' := by
  have HT := hid h
  obtain ⟨g, F, hL, rfl, hr, hf⟩ := h
  obtain ⟨n, hn⟩ : ∃ n, n = ss.length := ⟨_, rfl⟩
  have HN := hid hn
  rw [← hn] at HT ⊢
  have HW : Hid ((wStms ss : Nat) = n + sumTo (fun i => (ss.getD i stm0).code.length) n) := hid (by unfold wStms; rw [hn])
  have hwn : n ≤ wStms ss := by rw [HW.out]; omega
  clear hr hf hn
  go_enter Tryz.func114, Tryz.ntmps114
  go_wp2
  go_loopg [1, 5] n (fun mm kv i wr => ∃ (a : Nat) (kk : Int), a ≤ n ∧ mm = n - a ∧ i = .int .i64 a ∧ kv = .int .i64 kk ∧ Hid (k ≤ kk ∧ kk ≤ k + 3 * ((a + sumTo (fun i => (ss.getD i stm0).code.length) a : Nat) : Int)) ∧ Mk L w wr)
  case atStart => exact ⟨0, k, Nat.zero_le _, by omega, rfl, rfl, hid (by simp [sumTo]), Mk.refl _ _⟩
  case round =>
    obtain ⟨a, kk, ha, rfl, rfl, rfl, HK, hm⟩ := hrel
    have HM := hid hm
    by_cases hlt : a < n
    · obtain ⟨g', F', hL', e, hr, hf⟩ := hm.ts _ _ HT.out
      simp at e
      obtain ⟨rfl, e9⟩ := e
      clear e9
      obtain ⟨⟨z0, c0⟩, ⟨z1, c1⟩, ⟨z2, c2⟩, hti⟩ := hf a (by rw [← HN.out]; exact hlt)
      obtain ⟨q, c3⟩ := hti.form
      rw [c3] at hti
      obtain ⟨m, hm1⟩ : ∃ m, m = (ss.getD a stm0).code.length := ⟨_, rfl⟩
      rw [← hm1] at hti c3
      have d0 := hr.cell (i := a * 4) (by rw [← HN.out]; omega)
      have d1 := hr.cell (i := a * 4 + 1) (by rw [← HN.out]; omega)
      have d2 := hr.cell (i := a * 4 + 2) (by rw [← HN.out]; omega)
      have d3 := hr.cell (i := a * 4 + 3) (by rw [← HN.out]; omega)
      have f0 := hr.frozen (a * 4)
      have f1 := hr.frozen (a * 4 + 1)
      have f2 := hr.frozen (a * 4 + 2)
      rw [c0] at d0
      rw [c1] at d1
      rw [c2] at d2
      rw [c3] at d3
      have RB := hid (row_block hr)
      have hs1 := sumTo_step (fun i => (ss.getD i stm0).code.length) (k := a) (m := m) hm1.symm
      have hs2 := sumTo_le (fun i => (ss.getD i stm0).code.length) (show a + 1 ≤ n from hlt)
      have hkk := HK.out
      have hww := HW.out
      have kb0 : 0 ≤ kk := by omega
      have kb1 : kk + 3 + 2 * m ≤ 1099511627776 := by omega
      have S1 := hid hs1
      have M3 : Hid (Mk L wr (((wr.setCell ⟨g, a * 4, none⟩ (.int .i64 kk)).setCell ⟨g, a * 4 + 1, none⟩ (.int .i64 (kk + 1))).setCell ⟨g, a * 4 + 2, none⟩ (.int .i64 (kk + 1 + 1)))) := hid (mk_set' (mk_set' (mk_set' (Mk.refl _ _) RB.out hL (.inr (.inl ⟨rfl, by omega⟩)) _) (set_block RB.out) hL (.inr (.inl ⟨rfl, by omega⟩)) _) (set_block (set_block RB.out)) hL (.inr (.inl ⟨rfl, by omega⟩)) _)
      have C := hid (markItemS_any L (.slice (some ⟨q, 0, none⟩) m m) m (kk + 1 + 1 + 1) _ (by omega) (by omega) (M3.out.ti _ _ hti))
      obtain ⟨gg, _, hgL, eg, _⟩ := hti
      have an : (a : Int) < (n : Int) := by omega
      have kb2 : kk ≤ 1099511627776 := by omega
      clear hr hf hm c0 c1 c2 c3 hs1 hs2 hkk hww hm1 eg
      go_wp2_with (go_at_call 115; refine C.out.mono ?_; rintro e w1 ⟨rfl, hm1⟩; have M4 := hid (HM.out.trans (M3.out.trans hm1)); clear hm1)
      go_roundg (n - (a + 1))
      case measure => omega
      case rel =>
        have hkk := HK.out
        have hs1 := S1.out
        exact ⟨a + 1, kk + 1 + 1 + 1 + 2 * m, by omega, rfl, by go_num, by first | rfl | (congr 1; omega) | (simp; omega), hid (by rw [hs1]; omega), M4.out⟩
    · have e : a = n := by omega
      subst e
      clear hm
      go_wp2
      go_ret
      exact ⟨kk, rfl, by rw [HW.out]; exact HK.out, HM.out⟩

end Go.Proofs.YthaklmdhkkfigaaGreat
namespace Go.Proofs.YthaklmdhkkfigaaGreat
open Go.RowKit Go.Sort
attribute [local go_sem ↓] Go.wp_at_zero Go.wp_at_succ

set_option maxHeartbeats 1600000 in
theorem markStateS_any (L : Nat) (v : Value) (ss : List StD) (k : Int) (w : World) (h0 : 0 ≤ k) (h1 : k + 3 * (wStates ss : Nat) ≤ 1099511627776) (h : TT w L v ss) :
    Calls Tryz.prog 84 #[v, .int .i64 k] w fun e w' => ∃ k', e = .returned (.int .i64 k') ∧ (k ≤ k' ∧ k' ≤ k + 3 * (wStates ss : Nat)) ∧ Mk L w w' := by
  have HT := hid h
  obtain ⟨g, F, hL, rfl, hr, hf⟩ := h
  obtain ⟨n, hn⟩ : ∃ n, n = ss.length := ⟨_, rfl⟩
  have HN := hid hn
  rw [← hn] at HT ⊢
  have HW : Hid ((wStates ss : Nat) = n + sumTo (fun i => wSt (ss.getD i st0)) n) := hid (by unfold wStates; rw [hn])
  have hwn : n ≤ wStates ss := by rw [HW.out]; omega
  clear hr hf hn
  go_enter Tryz.func84, Tryz.ntmps84
  go_wp2
  go_loopg [1, 5] n (fun mm kv i wr => ∃ (a : Nat) (kk : Int), a ≤ n ∧ mm = n - a ∧ i = .int .i64 a ∧ kv = .int .i64 kk ∧ Hid (k ≤ kk ∧ kk ≤ k + 3 * ((a + sumTo (fun i => wSt (ss.getD i st0)) a : Nat) : Int)) ∧ Mk L w wr)
  case atStart => exact ⟨0, k, Nat.zero_le _, by omega, rfl, rfl, hid (by simp [sumTo]), Mk.refl _ _⟩
  case round =>
    obtain ⟨a, kk, ha, rfl, rfl, rfl, HK, hm⟩ := hrel
    have HM := hid hm
    by_cases hlt : a < n
    · obtain ⟨s, es⟩ : ∃ s, s = ss.getD a st0 := ⟨_, rfl⟩
      have TW : Hid (∀ w', Mk L w w' → ∃ F', w'.rowIs g 196 (n * 4) F' ∧ (∃ z, F' (a * 4) = .int .i64 z) ∧ (∃ z, F' (a * 4 + 1) = .int .i64 z) ∧ (∃ q, F' (a * 4 + 2) = .slice (some ⟨q, 0, none⟩) s.entry.length s.entry.length ∧ TS w' L (.slice (some ⟨q, 0, none⟩) s.entry.length s.entry.length) s.entry) ∧ (∃ q, F' (a * 4 + 3) = .slice (some ⟨q, 0, none⟩) s.exit.length s.exit.length ∧ TS w' L (.slice (some ⟨q, 0, none⟩) s.exit.length s.exit.length) s.exit)) := hid (by
        intro w' hm'
        obtain ⟨g', F', hL', e, hr, hf⟩ := hm'.tt _ _ HT.out
        simp at e
        obtain ⟨rfl, _⟩ := e
        obtain ⟨c0, c1, h2, h3⟩ := hf a (by rw [← HN.out]; exact hlt)
        rw [← es] at h2 h3
        obtain ⟨q2, e2⟩ := h2.form
        obtain ⟨q3, e3⟩ := h3.form
        rw [← HN.out] at hr
        exact ⟨F', hr, c0, c1, ⟨q2, e2, by rw [← e2]; exact h2⟩, ⟨q3, e3, by rw [← e3]; exact h3⟩⟩)
      obtain ⟨m1, hm1⟩ : ∃ m, m = wStms s.entry := ⟨_, rfl⟩
      obtain ⟨m2, hm2⟩ : ∃ m, m = wStms s.exit := ⟨_, rfl⟩
      have hs1 := sumTo_step (fun i => wSt (ss.getD i st0)) (k := a) (m := m1 + m2) (by show wSt (ss.getD a st0) = _; rw [← es, hm1, hm2]; rfl)
      have hs2 := sumTo_le (fun i => wSt (ss.getD i st0)) (show a + 1 ≤ n from hlt)
      have hkk := HK.out
      have hww := HW.out
      have kb0 : 0 ≤ kk := by omega
      have kb1 : kk + 3 + 3 * m1 + 3 * m2 ≤ 1099511627776 := by omega
      have kb2 : kk ≤ 1099511627776 := by omega
      have S1 := hid hs1
      obtain ⟨F', hr, ⟨z0, c0⟩, ⟨z1, c1⟩, ⟨q2, e2, t2⟩, _⟩ := TW.out _ hm
      have d0 := hr.cell (i := a * 4) (by omega)
      have d1 := hr.cell (i := a * 4 + 1) (by omega)
      have d2 := hr.cell (i := a * 4 + 2) (by omega)
      have f0 := hr.frozen (a * 4)
      have f1 := hr.frozen (a * 4 + 1)
      rw [c0] at d0
      rw [c1] at d1
      rw [e2] at d2
      have RB := hid (row_block hr)
      have M2 : Hid (Mk L wr ((wr.setCell ⟨g, a * 4, none⟩ (.int .i64 kk)).setCell ⟨g, a * 4 + 1, none⟩ (.int .i64 (kk + 1)))) := hid (mk_set' (mk_set' (Mk.refl _ _) RB.out hL (.inr (.inr (.inl ⟨rfl, by omega⟩))) _) (set_block RB.out) hL (.inr (.inr (.inl ⟨rfl, by omega⟩))) _)
      have C1 := hid (markStmS_any L _ s.entry (kk + 1 + 1) _ (by omega) (by rw [← hm1]; omega) (M2.out.ts _ _ t2))
      have C2 := hid (fun v (kq : Int) w' (b0 : 0 ≤ kq) (b1 : kq + 3 * (m2 : Int) ≤ 1099511627776) (ht : TS w' L v s.exit) => markStmS_any L v s.exit kq w' b0 (by rw [← hm2]; exact b1) ht)
      rw [← hm1] at C1
      rw [← hm2] at C2
      have an : (a : Int) < (n : Int) := by omega
      clear es hr hm c0 c1 e2 hs1 hs2 hkk hww hm1 hm2 t2
      go_wp2_with (first | (go_at_call_of 114 (Value.slice (some ⟨q2, 0, none⟩) s.entry.length s.entry.length); refine C1.out.mono ?_; rintro e w1 ⟨k1, rfl, hk1, hmk1⟩; have N1 := hid (HM.out.trans (M2.out.trans hmk1)); have K1 := hid hk1; obtain ⟨F1, hr1, _, _, _, ⟨q3, e3, t3⟩⟩ := TW.out _ N1.out; have d3 := hr1.cell (i := a * 4 + 3) (by omega); rw [e3] at d3; have T3 := hid t3; have kc0 : 0 ≤ k1 := (by omega); have kc1 : k1 + 3 * (m2 : Int) ≤ 1099511627776 := (by omega); clear hk1 hmk1 hr1 e3 t3) | (go_at_call_of 114 (Value.int .i64 k1); refine (C2.out _ k1 _ kc0 kc1 T3.out).mono ?_; rintro e w2 ⟨k2, rfl, hk2, hmk2⟩; have N2 := hid (N1.out.trans hmk2); have K2 := hid hk2; clear hk2 hmk2))
      go_roundg (n - (a + 1))
      case measure => omega
      case rel =>
        have hkk := HK.out
        have hs1 := S1.out
        have h3 := K1.out
        have h4 := K2.out
        exact ⟨a + 1, k2, by omega, rfl, by go_num, rfl, hid (by rw [hs1]; omega), N2.out⟩
    · have e : a = n := by omega
      subst e
      clear hm
      go_wp2
      go_ret
      exact ⟨kk, rfl, by rw [HW.out]; exact HK.out, HM.out⟩
end Go.Proofs.YthaklmdhkkfigaaGreat
namespace Go.Proofs.YthaklmdhkkfigaaGreat
open Go.RowKit Go.Sort
attribute [local go_sem ↓] Go.wp_at_zero Go.wp_at_succ

set_option maxHeartbeats 1600000 in
theorem markTransS_any (L : Nat) (v : Value) (ss : List TrD) (k : Int) (w : World) (h0 : 0 ≤ k) (h1 : k + 3 * (wTrans ss : Nat) ≤ 1099511627776) (h : TR w L v ss) :
    Calls Tryz.prog 85 #[v, .int .i64 k] w fun e w' => ∃ k', e = .returned (.int .i64 k') ∧ (k ≤ k' ∧ k' ≤ k + 3 * (wTrans ss : Nat)) ∧ Mk L w w' := by
  have HT := hid h
  obtain ⟨g, F, hL, rfl, hr, hf⟩ := h
  obtain ⟨n, hn⟩ : ∃ n, n = ss.length := ⟨_, rfl⟩
  have HN := hid hn
  rw [← hn] at HT ⊢
  have HW : Hid ((wTrans ss : Nat) = n + sumTo (fun i => wTr (ss.getD i tr0)) n) := hid (by unfold wTrans; rw [hn])
  have hwn : n ≤ wTrans ss := by rw [HW.out]; omega
  clear hr hf hn
  go_enter Tryz.func85, Tryz.ntmps85
  go_wp2
  go_loopg [1, 5] n (fun mm kv i wr => ∃ (a : Nat) (kk : Int), a ≤ n ∧ mm = n - a ∧ i = .int .i64 a ∧ kv = .int .i64 kk ∧ Hid (k ≤ kk ∧ kk ≤ k + 3 * ((a + sumTo (fun i => wTr (ss.getD i tr0)) a : Nat) : Int)) ∧ Mk L w wr)
  case atStart => exact ⟨0, k, Nat.zero_le _, by omega, rfl, rfl, hid (by simp [sumTo]), Mk.refl _ _⟩
  case round =>
    obtain ⟨a, kk, ha, rfl, rfl, rfl, HK, hm⟩ := hrel
    have HM := hid hm
    by_cases hlt : a < n
    · obtain ⟨s, es⟩ : ∃ s, s = ss.getD a tr0 := ⟨_, rfl⟩
      have TW : Hid (∀ w', Mk L w w' → ∃ F', w'.rowIs g 200 (n * 5) F' ∧ (∃ z, F' (a * 5) = .int .i64 z) ∧ (∃ z, F' (a * 5 + 1) = .int .i64 z) ∧ (∃ q, F' (a * 5 + 2) = .slice (some ⟨q, 0, none⟩) s.guard.length s.guard.length ∧ TI w' L (.slice (some ⟨q, 0, none⟩) s.guard.length s.guard.length) s.guard.length) ∧ (∃ z, F' (a * 5 + 3) = .int .i64 z) ∧ (∃ q, F' (a * 5 + 4) = .slice (some ⟨q, 0, none⟩) s.action.length s.action.length ∧ TS w' L (.slice (some ⟨q, 0, none⟩) s.action.length s.action.length) s.action)) := hid (by
        intro w' hm'
        obtain ⟨g', F', hL', e, hr, hf⟩ := hm'.tr _ _ HT.out
        simp at e
        obtain ⟨rfl, _⟩ := e
        obtain ⟨c0, c1, h2, c3, h4⟩ := hf a (by rw [← HN.out]; exact hlt)
        rw [← es] at h2 h4
        obtain ⟨q2, e2⟩ := h2.form
        obtain ⟨q4, e4⟩ := h4.form
        rw [← HN.out] at hr
        exact ⟨F', hr, c0, c1, ⟨q2, e2, by rw [← e2]; exact h2⟩, c3, ⟨q4, e4, by rw [← e4]; exact h4⟩⟩)
      obtain ⟨m1, hm1⟩ : ∃ m, m = s.guard.length := ⟨_, rfl⟩
      obtain ⟨m2, hm2⟩ : ∃ m, m = wStms s.action := ⟨_, rfl⟩
      have hs1 := sumTo_step (fun i => wTr (ss.getD i tr0)) (k := a) (m := m1 + m2) (by show wTr (ss.getD a tr0) = _; rw [← es, hm1, hm2]; rfl)
      have hs2 := sumTo_le (fun i => wTr (ss.getD i tr0)) (show a + 1 ≤ n from hlt)
      have hkk := HK.out
      have hww := HW.out
      have kb0 : 0 ≤ kk := by omega
      have kb1 : kk + 3 + 3 * m1 + 3 * m2 ≤ 1099511627776 := by omega
      have kb2 : kk ≤ 1099511627776 := by omega
      have S1 := hid hs1
      rw [← hm1] at TW
      obtain ⟨F', hr, ⟨z0, c0⟩, ⟨z1, c1⟩, ⟨q2, e2, t2⟩, _⟩ := TW.out _ hm
      have d0 := hr.cell (i := a * 5) (by omega)
      have d1 := hr.cell (i := a * 5 + 1) (by omega)
      have d2 := hr.cell (i := a * 5 + 2) (by omega)
      have f0 := hr.frozen (a * 5)
      have f1 := hr.frozen (a * 5 + 1)
      rw [c0] at d0
      rw [c1] at d1
      rw [e2] at d2
      have RB := hid (row_block hr)
      have M2 : Hid (Mk L wr ((wr.setCell ⟨g, a * 5, none⟩ (.int .i64 kk)).setCell ⟨g, a * 5 + 1, none⟩ (.int .i64 (kk + 1)))) := hid (mk_set' (mk_set' (Mk.refl _ _) RB.out hL (.inr (.inr (.inr ⟨rfl, by omega, by omega⟩))) _) (set_block RB.out) hL (.inr (.inr (.inr ⟨rfl, by omega, by omega⟩))) _)
      have C1 := hid (markItemS_any L _ m1 (kk + 1 + 1) _ (by omega) (by omega) (M2.out.ti _ _ t2))
      have C2 := hid (fun v (kq : Int) w' (b0 : 0 ≤ kq) (b1 : kq + 3 * (m2 : Int) ≤ 1099511627776) (ht : TS w' L v s.action) => markStmS_any L v s.action kq w' b0 (by rw [← hm2]; exact b1) ht)
      rw [← hm2] at C2
      have an : (a : Int) < (n : Int) := by omega
      clear es hr hm c0 c1 e2 hs1 hs2 hkk hww hm1 hm2 t2
      go_wp2_with (first | (go_at_call 115; refine C1.out.mono ?_; rintro e w1 ⟨rfl, hmk1⟩; have N1 := hid (HM.out.trans (M2.out.trans hmk1)); obtain ⟨F1, hr1, _, _, _, ⟨z3, c3⟩, ⟨q4, e4, t4⟩⟩ := TW.out _ N1.out; have d3 := hr1.cell (i := a * 5 + 3) (by omega); rw [c3] at d3; have f3 := hr1.frozen (a * 5 + 3); have d4 := hr1.cell (i := a * 5 + 4) (by omega); rw [e4] at d4; have T4 := hid t4; have RB1 := hid (row_block hr1); clear hmk1 hr1 c3 e4 t4) | (go_at_call 114; refine (C2.out _ (kk + 1 + 1 + 2 * m1 + 1) _ (by omega) (by omega) ((mk_set' (Mk.refl _ _) RB1.out hL (.inr (.inr (.inr ⟨rfl, by omega, by omega⟩))) _).ts _ _ T4.out)).mono ?_; rintro e w2 ⟨k2, rfl, hk2, hmk2⟩; have N2 := hid ((mk_set' N1.out RB1.out hL (.inr (.inr (.inr ⟨rfl, by omega, by omega⟩))) _).trans hmk2); have K2 := hid hk2; clear hk2 hmk2))
      go_roundg (n - (a + 1))
      case measure => omega
      case rel =>
        have hkk := HK.out
        have hs1 := S1.out
        have h4 := K2.out
        exact ⟨a + 1, k2, by omega, rfl, by go_num, rfl, hid (by rw [hs1]; omega), N2.out⟩
    · have e : a = n := by omega
      subst e
      clear hm
      go_wp2
      go_ret
      exact ⟨kk, rfl, by rw [HW.out]; exact HK.out, HM.out⟩

theorem TI.of_below {w w' : World} {L : Nat} {v : Value} {n : Nat} (h : TI w L v n) (hb : Below w.heap.size w w') : TI w' L v n := by
  obtain ⟨g, F, h1, h2, h3, h4⟩ := h
  exact ⟨g, F, h1, h2, h3.of_block (hb.block _ h3.lt), h4⟩
theorem TS.of_below {w w' : World} {L : Nat} {v : Value} {ss : List StmD} (h : TS w L v ss) (hb : Below w.heap.size w w') : TS w' L v ss := by
  obtain ⟨g, F, h1, h2, h3, h4⟩ := h
  exact ⟨g, F, h1, h2, h3.of_block (hb.block _ h3.lt), fun i hi => ⟨(h4 i hi).1, (h4 i hi).2.1, (h4 i hi).2.2.1, (h4 i hi).2.2.2.of_below hb⟩⟩
theorem TT.of_below {w w' : World} {L : Nat} {v : Value} {ss : List StD} (h : TT w L v ss) (hb : Below w.heap.size w w') : TT w' L v ss := by
  obtain ⟨g, F, h1, h2, h3, h4⟩ := h
  exact ⟨g, F, h1, h2, h3.of_block (hb.block _ h3.lt), fun i hi => ⟨(h4 i hi).1, (h4 i hi).2.1, (h4 i hi).2.2.1.of_below hb, (h4 i hi).2.2.2.of_below hb⟩⟩
theorem TR.of_below {w w' : World} {L : Nat} {v : Value} {ss : List TrD} (h : TR w L v ss) (hb : Below w.heap.size w w') : TR w' L v ss := by
  obtain ⟨g, F, h1, h2, h3, h4⟩ := h
  exact ⟨g, F, h1, h2, h3.of_block (hb.block _ h3.lt), fun i hi => ⟨(h4 i hi).1, (h4 i hi).2.1, (h4 i hi).2.2.1.of_below hb, (h4 i hi).2.2.2.1, (h4 i hi).2.2.2.2.of_below hb⟩⟩

end Go.Proofs.YthaklmdhkkfigaaGreat
