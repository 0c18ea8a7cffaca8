import Derived.Test.YtjeckanjekgkkaaK6
namespace Go.Proofs.Ytjeckanjekgkkaa
open Go.RowKit Go.Sort
attribute [local go_sem ↓] Go.wp_at_zero Go.wp_at_succ

/-- Rows of the four kinds, whatever numbers they hold. -/
def TI (w : World) (L : Nat) (v : Value) (n : Nat) : Prop :=
  ∃ g F, L ≤ g ∧ v = .slice (some ⟨g, 0, none⟩) n n ∧ w.rowIs g 102 (n * 2) F ∧ ∀ j, j < n * 2 → ∃ z, F j = .int .i64 z
def TS (w : World) (L : Nat) (v : Value) (ss : List StmD) : Prop :=
  ∃ g F, L ≤ g ∧ v = .slice (some ⟨g, 0, none⟩) ss.length ss.length ∧ w.rowIs g 100 (ss.length * 4) F ∧
    ∀ i, i < ss.length → (∃ z, F (i * 4) = .int .i64 z) ∧ (∃ z, F (i * 4 + 1) = .int .i64 z) ∧ (∃ z, F (i * 4 + 2) = .int .i64 z) ∧ TI w L (F (i * 4 + 3)) (ss.getD i stm0).code.length
def TT (w : World) (L : Nat) (v : Value) (ss : List StD) : Prop :=
  ∃ g F, L ≤ g ∧ v = .slice (some ⟨g, 0, none⟩) ss.length ss.length ∧ w.rowIs g 74 (ss.length * 4) F ∧
    ∀ i, i < ss.length → (∃ z, F (i * 4) = .int .i64 z) ∧ (∃ z, F (i * 4 + 1) = .int .i64 z) ∧ TS w L (F (i * 4 + 2)) (ss.getD i st0).entry ∧ TS w L (F (i * 4 + 3)) (ss.getD i st0).exit
def TR (w : World) (L : Nat) (v : Value) (ss : List TrD) : Prop :=
  ∃ g F, L ≤ g ∧ v = .slice (some ⟨g, 0, none⟩) ss.length ss.length ∧ w.rowIs g 78 (ss.length * 5) F ∧
    ∀ i, i < ss.length → (∃ z, F (i * 5) = .int .i64 z) ∧ (∃ z, F (i * 5 + 1) = .int .i64 z) ∧ TI w L (F (i * 5 + 2)) (ss.getD i tr0).guard.length ∧ (∃ z, F (i * 5 + 3) = .int .i64 z) ∧ TS w L (F (i * 5 + 4)) (ss.getD i tr0).action

theorem IRow.ti {w : World} {L : Nat} {v : Value} {its : List (Int × Int)} (h : IRow w L v its) : TI w L v its.length := by
  obtain ⟨g, hg, e, hr⟩ := h
  refine ⟨g, _, hg, e, hr, fun j _ => ?_⟩
  unfold icell
  split <;> exact ⟨_, rfl⟩
theorem SRow.ts {w : World} {L : Nat} {v : Value} {ss : List StmD} (h : SRow w L v ss) : TS w L v ss := by
  obtain ⟨g, F, hg, e, hr, hc⟩ := h
  exact ⟨g, F, hg, e, hr, fun i hi => ⟨⟨_, (hc i hi).1⟩, ⟨_, (hc i hi).2.1⟩, ⟨_, (hc i hi).2.2.1⟩, (hc i hi).2.2.2.ti⟩⟩
theorem StRow.tt {w : World} {L : Nat} {v : Value} {ss : List StD} (h : StRow w L v ss) : TT w L v ss := by
  obtain ⟨g, F, hg, e, hr, hc⟩ := h
  exact ⟨g, F, hg, e, hr, fun i hi => ⟨⟨_, (hc i hi).1⟩, ⟨_, (hc i hi).2.1⟩, (hc i hi).2.2.1.ts, (hc i hi).2.2.2.ts⟩⟩
theorem TrRow.tr {w : World} {L : Nat} {v : Value} {ss : List TrD} (h : TrRow w L v ss) : TR w L v ss := by
  obtain ⟨g, F, hg, e, hr, hc⟩ := h
  exact ⟨g, F, hg, e, hr, fun i hi => ⟨⟨_, (hc i hi).1⟩, ⟨_, (hc i hi).2.1⟩, (hc i hi).2.2.1.ti, ⟨_, (hc i hi).2.2.2.1⟩, (hc i hi).2.2.2.2.ts⟩⟩

/-- What a marking leaves. -/
structure Mk (L : Nat) (w w' : World) : Prop where
  os : w'.os = w.os
  tape : w'.tape = w.tape
  output : w'.output = w.output
  size : w'.heap.size = w.heap.size
  low : ∀ k, k < L → w'.heap[k]? = w.heap[k]?
  other : ∀ (k : Nat) (cs : Array Value) (t : TypeId) (fr : Nat × Nat), w.heap[k]? = some (Obj.cells cs t fr) → t ≠ 102 → t ≠ 100 → t ≠ 74 → t ≠ 78 → w'.heap[k]? = w.heap[k]?
  ti : ∀ v n, TI w L v n → TI w' L v n
  ts : ∀ v ss, TS w L v ss → TS w' L v ss
  tt : ∀ v ss, TT w L v ss → TT w' L v ss
  tr : ∀ v ss, TR w L v ss → TR w' L v ss
theorem Mk.refl (L : Nat) (w : World) : Mk L w w := ⟨rfl, rfl, rfl, rfl, fun _ _ => rfl, fun _ _ _ _ _ _ _ _ _ => rfl, fun _ _ h => h, fun _ _ h => h, fun _ _ h => h, fun _ _ h => h⟩
theorem Mk.trans {L : Nat} {a b c : World} (h : Mk L a b) (k : Mk L b c) : Mk L a c :=
  ⟨k.os.trans h.os, k.tape.trans h.tape, k.output.trans h.output, k.size.trans h.size, fun i hi => (k.low i hi).trans (h.low i hi),
    fun i cs t fr e h1 h2 h3 h4 => (k.other i cs t fr ((h.other i cs t fr e h1 h2 h3 h4).trans e) h1 h2 h3 h4).trans (h.other i cs t fr e h1 h2 h3 h4),
    fun v n x => k.ti v n (h.ti v n x), fun v n x => k.ts v n (h.ts v n x), fun v n x => k.tt v n (h.tt v n x), fun v n x => k.tr v n (h.tr v n x)⟩
theorem Mk.below {L : Nat} {w w' : World} (h : Mk L w w') : Below L w w' := ⟨h.os, h.tape, h.output, Nat.le_of_eq h.size.symm, h.low⟩

/-- Which cells of a row of that kind hold numbers. -/
def numAt (t : TypeId) (o : Nat) : Prop := t = 102 ∨ (t = 100 ∧ o % 4 ≠ 3) ∨ (t = 74 ∧ o % 4 < 2) ∨ (t = 78 ∧ o % 5 ≠ 2 ∧ o % 5 ≠ 4)

theorem row_tag {w : World} {g : Nat} {t t' : TypeId} {cur : Array Value} {n : Nat} {F : Nat → Value} (h : w.rowIs g t n F) (hg : w.heap[g]? = some (.cells cur t' (0, 0))) : t' = t := by
  obtain ⟨cs, h1, _⟩ := h
  rw [hg] at h1
  simp at h1
  exact h1.2
theorem mk_set {L : Nat} {w : World} {g o : Nat} {t : TypeId} {cur : Array Value} (hg : w.heap[g]? = some (.cells cur t (0, 0))) (hL : L ≤ g) (ht : numAt t o) (z : Int) : Mk L w (w.setCell ⟨g, o, none⟩ (.int .i64 z)) := by
  have other : ∀ k, k ≠ g → (w.setCell ⟨g, o, none⟩ (.int .i64 z)).heap[k]? = w.heap[k]? := fun k hk => Below.heap_setCell _ _ _ _ (by simpa using hk)
  have ti : ∀ v n, TI w L v n → TI (w.setCell ⟨g, o, none⟩ (.int .i64 z)) L v n := by
    rintro v n ⟨g', F, h1, h2, h3, h4⟩
    by_cases e : g' = g
    · subst e
      refine ⟨g', _, h1, h2, h3.set o _, fun j hj => ?_⟩
      by_cases ej : j = o
      · exact ⟨z, by simp [ej]⟩
      · obtain ⟨y, hy⟩ := h4 j hj
        exact ⟨y, by simp [ej, hy]⟩
    · exact ⟨g', F, h1, h2, h3.of_block (other g' e), h4⟩
  have ts : ∀ v ss, TS w L v ss → TS (w.setCell ⟨g, o, none⟩ (.int .i64 z)) L v ss := by
    rintro v ss ⟨g', F, h1, h2, h3, h4⟩
    by_cases e : g' = g
    · subst e
      have tg := row_tag h3 hg
      subst tg
      have ho : o % 4 ≠ 3 := by
        rcases ht with h | h | h | h
        · exact absurd h (by decide)
        · exact h.2
        · exact absurd h.1 (by decide)
        · exact absurd h.1 (by decide)
      refine ⟨g', _, h1, h2, h3.set o _, fun i hi => ?_⟩
      obtain ⟨⟨a, ha⟩, ⟨b, hb⟩, ⟨c, hc⟩, hd⟩ := h4 i hi
      have e3 : ¬ i * 4 + 3 = o := by omega
      refine ⟨?_, ?_, ?_, ?_⟩
      · by_cases x : i * 4 = o
        · exact ⟨z, by simp [x]⟩
        · exact ⟨a, by simp [x, ha]⟩
      · by_cases x : i * 4 + 1 = o
        · exact ⟨z, by simp [x]⟩
        · exact ⟨b, by simp [x, hb]⟩
      · by_cases x : i * 4 + 2 = o
        · exact ⟨z, by simp [x]⟩
        · exact ⟨c, by simp [x, hc]⟩
      · simpa [e3] using ti _ _ hd
    · exact ⟨g', F, h1, h2, h3.of_block (other g' e), fun i hi => ⟨(h4 i hi).1, (h4 i hi).2.1, (h4 i hi).2.2.1, ti _ _ (h4 i hi).2.2.2⟩⟩
  have tt : ∀ v ss, TT w L v ss → TT (w.setCell ⟨g, o, none⟩ (.int .i64 z)) L v ss := by
    rintro v ss ⟨g', F, h1, h2, h3, h4⟩
    by_cases e : g' = g
    · subst e
      have tg := row_tag h3 hg
      subst tg
      have ho : o % 4 < 2 := by
        rcases ht with h | h | h | h
        · exact absurd h (by decide)
        · exact absurd h.1 (by decide)
        · exact h.2
        · exact absurd h.1 (by decide)
      refine ⟨g', _, h1, h2, h3.set o _, fun i hi => ?_⟩
      obtain ⟨⟨a, ha⟩, ⟨b, hb⟩, hc, hd⟩ := h4 i hi
      have e2 : ¬ i * 4 + 2 = o := by omega
      have e3 : ¬ i * 4 + 3 = o := by omega
      refine ⟨?_, ?_, ?_, ?_⟩
      · by_cases x : i * 4 = o
        · exact ⟨z, by simp [x]⟩
        · exact ⟨a, by simp [x, ha]⟩
      · by_cases x : i * 4 + 1 = o
        · exact ⟨z, by simp [x]⟩
        · exact ⟨b, by simp [x, hb]⟩
      · simpa [e2] using ts _ _ hc
      · simpa [e3] using ts _ _ hd
    · exact ⟨g', F, h1, h2, h3.of_block (other g' e), fun i hi => ⟨(h4 i hi).1, (h4 i hi).2.1, ts _ _ (h4 i hi).2.2.1, ts _ _ (h4 i hi).2.2.2⟩⟩
  have tr : ∀ v ss, TR w L v ss → TR (w.setCell ⟨g, o, none⟩ (.int .i64 z)) L v ss := by
    rintro v ss ⟨g', F, h1, h2, h3, h4⟩
    by_cases e : g' = g
    · subst e
      have tg := row_tag h3 hg
      subst tg
      have ho : o % 5 ≠ 2 ∧ o % 5 ≠ 4 := by
        rcases ht with h | h | h | h
        · exact absurd h (by decide)
        · exact absurd h.1 (by decide)
        · exact absurd h.1 (by decide)
        · exact h.2
      refine ⟨g', _, h1, h2, h3.set o _, fun i hi => ?_⟩
      obtain ⟨⟨a, ha⟩, ⟨b, hb⟩, hc, ⟨d, hd⟩, he⟩ := h4 i hi
      have e2 : ¬ i * 5 + 2 = o := by omega
      have e4 : ¬ i * 5 + 4 = o := by omega
      refine ⟨?_, ?_, ?_, ?_, ?_⟩
      · by_cases x : i * 5 = o
        · exact ⟨z, by simp [x]⟩
        · exact ⟨a, by simp [x, ha]⟩
      · by_cases x : i * 5 + 1 = o
        · exact ⟨z, by simp [x]⟩
        · exact ⟨b, by simp [x, hb]⟩
      · simpa [e2] using ti _ _ hc
      · by_cases x : i * 5 + 3 = o
        · exact ⟨z, by simp [x]⟩
        · exact ⟨d, by simp [x, hd]⟩
      · simpa [e4] using ts _ _ he
    · exact ⟨g', F, h1, h2, h3.of_block (other g' e), fun i hi => ⟨(h4 i hi).1, (h4 i hi).2.1, ti _ _ (h4 i hi).2.2.1, (h4 i hi).2.2.2.1, ts _ _ (h4 i hi).2.2.2.2⟩⟩
  refine ⟨rfl, rfl, rfl, by simp, fun k hk => other k (by omega), fun k cs t' fr e h1 h2 h3 h4 => other k ?_, ti, ts, tt, tr⟩
  rintro rfl
  rw [hg] at e
  simp at e
  obtain ⟨_, rfl, _⟩ := e
  rcases ht with h | h | h | h
  · exact h1 h
  · exact h2 h.1
  · exact h3 h.1
  · exact h4 h.1
theorem row_block {w : World} {g : Nat} {t : TypeId} {n : Nat} {F : Nat → Value} (h : w.rowIs g t n F) : ∃ cur, w.heap[g]? = some (.cells cur t (0, 0)) := by
  obtain ⟨cs, h1, _⟩ := h
  exact ⟨cs, h1⟩
theorem set_block {w : World} {g o : Nat} {t : TypeId} {v : Value} (h : ∃ cur, w.heap[g]? = some (.cells cur t (0, 0))) : ∃ cur, (w.setCell ⟨g, o, none⟩ v).heap[g]? = some (.cells cur t (0, 0)) := by
  obtain ⟨cur, h1⟩ := h
  exact ⟨_, heap_setCell_same w g o cur t v h1⟩
theorem mk_set' {L : Nat} {w0 w : World} {g o : Nat} {t : TypeId} (h : Mk L w0 w) (hg : ∃ cur, w.heap[g]? = some (.cells cur t (0, 0))) (hL : L ≤ g) (ht : numAt t o) (z : Int) : Mk L w0 (w.setCell ⟨g, o, none⟩ (.int .i64 z)) := by
  obtain ⟨cur, h1⟩ := hg
  exact h.trans (mk_set h1 hL ht z)

set_option maxHeartbeats 800000 in
theorem markItemS_any (L : Nat) (v : Value) (n : Nat) (k : Int) (w : World) (h0 : 0 ≤ k) (h1 : k + 2 * n ≤ 1099511627776) (h : TI w L v n) :
    Calls Try.prog 47 #[v, .int .i64 k] w fun e w' => e = .returned (.int .i64 (k + 2 * n)) ∧ Mk L w w' := by
  have HT := hid h
  obtain ⟨g, F, hL, rfl, hr, hf⟩ := h
  clear hr hf
  go_enter Try.func47, Try.ntmps47
  go_wp2
  go_loopw [1, 5] (fun kv i wr => ∃ a : Nat, a ≤ n ∧ i = .int .i64 a ∧ kv = .int .i64 (k + 2 * a) ∧ Mk L w wr) (fun _ i _ => n - (intOf i).toNat)
  case atStart => exact ⟨0, Nat.zero_le _, rfl, by simp, Mk.refl _ _⟩
  case round =>
    obtain ⟨a, ha, rfl, rfl, hm⟩ := hrel
    have HM := hid hm
    by_cases hlt : a < n
    · obtain ⟨g', F', hL', e, hr, hf⟩ := hm.ti _ _ HT.out
      simp at e
      subst e
      obtain ⟨z0, c0⟩ := hf (a * 2) (by omega)
      obtain ⟨z1, c1⟩ := hf (a * 2 + 1) (by omega)
      have d0 := hr.cell (i := a * 2) (by omega)
      have d1 := hr.cell (i := a * 2 + 1) (by omega)
      have f0 := hr.frozen (a * 2)
      have f1 := hr.frozen (a * 2 + 1)
      rw [c0] at d0
      rw [c1] at d1
      have RB := hid (row_block hr)
      have an : (a : Int) < (n : Int) := by omega
      clear hr hf hm c0 c1
      obtain ⟨kk, hkk⟩ : ∃ kk, kk = k + 2 * (a : Int) := ⟨_, rfl⟩
      have HK := hid hkk
      have kb0 : 0 ≤ kk := by omega
      have kb1 : kk ≤ 1099511627776 := by omega
      rw [← hkk]
      clear hkk
      go_wp2
      go_roundw
      case rel =>
        refine ⟨a + 1, by omega, by go_num, ?_, mk_set' (mk_set' HM.out RB.out hL (.inl rfl) _) (set_block RB.out) hL (.inl rfl) _⟩
        have := HK.out
        first | (congr 1; omega) | (simp; omega)
      case measure => simp [intOf]; omega
    · have e : a = n := by omega
      subst e
      clear hm
      go_wp2
      go_ret
      exact ⟨rfl, HM.out⟩
end Go.Proofs.Ytjeckanjekgkkaa
