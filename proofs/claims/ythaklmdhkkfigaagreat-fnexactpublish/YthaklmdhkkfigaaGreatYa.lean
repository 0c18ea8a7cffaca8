import Derived.Test.YthaklmdhkkfigaaGreatKb
import Derived.Test.YthaklmdhkkfigaaGreatXa
import Derived.Test.YthaklmdhkkfigaaGreatT4
namespace Go.Proofs.YthaklmdhkkfigaaGreat
open Go.RowKit Go.Sort
set_option linter.unusedVariables false

def notC (t : TypeId) : Prop := t ≠ 225 ∧ t ≠ 223 ∧ t ≠ 196 ∧ t ≠ 200
def notR (t : TypeId) : Prop := t ≠ 3 ∧ t ≠ 70 ∧ t ≠ 115 ∧ t ≠ 134
/-- A row of numbers, its block in an interval. -/
def TN (w : World) (L U : Nat) (t : TypeId) (sz : Nat) (v : Value) (n : Nat) : Prop :=
  ∃ g F, (L ≤ g ∧ g < U) ∧ v = .slice (some ⟨g, 0, none⟩) n n ∧ w.rowIs g t (n * sz) F ∧ ∀ j, j < n * sz → ∃ z, F j = .int .i64 z
/-- A row of objects. -/
def TO (w : World) (L U : Nat) (v : Value) (os : List ObD) : Prop :=
  ∃ g F, (L ≤ g ∧ g < U) ∧ v = .slice (some ⟨g, 0, none⟩) os.length os.length ∧ w.rowIs g 134 (os.length * 8) F ∧
    ∀ i, i < os.length → ((∃ z, F (i * 8) = .int .i64 z) ∧ (∃ z, F (i * 8 + 1) = .int .i64 z) ∧ (∃ z, F (i * 8 + 2) = .int .i64 z)) ∧
      (TN w L U 3 1 (F (i * 8 + 3)) (os.getD i ob0).kinds.length ∧ TN w L U 3 1 (F (i * 8 + 4)) (os.getD i ob0).vals.length ∧ TN w L U 3 1 (F (i * 8 + 5)) (os.getD i ob0).subs.length) ∧
      TT w L (F (i * 8 + 6)) (os.getD i ob0).sts ∧ TR w L (F (i * 8 + 7)) (os.getD i ob0).trs
/-- What a marking of a system or a kernel leaves. -/
structure Mj (L U : Nat) (w w' : World) : Prop where
  os : w'.os = w.os
  tape : w'.tape = w.tape
  output : w'.output = w.output
  size : w'.heap.size = w.heap.size
  low : ∀ k, k < L → w'.heap[k]? = w.heap[k]?
  other : ∀ (k : Nat) (cs : Array Value) (t : TypeId) (fr : Nat × Nat), w.heap[k]? = some (Obj.cells cs t fr) → notC t → (U ≤ k ∨ notR t) → w'.heap[k]? = w.heap[k]?
  ti : ∀ v n, TI w L v n → TI w' L v n
  ts : ∀ v ss, TS w L v ss → TS w' L v ss
  tt : ∀ v ss, TT w L v ss → TT w' L v ss
  tr : ∀ v ss, TR w L v ss → TR w' L v ss
  tn : ∀ t sz v n, notC t → TN w L U t sz v n → TN w' L U t sz v n
  ob : ∀ v os, TO w L U v os → TO w' L U v os
theorem Mj.refl (L U : Nat) (w : World) : Mj L U w w := ⟨rfl, rfl, rfl, rfl, fun _ _ => rfl, fun _ _ _ _ _ _ _ => rfl, fun _ _ h => h, fun _ _ h => h, fun _ _ h => h, fun _ _ h => h, fun _ _ _ _ _ h => h, fun _ _ h => h⟩
theorem Mj.trans {L U : Nat} {a b c : World} (h : Mj L U a b) (k : Mj L U b c) : Mj L U a c :=
  ⟨k.os.trans h.os, k.tape.trans h.tape, k.output.trans h.output, k.size.trans h.size, fun i hi => (k.low i hi).trans (h.low i hi),
    fun i cs t fr e h1 h2 => (k.other i cs t fr ((h.other i cs t fr e h1 h2).trans e) h1 h2).trans (h.other i cs t fr e h1 h2),
    fun v n x => k.ti v n (h.ti v n x), fun v n x => k.ts v n (h.ts v n x), fun v n x => k.tt v n (h.tt v n x), fun v n x => k.tr v n (h.tr v n x), fun t sz v n ht x => k.tn t sz v n ht (h.tn t sz v n ht x), fun v os x => k.ob v os (h.ob v os x)⟩
theorem Mj.below {L U : Nat} {w w' : World} (h : Mj L U w w') : Below L w w' := ⟨h.os, h.tape, h.output, Nat.le_of_eq h.size.symm, h.low⟩
theorem Mj.box {L U : Nat} {w w' : World} {H : Nat} {cs : Array Value} {t : TypeId} {fr : Nat × Nat} (h : Mj L U w w') (hb : w.heap[H]? = some (.cells cs t fr)) (h1 : notC t) (h2 : U ≤ H ∨ notR t) : w'.heap[H]? = some (.cells cs t fr) := (h.other H cs t fr hb h1 h2).trans hb
section
variable {w w' : World} {L U : Nat}
theorem TI.keep (hk : ∀ (b : Nat) (cs : Array Value) (t : TypeId), w.heap[b]? = some (.cells cs t (0, 0)) → ¬ notC t → w'.heap[b]? = w.heap[b]?) {v : Value} {n : Nat} (h : TI w L v n) : TI w' L v n := by
  obtain ⟨g, F, h1, h2, h3, h4⟩ := h
  obtain ⟨cs, e⟩ := row_block h3
  exact ⟨g, F, h1, h2, h3.of_block (hk g cs _ e (fun x => x.1 rfl)), h4⟩
theorem TS.keep (hk : ∀ (b : Nat) (cs : Array Value) (t : TypeId), w.heap[b]? = some (.cells cs t (0, 0)) → ¬ notC t → w'.heap[b]? = w.heap[b]?) {v : Value} {ss : List StmD} (h : TS w L v ss) : TS w' L v ss := by
  obtain ⟨g, F, h1, h2, h3, h4⟩ := h
  obtain ⟨cs, e⟩ := row_block h3
  exact ⟨g, F, h1, h2, h3.of_block (hk g cs _ e (fun x => x.2.1 rfl)), fun i hi => ⟨(h4 i hi).1, (h4 i hi).2.1, (h4 i hi).2.2.1, (h4 i hi).2.2.2.keep hk⟩⟩
theorem TT.keep (hk : ∀ (b : Nat) (cs : Array Value) (t : TypeId), w.heap[b]? = some (.cells cs t (0, 0)) → ¬ notC t → w'.heap[b]? = w.heap[b]?) {v : Value} {ss : List StD} (h : TT w L v ss) : TT w' L v ss := by
  obtain ⟨g, F, h1, h2, h3, h4⟩ := h
  obtain ⟨cs, e⟩ := row_block h3
  exact ⟨g, F, h1, h2, h3.of_block (hk g cs _ e (fun x => x.2.2.1 rfl)), fun i hi => ⟨(h4 i hi).1, (h4 i hi).2.1, (h4 i hi).2.2.1.keep hk, (h4 i hi).2.2.2.keep hk⟩⟩
theorem TR.keep (hk : ∀ (b : Nat) (cs : Array Value) (t : TypeId), w.heap[b]? = some (.cells cs t (0, 0)) → ¬ notC t → w'.heap[b]? = w.heap[b]?) {v : Value} {ss : List TrD} (h : TR w L v ss) : TR w' L v ss := by
  obtain ⟨g, F, h1, h2, h3, h4⟩ := h
  obtain ⟨cs, e⟩ := row_block h3
  exact ⟨g, F, h1, h2, h3.of_block (hk g cs _ e (fun x => x.2.2.2 rfl)), fun i hi => ⟨(h4 i hi).1, (h4 i hi).2.1, (h4 i hi).2.2.1.keep hk, (h4 i hi).2.2.2.1, (h4 i hi).2.2.2.2.keep hk⟩⟩
theorem TN.form {t : TypeId} {sz : Nat} {v : Value} {n : Nat} (h : TN w L U t sz v n) : ∃ q, v = .slice (some ⟨q, 0, none⟩) n n := by obtain ⟨g, F, _, e, _⟩ := h; exact ⟨g, e⟩
theorem TN.of_below {t : TypeId} {sz : Nat} {v : Value} {n : Nat} (h : TN w L U t sz v n) (hb : Below w.heap.size w w') : TN w' L U t sz v n := by
  obtain ⟨g, F, h1, h2, h3, h4⟩ := h
  exact ⟨g, F, h1, h2, h3.of_block (hb.block _ h3.lt), h4⟩
theorem TO.of_below {v : Value} {os : List ObD} (h : TO w L U v os) (hb : Below w.heap.size w w') : TO w' L U v os := by
  obtain ⟨g, F, h1, h2, h3, h4⟩ := h
  exact ⟨g, F, h1, h2, h3.of_block (hb.block _ h3.lt), fun i hi => ⟨(h4 i hi).1, ⟨(h4 i hi).2.1.1.of_below hb, (h4 i hi).2.1.2.1.of_below hb, (h4 i hi).2.1.2.2.of_below hb⟩, (h4 i hi).2.2.1.of_below hb, (h4 i hi).2.2.2.of_below hb⟩⟩
end
theorem Mk.mj {L U : Nat} {w w' : World} (h : Mk L w w') : Mj L U w w' := by
  have tn : ∀ t sz v n, notC t → TN w L U t sz v n → TN w' L U t sz v n := by
    rintro t sz v n ht ⟨g, F, h1, h2, h3, h4⟩
    obtain ⟨cs, e⟩ := row_block h3
    exact ⟨g, F, h1, h2, h3.of_block (h.other g cs t _ e ht.1 ht.2.1 ht.2.2.1 ht.2.2.2), h4⟩
  refine ⟨h.os, h.tape, h.output, h.size, h.low, fun k cs t fr e h1 _ => h.other k cs t fr e h1.1 h1.2.1 h1.2.2.1 h1.2.2.2, h.ti, h.ts, h.tt, h.tr, tn, ?_⟩
  rintro v os ⟨g, F, h1, h2, h3, h4⟩
  obtain ⟨cs, e⟩ := row_block h3
  have ci : notC 3 := ⟨by decide, by decide, by decide, by decide⟩
  exact ⟨g, F, h1, h2, h3.of_block (h.other g cs _ _ e (by decide) (by decide) (by decide) (by decide)), fun i hi => ⟨(h4 i hi).1, ⟨tn _ _ _ _ ci (h4 i hi).2.1.1, tn _ _ _ _ ci (h4 i hi).2.1.2.1, tn _ _ _ _ ci (h4 i hi).2.1.2.2⟩, h.tt _ _ (h4 i hi).2.2.1, h.tr _ _ (h4 i hi).2.2.2⟩⟩
/-- Which cells of a row of that kind hold numbers. -/
def numR (t : TypeId) (o : Nat) : Prop := t = 3 ∨ t = 70 ∨ t = 115 ∨ (t = 134 ∧ o % 8 < 3)
theorem numR.c {t : TypeId} {o : Nat} (h : numR t o) : notC t := by
  rcases h with rfl | rfl | rfl | ⟨rfl, _⟩ <;> exact ⟨by decide, by decide, by decide, by decide⟩
theorem numR.r {t : TypeId} {o : Nat} (h : numR t o) : ¬ notR t := by
  rcases h with rfl | rfl | rfl | ⟨rfl, _⟩
  · exact fun x => x.1 rfl
  · exact fun x => x.2.1 rfl
  · exact fun x => x.2.2.1 rfl
  · exact fun x => x.2.2.2 rfl
theorem mj_set {L U : Nat} {w : World} {g o : Nat} {t : TypeId} {cur : Array Value} (hg : w.heap[g]? = some (.cells cur t (0, 0))) (hL : L ≤ g) (hU : g < U) (ht : numR t o) (z : Int) : Mj L U w (w.setCell ⟨g, o, none⟩ (.int .i64 z)) := by
  have other : ∀ k, k ≠ g → (w.setCell ⟨g, o, none⟩ (.int .i64 z)).heap[k]? = w.heap[k]? := fun k hk => Below.heap_setCell _ _ _ _ (by simpa using hk)
  have hk : ∀ (b : Nat) (cs : Array Value) (t' : TypeId), w.heap[b]? = some (.cells cs t' (0, 0)) → ¬ notC t' → (w.setCell ⟨g, o, none⟩ (.int .i64 z)).heap[b]? = w.heap[b]? := by
    intro b cs t' hb hn
    refine other b ?_
    rintro rfl
    rw [hg] at hb
    simp at hb
    exact hn (hb.2 ▸ ht.c)
  have tn : ∀ t' sz v n, notC t' → TN w L U t' sz v n → TN (w.setCell ⟨g, o, none⟩ (.int .i64 z)) L U t' sz v n := by
    rintro t' sz v n _ ⟨g', F, h1, h2, h3, h4⟩
    by_cases e : g' = g
    · subst e
      refine ⟨g', _, h1, h2, h3.set o _, fun j hj => ?_⟩
      by_cases ej : j = o
      · exact ⟨z, by simp [ej]⟩
      · obtain ⟨y, hy⟩ := h4 j hj
        exact ⟨y, by simp [ej, hy]⟩
    · exact ⟨g', F, h1, h2, h3.of_block (other g' e), h4⟩
  have ci : notC 3 := ⟨by decide, by decide, by decide, by decide⟩
  refine ⟨rfl, rfl, rfl, by simp, fun k hk => other k (by omega), fun k cs t' fr e h1 h2 => other k ?_, fun _ _ x => x.keep hk, fun _ _ x => x.keep hk, fun _ _ x => x.keep hk, fun _ _ x => x.keep hk, tn, ?_⟩
  · rintro rfl
    rw [hg] at e
    simp at e
    rcases h2 with h2 | h2
    · omega
    · exact ht.r (e.2.1 ▸ h2)
  · rintro v os ⟨g', F, h1, h2, h3, h4⟩
    by_cases e : g' = g
    · subst e
      have tg := row_tag h3 hg
      subst tg
      have ho : o % 8 < 3 := by
        rcases ht with h | h | h | h
        · exact absurd h (by decide)
        · exact absurd h (by decide)
        · exact absurd h (by decide)
        · exact h.2
      refine ⟨g', _, h1, h2, h3.set o _, fun i hi => ?_⟩
      obtain ⟨⟨⟨a, ha⟩, ⟨b, hb⟩, ⟨c, hc⟩⟩, ⟨n3, n4, n5⟩, n6, n7⟩ := h4 i hi
      have e3 : ¬ i * 8 + 3 = o := by omega
      have e4 : ¬ i * 8 + 4 = o := by omega
      have e5 : ¬ i * 8 + 5 = o := by omega
      have e6 : ¬ i * 8 + 6 = o := by omega
      have e7 : ¬ i * 8 + 7 = o := by omega
      refine ⟨⟨?_, ?_, ?_⟩, ⟨?_, ?_, ?_⟩, ?_, ?_⟩
      · by_cases x : i * 8 = o
        · exact ⟨z, by simp [x]⟩
        · exact ⟨a, by simp [x, ha]⟩
      · by_cases x : i * 8 + 1 = o
        · exact ⟨z, by simp [x]⟩
        · exact ⟨b, by simp [x, hb]⟩
      · by_cases x : i * 8 + 2 = o
        · exact ⟨z, by simp [x]⟩
        · exact ⟨c, by simp [x, hc]⟩
      · simpa [e3] using tn _ _ _ _ ci n3
      · simpa [e4] using tn _ _ _ _ ci n4
      · simpa [e5] using tn _ _ _ _ ci n5
      · simpa [e6] using n6.keep hk
      · simpa [e7] using n7.keep hk
    · exact ⟨g', F, h1, h2, h3.of_block (other g' e), fun i hi => ⟨(h4 i hi).1, ⟨tn _ _ _ _ ci (h4 i hi).2.1.1, tn _ _ _ _ ci (h4 i hi).2.1.2.1, tn _ _ _ _ ci (h4 i hi).2.1.2.2⟩, (h4 i hi).2.2.1.keep hk, (h4 i hi).2.2.2.keep hk⟩⟩
theorem mj_set' {L U : Nat} {w0 w : World} {g o : Nat} {t : TypeId} (h : Mj L U w0 w) (hg : ∃ cur, w.heap[g]? = some (.cells cur t (0, 0))) (hL : L ≤ g ∧ g < U) (ht : numR t o) (z : Int) : Mj L U w0 (w.setCell ⟨g, o, none⟩ (.int .i64 z)) := by
  obtain ⟨cur, h1⟩ := hg
  exact h.trans (mj_set h1 hL.1 hL.2 ht z)
end Go.Proofs.YthaklmdhkkfigaaGreat
namespace Go.Proofs.YthaklmdhkkfigaaGreat
open Go.RowKit Go.Sort
set_option linter.unusedVariables false
attribute [local go_sem ↓] Go.wp_at_zero Go.wp_at_succ

set_option maxHeartbeats 800000 in
theorem markInt_mj (L U : Nat) (v : Value) (n : Nat) (k : Int) (w : World) (h0 : 0 ≤ k) (h1 : k + n ≤ 1099511627776) (h : TN w L U 3 1 v n) :
    Calls Tryz.prog 51 #[v, .int .i64 k] w fun e w' => e = .returned (.int .i64 (k + n)) ∧ Mj L U w w' := by
  have HT := hid h
  obtain ⟨g, F, hL, rfl, hr, hf⟩ := h
  have HLU := hid hL
  clear hr hf hL
  go_enter Tryz.func51, Tryz.ntmps51
  go_wp2
  go_loopw [1, 5] (fun kv i wr => ∃ a : Nat, a ≤ n ∧ i = .int .i64 a ∧ kv = .int .i64 (k + a) ∧ Mj L U w wr) (fun _ i _ => n - (intOf i).toNat)
  case atStart => exact ⟨0, Nat.zero_le _, rfl, by simp, Mj.refl _ _ _⟩
  case round =>
    obtain ⟨a, ha, rfl, rfl, hm⟩ := hrel
    have HM := hid hm
    by_cases hlt : a < n
    · obtain ⟨g', F', hL', e, hr, hf⟩ := hm.tn _ _ _ _ ⟨by decide, by decide, by decide, by decide⟩ HT.out
      simp at e
      subst e
      obtain ⟨z0, c0⟩ := hf (a) (by omega)
      have d0 := hr.cell (i := a) (by omega)
      have f0 := hr.frozen (a)
      rw [c0] at d0
      have RB := hid (row_block hr)
      have an : (a : Int) < (n : Int) := by omega
      clear hr hf hm hL' c0
      obtain ⟨kk, hkk⟩ : ∃ kk, kk = k + (a : Int) := ⟨_, rfl⟩
      have HK := hid hkk
      have kb0 : 0 ≤ kk := by omega
      have kb1 : kk ≤ 1099511627776 := by omega
      rw [← hkk]
      clear hkk
      go_wp2
      go_roundw
      case rel =>
        refine ⟨a + 1, by omega, by go_num, ?_, mj_set' (HM.out) (RB.out) HLU.out (.inl rfl) _⟩
        have := HK.out
        first | (congr 1; omega) | (simp; omega)
      case measure => simp [intOf]; omega
    · have e : a = n := by omega
      subst e
      clear hm
      go_wp2
      go_ret
      exact ⟨rfl, HM.out⟩
set_option maxHeartbeats 800000 in
theorem markEvent_mj (L U : Nat) (v : Value) (n : Nat) (k : Int) (w : World) (h0 : 0 ≤ k) (h1 : k + 2 * n ≤ 1099511627776) (h : TN w L U 70 2 v n) :
    Calls Tryz.prog 86 #[v, .int .i64 k] w fun e w' => e = .returned (.int .i64 (k + 2 * n)) ∧ Mj L U w w' := by
  have HT := hid h
  obtain ⟨g, F, hL, rfl, hr, hf⟩ := h
  have HLU := hid hL
  clear hr hf hL
  go_enter Tryz.func86, Tryz.ntmps86
  go_wp2
  go_loopw [1, 5] (fun kv i wr => ∃ a : Nat, a ≤ n ∧ i = .int .i64 a ∧ kv = .int .i64 (k + 2 * a) ∧ Mj L U w wr) (fun _ i _ => n - (intOf i).toNat)
  case atStart => exact ⟨0, Nat.zero_le _, rfl, by simp, Mj.refl _ _ _⟩
  case round =>
    obtain ⟨a, ha, rfl, rfl, hm⟩ := hrel
    have HM := hid hm
    by_cases hlt : a < n
    · obtain ⟨g', F', hL', e, hr, hf⟩ := hm.tn _ _ _ _ ⟨by decide, by decide, by decide, by decide⟩ HT.out
      simp at e
      subst e
      obtain ⟨z0, c0⟩ := hf (a * 2) (by omega)
      obtain ⟨z1, c1⟩ := hf (a * 2 + 1) (by omega)
      have d0 := hr.cell (i := a * 2) (by omega)
      have f0 := hr.frozen (a * 2)
      rw [c0] at d0
      have d1 := hr.cell (i := a * 2 + 1) (by omega)
      have f1 := hr.frozen (a * 2 + 1)
      rw [c1] at d1
      have RB := hid (row_block hr)
      have an : (a : Int) < (n : Int) := by omega
      clear hr hf hm hL' c0 c1
      obtain ⟨kk, hkk⟩ : ∃ kk, kk = k + 2 * (a : Int) := ⟨_, rfl⟩
      have HK := hid hkk
      have kb0 : 0 ≤ kk := by omega
      have kb1 : kk ≤ 1099511627776 := by omega
      rw [← hkk]
      clear hkk
      go_wp2
      go_roundw
      case rel =>
        refine ⟨a + 1, by omega, by go_num, ?_, mj_set' (mj_set' (HM.out) (RB.out) HLU.out (.inr (.inl rfl)) _) (set_block (RB.out)) HLU.out (.inr (.inl rfl)) _⟩
        have := HK.out
        first | (congr 1; omega) | (simp; omega)
      case measure => simp [intOf]; omega
    · have e : a = n := by omega
      subst e
      clear hm
      go_wp2
      go_ret
      exact ⟨rfl, HM.out⟩
set_option maxHeartbeats 800000 in
theorem markTimer_mj (L U : Nat) (v : Value) (n : Nat) (k : Int) (w : World) (h0 : 0 ≤ k) (h1 : k + 2 * n ≤ 1099511627776) (h : TN w L U 115 2 v n) :
    Calls Tryz.prog 50 #[v, .int .i64 k] w fun e w' => e = .returned (.int .i64 (k + 2 * n)) ∧ Mj L U w w' := by
  have HT := hid h
  obtain ⟨g, F, hL, rfl, hr, hf⟩ := h
  have HLU := hid hL
  clear hr hf hL
  go_enter Tryz.func50, Tryz.ntmps50
  go_wp2
  go_loopw [1, 5] (fun kv i wr => ∃ a : Nat, a ≤ n ∧ i = .int .i64 a ∧ kv = .int .i64 (k + 2 * a) ∧ Mj L U w wr) (fun _ i _ => n - (intOf i).toNat)
  case atStart => exact ⟨0, Nat.zero_le _, rfl, by simp, Mj.refl _ _ _⟩
  case round =>
    obtain ⟨a, ha, rfl, rfl, hm⟩ := hrel
    have HM := hid hm
    by_cases hlt : a < n
    · obtain ⟨g', F', hL', e, hr, hf⟩ := hm.tn _ _ _ _ ⟨by decide, by decide, by decide, by decide⟩ HT.out
      simp at e
      subst e
      obtain ⟨z0, c0⟩ := hf (a * 2) (by omega)
      obtain ⟨z1, c1⟩ := hf (a * 2 + 1) (by omega)
      have d0 := hr.cell (i := a * 2) (by omega)
      have f0 := hr.frozen (a * 2)
      rw [c0] at d0
      have d1 := hr.cell (i := a * 2 + 1) (by omega)
      have f1 := hr.frozen (a * 2 + 1)
      rw [c1] at d1
      have RB := hid (row_block hr)
      have an : (a : Int) < (n : Int) := by omega
      clear hr hf hm hL' c0 c1
      obtain ⟨kk, hkk⟩ : ∃ kk, kk = k + 2 * (a : Int) := ⟨_, rfl⟩
      have HK := hid hkk
      have kb0 : 0 ≤ kk := by omega
      have kb1 : kk ≤ 1099511627776 := by omega
      rw [← hkk]
      clear hkk
      go_wp2
      go_roundw
      case rel =>
        refine ⟨a + 1, by omega, by go_num, ?_, mj_set' (mj_set' (HM.out) (RB.out) HLU.out (.inr (.inr (.inl rfl))) _) (set_block (RB.out)) HLU.out (.inr (.inr (.inl rfl))) _⟩
        have := HK.out
        first | (congr 1; omega) | (simp; omega)
      case measure => simp [intOf]; omega
    · have e : a = n := by omega
      subst e
      clear hm
      go_wp2
      go_ret
      exact ⟨rfl, HM.out⟩

/-- A row of rows of numbers. -/
def TNN (w : World) (L U : Nat) (te t : TypeId) (sz : Nat) (v : Value) (ns : List Nat) : Prop :=
  ∃ g F, v = .slice (some ⟨g, 0, none⟩) ns.length ns.length ∧ w.rowIs g te ns.length F ∧ ∀ i, i < ns.length → TN w L U t sz (F i) (ns.getD i 0)
theorem TNN.mj {w w' : World} {L U : Nat} {te t : TypeId} {sz : Nat} {v : Value} {ns : List Nat} (h : TNN w L U te t sz v ns) (hm : Mj L U w w') (h1 : notC te) (h2 : notR te) (h3 : notC t) : TNN w' L U te t sz v ns := by
  obtain ⟨g, F, e, hr, hf⟩ := h
  obtain ⟨cs, hb⟩ := row_block hr
  exact ⟨g, F, e, hr.of_block (hm.other g cs _ _ hb h1 (.inr h2)), fun i hi => hm.tn _ _ _ _ h3 (hf i hi)⟩
theorem TNN.of_below {w w' : World} {L U : Nat} {te t : TypeId} {sz : Nat} {v : Value} {ns : List Nat} (h : TNN w L U te t sz v ns) (hb : Below w.heap.size w w') : TNN w' L U te t sz v ns := by
  obtain ⟨g, F, e, hr, hf⟩ := h
  exact ⟨g, F, e, hr.of_block (hb.block _ hr.lt), fun i hi => (hf i hi).of_below hb⟩
theorem markInt_mj1 (L U : Nat) (v : Value) (n : Nat) (k : Int) (w : World) (h0 : 0 ≤ k) (h1 : k + 1 * (n : Int) ≤ 1099511627776) (h : TN w L U 3 1 v n) :
    Calls Tryz.prog 51 #[v, .int .i64 k] w fun e w' => e = .returned (.int .i64 (k + 1 * (n : Int))) ∧ Mj L U w w' := by
  rw [Int.one_mul] at h1 ⊢
  exact markInt_mj L U v n k w h0 h1 h

set_option maxHeartbeats 800000 in
theorem markIntSS_mj (L U : Nat) (v : Value) (ns : List Nat) (k : Int) (w : World) (h0 : 0 ≤ k) (h1 : k + 1 * (sumTo (fun i => ns.getD i 0) ns.length : Nat) ≤ 1099511627776) (hl : ns.length ≤ 1048576) (h : TNN w L U 26 3 1 v ns) :
    Calls Tryz.prog 52 #[v, .int .i64 k] w fun e w' => e = .returned (.int .i64 (k + 1 * (sumTo (fun i => ns.getD i 0) ns.length : Nat))) ∧ Mj L U w w' := by
  have HT := hid h
  obtain ⟨g, F, rfl, hr, hf⟩ := h
  obtain ⟨n, hn⟩ : ∃ n, n = ns.length := ⟨_, rfl⟩
  have HN := hid hn
  rw [← hn] at h1 hl ⊢
  have glt := hr.lt
  clear hr hf hn
  go_enter Tryz.func52, Tryz.ntmps52
  go_wp2
  go_loopw [1, 5] (fun kv i wr => ∃ a : Nat, a ≤ n ∧ i = .int .i64 a ∧ kv = .int .i64 (k + 1 * (sumTo (fun i => ns.getD i 0) a : Nat)) ∧ Mj L U w wr) (fun _ i _ => n - (intOf i).toNat)
  case atStart => exact ⟨0, Nat.zero_le _, rfl, by simp [sumTo], Mj.refl _ _ _⟩
  case round =>
    obtain ⟨a, ha, rfl, rfl, hm⟩ := hrel
    have HM := hid hm
    by_cases hlt : a < n
    · obtain ⟨g', F', e, hr, hf⟩ := TNN.mj HT.out hm ⟨by decide, by decide, by decide, by decide⟩ ⟨by decide, by decide, by decide, by decide⟩ ⟨by decide, by decide, by decide, by decide⟩
      simp at e
      subst e
      have ti := hf a (by rw [← HN.out]; exact hlt)
      obtain ⟨q, c0⟩ := ti.form
      rw [c0] at ti
      have d0 := hr.cell (i := a) (by rw [← HN.out]; omega)
      rw [c0] at d0
      obtain ⟨m, hm1⟩ : ∃ m, m = ns.getD a 0 := ⟨_, rfl⟩
      rw [← hm1] at ti d0
      have hs1 := sumTo_step (fun i => ns.getD i 0) (k := a) (m := m) hm1.symm
      have hs2 := sumTo_le (fun i => ns.getD i 0) (show a + 1 ≤ n from hlt)
      obtain ⟨sm, hsm⟩ : ∃ s, s = sumTo (fun i => ns.getD i 0) a := ⟨_, rfl⟩
      rw [← hsm] at hs1 ⊢
      rw [hs1] at hs2
      have S1 := hid hs1
      have C := hid (markInt_mj1 L U _ m (k + 1 * (sm : Nat)) wr (by omega) (by omega) ti)
      have an : (a : Int) < (n : Int) := by omega
      obtain ⟨kk, hkk⟩ : ∃ kk, kk = k + 1 * ((sm : Nat) : Int) := ⟨_, rfl⟩
      have HK := hid hkk
      rw [← hkk] at C ⊢
      clear hr hf hm c0 hm1 ti hs1 hs2 hsm hkk
      go_wp2_with (go_at_call 51; refine C.out.mono ?_; rintro e w1 ⟨rfl, hm2⟩; have M2 := hid (HM.out.trans hm2); clear hm2)
      go_roundw
      case rel => exact ⟨a + 1, by omega, by go_num, by rw [S1.out, HK.out]; congr 1; push_cast; omega, M2.out⟩
      case measure => simp [intOf]; omega
    · have e : a = n := by omega
      subst e
      clear hm
      go_wp2
      go_ret
      exact ⟨rfl, HM.out⟩

set_option maxHeartbeats 800000 in
theorem markEventSS_mj (L U : Nat) (v : Value) (ns : List Nat) (k : Int) (w : World) (h0 : 0 ≤ k) (h1 : k + 2 * (sumTo (fun i => ns.getD i 0) ns.length : Nat) ≤ 1099511627776) (hl : ns.length ≤ 1048576) (h : TNN w L U 138 70 2 v ns) :
    Calls Tryz.prog 53 #[v, .int .i64 k] w fun e w' => e = .returned (.int .i64 (k + 2 * (sumTo (fun i => ns.getD i 0) ns.length : Nat))) ∧ Mj L U w w' := by
  have HT := hid h
  obtain ⟨g, F, rfl, hr, hf⟩ := h
  obtain ⟨n, hn⟩ : ∃ n, n = ns.length := ⟨_, rfl⟩
  have HN := hid hn
  rw [← hn] at h1 hl ⊢
  have glt := hr.lt
  clear hr hf hn
  go_enter Tryz.func53, Tryz.ntmps53
  go_wp2
  go_loopw [1, 5] (fun kv i wr => ∃ a : Nat, a ≤ n ∧ i = .int .i64 a ∧ kv = .int .i64 (k + 2 * (sumTo (fun i => ns.getD i 0) a : Nat)) ∧ Mj L U w wr) (fun _ i _ => n - (intOf i).toNat)
  case atStart => exact ⟨0, Nat.zero_le _, rfl, by simp [sumTo], Mj.refl _ _ _⟩
  case round =>
    obtain ⟨a, ha, rfl, rfl, hm⟩ := hrel
    have HM := hid hm
    by_cases hlt : a < n
    · obtain ⟨g', F', e, hr, hf⟩ := TNN.mj HT.out hm ⟨by decide, by decide, by decide, by decide⟩ ⟨by decide, by decide, by decide, by decide⟩ ⟨by decide, by decide, by decide, by decide⟩
      simp at e
      subst e
      have ti := hf a (by rw [← HN.out]; exact hlt)
      obtain ⟨q, c0⟩ := ti.form
      rw [c0] at ti
      have d0 := hr.cell (i := a) (by rw [← HN.out]; omega)
      rw [c0] at d0
      obtain ⟨m, hm1⟩ : ∃ m, m = ns.getD a 0 := ⟨_, rfl⟩
      rw [← hm1] at ti d0
      have hs1 := sumTo_step (fun i => ns.getD i 0) (k := a) (m := m) hm1.symm
      have hs2 := sumTo_le (fun i => ns.getD i 0) (show a + 1 ≤ n from hlt)
      obtain ⟨sm, hsm⟩ : ∃ s, s = sumTo (fun i => ns.getD i 0) a := ⟨_, rfl⟩
      rw [← hsm] at hs1 ⊢
      rw [hs1] at hs2
      have S1 := hid hs1
      have C := hid (markEvent_mj L U _ m (k + 2 * (sm : Nat)) wr (by omega) (by omega) ti)
      have an : (a : Int) < (n : Int) := by omega
      obtain ⟨kk, hkk⟩ : ∃ kk, kk = k + 2 * ((sm : Nat) : Int) := ⟨_, rfl⟩
      have HK := hid hkk
      rw [← hkk] at C ⊢
      clear hr hf hm c0 hm1 ti hs1 hs2 hsm hkk
      go_wp2_with (go_at_call 86; refine C.out.mono ?_; rintro e w1 ⟨rfl, hm2⟩; have M2 := hid (HM.out.trans hm2); clear hm2)
      go_roundw
      case rel => exact ⟨a + 1, by omega, by go_num, by rw [S1.out, HK.out]; congr 1; push_cast; omega, M2.out⟩
      case measure => simp [intOf]; omega
    · have e : a = n := by omega
      subst e
      clear hm
      go_wp2
      go_ret
      exact ⟨rfl, HM.out⟩
end Go.Proofs.YthaklmdhkkfigaaGreat
