import Derived.Test.YtjeckanjekgkkaaK3
namespace Go.Proofs.Ytjeckanjekgkkaa
open Go.RowKit Go.Sort

/-- The codes of a list of statements are no longer than all that is asked. -/
def Fits (ss : List StmD) : Prop := ss.length ≤ 1048576 ∧ ∀ i, i < ss.length → (ss.getD i stm0).code.length ≤ 1048576
theorem fits_of {ss : List StmD} (h : wStms ss ≤ 1048576) : Fits ss := by
  unfold wStms at h
  refine ⟨by omega, fun i hi => ?_⟩
  have : (ss.getD i stm0).code.length ≤ _ := le_sumTo (fun i => (ss.getD i stm0).code.length) hi
  omega
theorem toStmS_fit (ao : Option Addr) (n c : Nat) (ss : List StmD) (w : World) (hf : Fits ss) (hs : StmsOf w ao n ss) :
    Calls Try.prog 55 #[.slice ao n c] w fun e w' => ∃ g, e = .returned (.slice (some ⟨g, 0, none⟩) n n) ∧ SRow w' w.heap.size (.slice (some ⟨g, 0, none⟩) n n) ss ∧ Below w.heap.size w w' :=
  toStmS_any ao n c ss w (by rw [← hs.1]; exact hf.1) (by rw [← hs.1]; exact hf.2) hs

set_option maxHeartbeats 800000 in
theorem toState_any (p i : Int) (eo xo : Option Addr) (en ec xn xc : Nat) (es xs : List StmD) (w : World) (fe : Fits es) (fx : Fits xs) (he : StmsOf w eo en es) (hx : StmsOf w xo xn xs) :
    Calls Try.prog 41 #[.agg #[.int .i64 p, .int .i64 i, .slice eo en ec, .slice xo xn xc]] w fun e w' => ∃ g1 g2, e = .returned (.agg #[.int .i64 p, .int .i64 i, .slice (some ⟨g1, 0, none⟩) en en, .slice (some ⟨g2, 0, none⟩) xn xn]) ∧
      SRow w' w.heap.size (.slice (some ⟨g1, 0, none⟩) en en) es ∧ SRow w' w.heap.size (.slice (some ⟨g2, 0, none⟩) xn xn) xs ∧ Below w.heap.size w w' := by
  have HS : Hid (∀ w', Below w.heap.size w w' → StmsOf w' eo en es ∧ StmsOf w' xo xn xs) := fun w' h => ⟨he.below h, hx.below h⟩
  clear he hx
  go_enter Try.func41, Try.ntmps41
  go_wp2_with (first | (go_at_call_of 55 (Value.slice eo en ec); refine (toStmS_fit eo en ec es _ fe (HS.out _ (below3 _ _ _ _)).1).mono ?_; rintro e w1 ⟨g1, rfl, hr1, hb1⟩; have hz := hb1.size; simp only [World.size_alloc] at hz; obtain ⟨hc, hf⟩ := bcell2 hb1; have HR := hid hr1; have HB := hid ((below3 _ _ _ _).trans (hb1.mono (by simp; omega))); clear hr1 hb1; have hza : w.heap.size + 1 + 1 < w1.heap.size := (by omega); have hzb : w.heap.size + 1 < w1.heap.size := (by omega); have hzc : w.heap.size < w1.heap.size := (by omega)) | (go_at_call_of 55 (Value.slice xo xn xc); refine (toStmS_fit xo xn xc xs _ fx (HS.out _ (below_set HB.out (by omega))).2).mono ?_; rintro e w2 ⟨g2, rfl, hr2, hb2⟩; have hz2 := hb2.size; simp only [World.size_setCell] at hz2; obtain ⟨hc2, hf2⟩ := bcell2 hb2; have HR2 := hid hr2; have HB2 := hid hb2; clear hr2 hb2; have hza2 : w.heap.size + 1 + 1 < w2.heap.size := (by omega); have hzb2 : w.heap.size + 1 < w2.heap.size := (by omega)))
  have r1 := HR.out
  have r2 := HR2.out
  simp only [World.size_alloc] at r1
  simp only [World.size_setCell] at r2
  refine bodyPost_ret (v := .agg #[.int .i64 p, .int .i64 i, .slice (some ⟨g1, 0, none⟩) en en, .slice (some ⟨g2, 0, none⟩) xn xn]) (by simp [results, Try.results41, go_sem, hc, hc2, hzb]) rfl ⟨g1, g2, rfl, ?_, ?_, ?_⟩
  · refine SRow.mono (L := w.heap.size + 1 + 1 + 1) ?_ (by omega)
    repeat refine SRow.same ?_ (Same.set _ (by omega) _)
    refine SRow.same ?_ (Same.of_below HB2.out)
    repeat refine SRow.same ?_ (Same.set _ (by omega) _)
    exact r1
  · refine SRow.mono (L := w1.heap.size) ?_ (by omega)
    repeat refine SRow.same ?_ (Same.set _ (by omega) _)
    exact r2
  · repeat refine below_set ?_ (by omega)
    refine Below.trans (below_set HB.out (by omega)) (HB2.out.mono ?_)
    simp only [World.size_setCell]
    omega

set_option maxHeartbeats 800000 in
theorem toTrans_any (f s t : Int) (eo xo : Option Addr) (en ec xn xc : Nat) (es : List (Int × Int)) (xs : List StmD) (w : World) (fe : en ≤ 1048576) (fx : Fits xs) (he : ItemsOf w eo en es) (hx : StmsOf w xo xn xs) :
    Calls Try.prog 42 #[.agg #[.int .i64 f, .int .i64 s, .slice eo en ec, .int .i64 t, .slice xo xn xc]] w fun e w' => ∃ g1 g2, e = .returned (.agg #[.int .i64 f, .int .i64 s, .slice (some ⟨g1, 0, none⟩) en en, .int .i64 t, .slice (some ⟨g2, 0, none⟩) xn xn]) ∧
      IRow w' w.heap.size (.slice (some ⟨g1, 0, none⟩) en en) es ∧ SRow w' w.heap.size (.slice (some ⟨g2, 0, none⟩) xn xn) xs ∧ Below w.heap.size w w' := by
  have HS : Hid (∀ w', Below w.heap.size w w' → ItemsOf w' eo en es ∧ StmsOf w' xo xn xs) := fun w' h => ⟨he.below h, hx.below h⟩
  have HN := hid he.1
  clear he hx
  go_enter Try.func42, Try.ntmps42
  go_wp2_with (first | (go_at_call 56; refine (toItemS_any eo en ec es _ fe (HS.out _ (below3 _ _ _ _)).1).mono ?_; rintro e w1 ⟨rfl, hr1, hb1⟩; have hz := hr1.lt; simp only [World.size_alloc] at hz; obtain ⟨hc, hf⟩ := bcell2 hb1; have HR := hid hr1; have HB := hid ((below3 _ _ _ _).trans (hb1.mono (by simp; omega))); clear hr1 hb1; have hza : w.heap.size + 1 + 1 < w1.heap.size := (by omega); have hzb : w.heap.size + 1 < w1.heap.size := (by omega); have hzc : w.heap.size < w1.heap.size := (by omega)) | (go_at_call_of 55 (Value.slice xo xn xc); refine (toStmS_fit xo xn xc xs _ fx (HS.out _ (below_set (below_set HB.out (by omega)) (by omega))).2).mono ?_; rintro e w2 ⟨g2, rfl, hr2, hb2⟩; have hz2 := hb2.size; simp only [World.size_setCell] at hz2; obtain ⟨hc2, hf2⟩ := bcell2 hb2; have HR2 := hid hr2; have HB2 := hid hb2; clear hr2 hb2; have hza2 : w.heap.size + 1 + 1 < w2.heap.size := (by omega); have hzb2 : w.heap.size + 1 < w2.heap.size := (by omega)))
  have r1 := HR.out
  have r2 := HR2.out
  have hl := HN.out
  simp only [World.size_alloc] at r1
  simp only [World.size_setCell] at r2
  have i0 : IRow w1 (w.heap.size + 1 + 1 + 1) (.slice (some ⟨w.heap.size + 1 + 1 + 1, 0, none⟩) en en) es := ⟨_, Nat.le_refl _, by rw [hl], by rw [hl]; exact r1⟩
  refine bodyPost_ret (v := .agg #[.int .i64 f, .int .i64 s, .slice (some ⟨w.heap.size + 1 + 1 + 1, 0, none⟩) en en, .int .i64 t, .slice (some ⟨g2, 0, none⟩) xn xn]) (by simp [results, Try.results42, go_sem, hc, hc2, hzb]) rfl ⟨_, g2, rfl, ?_, ?_, ?_⟩
  · refine IRow.mono (L := w.heap.size + 1 + 1 + 1) ?_ (by omega)
    repeat refine IRow.same ?_ (Same.set _ (by omega) _)
    refine IRow.same ?_ (Same.of_below HB2.out)
    repeat refine IRow.same ?_ (Same.set _ (by omega) _)
    exact i0
  · refine SRow.mono (L := w1.heap.size) ?_ (by omega)
    repeat refine SRow.same ?_ (Same.set _ (by omega) _)
    exact r2
  · repeat refine below_set ?_ (by omega)
    refine Below.trans (below_set (below_set HB.out (by omega)) (by omega)) (HB2.out.mono ?_)
    simp only [World.size_setCell]
    omega

def StCells (w : World) (L : Nat) (F : Nat → Value) (ss : List StD) (k : Nat) : Prop :=
  ∀ i, i < k → F (i * 4) = .int .i64 (ss.getD i st0).parent ∧ F (i * 4 + 1) = .int .i64 (ss.getD i st0).initial ∧ SRow w L (F (i * 4 + 2)) (ss.getD i st0).entry ∧ SRow w L (F (i * 4 + 3)) (ss.getD i st0).exit
theorem StCells.same {w w' : World} {L : Nat} {F : Nat → Value} {ss : List StD} {k : Nat} (h : StCells w L F ss k) (hs : Same L w w') : StCells w' L F ss k := fun i hi => ⟨(h i hi).1, (h i hi).2.1, (h i hi).2.2.1.same hs, (h i hi).2.2.2.same hs⟩
theorem StCells.mono {w : World} {L L' : Nat} {F : Nat → Value} {ss : List StD} {k : Nat} (h : StCells w L F ss k) (hl : L' ≤ L) : StCells w L' F ss k := fun i hi => ⟨(h i hi).1, (h i hi).2.1, (h i hi).2.2.1.mono hl, (h i hi).2.2.2.mono hl⟩
/-- A row of states that was made. -/
def StRow (w : World) (L : Nat) (v : Value) (ss : List StD) : Prop :=
  ∃ g F, L ≤ g ∧ v = .slice (some ⟨g, 0, none⟩) ss.length ss.length ∧ w.rowIs g 74 (ss.length * 4) F ∧ StCells w L F ss ss.length
theorem StRow.same {w w' : World} {L : Nat} {v : Value} {ss : List StD} (h : StRow w L v ss) (hs : Same L w w') : StRow w' L v ss := by
  obtain ⟨g, F, hg, e, hr, hc⟩ := h
  exact ⟨g, F, hg, e, rowIs_same hr hg hs, hc.same hs⟩
theorem StRow.mono {w : World} {L L' : Nat} {v : Value} {ss : List StD} (h : StRow w L v ss) (hl : L' ≤ L) : StRow w L' v ss := by
  obtain ⟨g, F, hg, e, hr, hc⟩ := h
  exact ⟨g, F, Nat.le_trans hl hg, e, hr, hc.mono hl⟩
def FitsSt (ss : List StD) : Prop := ss.length ≤ 1048576 ∧ ∀ i, i < ss.length → Fits (ss.getD i st0).entry ∧ Fits (ss.getD i st0).exit
theorem SRow.stms' {w : World} {L : Nat} {v : Value} {ss : List StmD} (h : SRow w L v ss) (hf : Fits ss) : ∃ co cn cc, v = .slice co cn cc ∧ cn ≤ 9223372036854775807 ∧ StmsOf w co cn ss := by
  obtain ⟨g, e, hs⟩ := h.stms (fun i hi => Nat.le_trans (hf.2 i hi) (by omega))
  exact ⟨_, _, _, e, Nat.le_trans hf.1 (by omega), hs⟩
theorem StRow.states {w : World} {L : Nat} {v : Value} {ss : List StD} (h : StRow w L v ss) (hf : FitsSt ss) : ∃ g, v = .slice (some ⟨g, 0, none⟩) ss.length ss.length ∧ StatesOf w (some ⟨g, 0, none⟩) ss.length ss := by
  obtain ⟨g, F, hg, e, hr, hc⟩ := h
  refine ⟨g, e, rfl, fun _ => ⟨g, 0, rfl, hr.lt, fun i hi => ?_⟩⟩
  obtain ⟨h1, h2, h3, h4⟩ := hc i hi
  obtain ⟨co, cn, cc, e3, n3, s3⟩ := h3.stms' (hf.2 i hi).1
  obtain ⟨do_, dn, dc, e4, n4, s4⟩ := h4.stms' (hf.2 i hi).2
  refine ⟨?_, ?_, ⟨co, cn, cc, ?_, n3, s3⟩, ⟨do_, dn, dc, ?_, n4, s4⟩⟩
  · rw [← h1]; simpa using hr.cell (i := i * 4) (by omega)
  · rw [← h2]; simpa using hr.cell (i := i * 4 + 1) (by omega)
  · rw [← e3]; simpa using hr.cell (i := i * 4 + 2) (by omega)
  · rw [← e4]; simpa using hr.cell (i := i * 4 + 3) (by omega)

theorem infoState : (Try.prog.info? 74).map (fun i => (i.zero, i.size, i.bytes)) = some (some (.agg #[.int .i64 0, .int .i64 0, .slice none 0 0, .slice none 0 0]), 4, 64) := by kernel_rfl

theorem state_step {w wr : World} {B n k : Nat} {F : Nat → Value} {ss : List StD} {v1 v2 : Value} (hr : wr.rowIs B 74 (n * 4) F) (hc : StCells wr (B + 1) F ss k) (hb : Below B w wr)
    (hi : SRow wr (B + 1) v1 (ss.getD k st0).entry) (hj : SRow wr (B + 1) v2 (ss.getD k st0).exit) :
    ∃ F', ((((wr.setCell ⟨B, k * 4, none⟩ (.int .i64 (ss.getD k st0).parent)).setCell ⟨B, k * 4 + 1, none⟩ (.int .i64 (ss.getD k st0).initial)).setCell ⟨B, k * 4 + 2, none⟩ v1).setCell ⟨B, k * 4 + 3, none⟩ v2).rowIs B 74 (n * 4) F' ∧
      StCells ((((wr.setCell ⟨B, k * 4, none⟩ (.int .i64 (ss.getD k st0).parent)).setCell ⟨B, k * 4 + 1, none⟩ (.int .i64 (ss.getD k st0).initial)).setCell ⟨B, k * 4 + 2, none⟩ v1).setCell ⟨B, k * 4 + 3, none⟩ v2) (B + 1) F' ss (k + 1) ∧
      Below B w ((((wr.setCell ⟨B, k * 4, none⟩ (.int .i64 (ss.getD k st0).parent)).setCell ⟨B, k * 4 + 1, none⟩ (.int .i64 (ss.getD k st0).initial)).setCell ⟨B, k * 4 + 2, none⟩ v1).setCell ⟨B, k * 4 + 3, none⟩ v2) := by
  have hs : Same (B + 1) wr ((((wr.setCell ⟨B, k * 4, none⟩ (.int .i64 (ss.getD k st0).parent)).setCell ⟨B, k * 4 + 1, none⟩ (.int .i64 (ss.getD k st0).initial)).setCell ⟨B, k * 4 + 2, none⟩ v1).setCell ⟨B, k * 4 + 3, none⟩ v2) := by
    intro q hq hl
    rw [Same.set _ (Nat.lt_succ_self B) _ q hq (by simpa using hl), Same.set _ (Nat.lt_succ_self B) _ q hq (by simpa using hl), Same.set _ (Nat.lt_succ_self B) _ q hq (by simpa using hl), Same.set _ (Nat.lt_succ_self B) _ q hq (by simpa using hl)]
  refine ⟨_, (((hr.set (k * 4) _).set (k * 4 + 1) _).set (k * 4 + 2) _).set (k * 4 + 3) _, ?_, (((hb.setCell (Nat.le_refl _) _).setCell (Nat.le_refl _) _).setCell (Nat.le_refl _) _).setCell (Nat.le_refl _) _⟩
  have hc' := hc.same hs
  have hi' := hi.same hs
  have hj' := hj.same hs
  intro i hi
  by_cases e : i = k
  · subst e
    refine ⟨?_, ?_, ?_, ?_⟩
    · simp
    · simp
    · simpa using hi'
    · simpa using hj'
  · obtain ⟨h1, h2, h3, h4⟩ := hc' i (by omega)
    refine ⟨?_, ?_, ?_, ?_⟩
    · dsimp only; rw [if_neg (by omega), if_neg (by omega), if_neg (by omega), if_neg (by omega)]; exact h1
    · dsimp only; rw [if_neg (by omega), if_neg (by omega), if_neg (by omega), if_neg (by omega)]; exact h2
    · dsimp only; rw [if_neg (by omega), if_neg (by omega), if_neg (by omega), if_neg (by omega)]; exact h3
    · dsimp only; rw [if_neg (by omega), if_neg (by omega), if_neg (by omega), if_neg (by omega)]; exact h4

set_option maxHeartbeats 800000 in
theorem toStateS_any (ao : Option Addr) (n c : Nat) (ss : List StD) (w : World) (hf : FitsSt ss) (hs : StatesOf w ao n ss) :
    Calls Try.prog 23 #[.slice ao n c] w fun e w' => ∃ g, e = .returned (.slice (some ⟨g, 0, none⟩) n n) ∧ StRow w' w.heap.size (.slice (some ⟨g, 0, none⟩) n n) ss ∧ Below w.heap.size w w' := by
  have HL := hid hs.1
  have hn : n ≤ 1048576 := by rw [← HL.out]; exact hf.1
  have HF : Hid (∀ i, i < n → Fits (ss.getD i st0).entry ∧ Fits (ss.getD i st0).exit) := by have := hf.2; rw [HL.out] at this; exact this
  have hmk := run_make_quads 29 74 (.int .i64 0) (.int .i64 0) (.slice none 0 0) (.slice none 0 0) 64 Try.underlying29 infoState .i64 .i64 n (by omega) (by omega)
  clear hf
  go_enter Try.func23, Try.ntmps23
  go_wp2
  go_loopw [4] (fun i wr => ∃ k : Nat, k ≤ n ∧ i = .int .i64 k ∧ (∃ F, wr.rowIs w.heap.size 74 (n * 4) F ∧ StCells wr (w.heap.size + 1) F ss k) ∧ Below w.heap.size w wr) (fun i _ => n - (intOf i).toNat)
  case atStart => exact ⟨0, Nat.zero_le _, rfl, ⟨_, rowIs_quads w _ _ _ _ n 74, fun i h => absurd h (by omega)⟩, (Below.refl _ _).alloc (Nat.le_refl _) _⟩
  case round =>
    obtain ⟨k, hk, rfl, ⟨F, hr, hcp⟩, hb⟩ := hrel
    have HR := hid hr
    have HB := hid hb
    have HP := hid hcp
    have hsz := hr.lt
    clear hcp
    by_cases hlt : k < n
    · obtain ⟨b, off, rfl, hbl, hc⟩ := hs.2 (by omega)
      obtain ⟨s, es⟩ : ∃ s, s = ss.getD k st0 := ⟨_, rfl⟩
      have hk4 := hc k hlt
      have hff := HF.out k hlt
      rw [← es] at hk4 hff
      obtain ⟨k1, k2, ⟨co, cn, cc, k3, hcn, hit⟩, ⟨do_, dn, dc, k4, hdn, hit2⟩⟩ := hk4
      have k1 := (hb.cell (p := ⟨b, off + k * 4, none⟩) hbl).trans k1
      have k2 := (hb.cell (p := ⟨b, off + k * 4 + 1, none⟩) hbl).trans k2
      have k3 := (hb.cell (p := ⟨b, off + k * 4 + 2, none⟩) hbl).trans k3
      have k4 := (hb.cell (p := ⟨b, off + k * 4 + 3, none⟩) hbl).trans k4
      have ES := hid es
      have C := hid (toState_any s.parent s.initial co do_ cn cc dn dc s.entry s.exit wr hff.1 hff.2 (hit.below hb) (hit2.below hb))
      obtain ⟨pv, hpv⟩ : ∃ pv, pv = s.parent := ⟨_, rfl⟩
      obtain ⟨iv, hiv⟩ : ∃ iv, iv = s.initial := ⟨_, rfl⟩
      rw [← hpv] at k1 C
      rw [← hiv] at k2 C
      have EP := hid hpv
      have EI := hid hiv
      clear hs hc hr hb hit hit2 es hcn hdn hpv hiv hff
      go_wp2_with (go_at_call 41; refine C.out.mono ?_; rintro e w1 ⟨g, g', rfl, hi1, hj1, hb1⟩; have hr1 := HR.out.of_block (hb1.block _ hsz); have f0 := hr1.frozen (k * 4); have f1 := hr1.frozen (k * 4 + 1); have f2 := hr1.frozen (k * 4 + 2); have f3 := hr1.frozen (k * 4 + 3); have g0 := hr1.cell (i := k * 4) (by omega); have g1 := hr1.cell (i := k * 4 + 1) (by omega); have g2 := hr1.cell (i := k * 4 + 2) (by omega); have g3 := hr1.cell (i := k * 4 + 3) (by omega); have R1 := hid hr1; have I1 := hid hi1; have J1 := hid hj1; have B1 := hid hb1; clear hr1 hi1 hj1 hb1)
      have cs := state_step (ss := ss) (k := k) R1.out (HP.out.same (Same.of_below B1.out)) (HB.out.trans (B1.out.mono (Nat.le_of_lt hsz))) (v1 := .slice (some ⟨g, 0, none⟩) cn cn) (v2 := .slice (some ⟨g', 0, none⟩) dn dn) (by rw [← ES.out]; exact I1.out.mono hsz) (by rw [← ES.out]; exact J1.out.mono hsz)
      rw [← ES.out, ← EP.out, ← EI.out] at cs
      obtain ⟨F', c1, c2, c3⟩ := cs
      go_roundw
      case rel => exact ⟨k + 1, by omega, by go_num, ⟨F', c1, c2⟩, c3⟩
      case measure => simp [intOf]; omega
    · have e : k = n := by omega
      subst e
      clear hs hr hb
      go_wp2
      go_ret
      have hl := HL.out
      exact ⟨_, rfl, ⟨w.heap.size, F, Nat.le_refl _, by rw [hl], by rw [hl]; exact HR.out, by rw [hl]; exact HP.out.mono (by omega)⟩, HB.out⟩
end Go.Proofs.Ytjeckanjekgkkaa
