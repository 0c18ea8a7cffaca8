import Derived.Test.YtkcbomhhdfgihaaGreatK4
namespace Go.Proofs.YtkcbomhhdfgihaaGreat
open Go.RowKit Go.Sort

theorem fitsSt_of {ss : List StD} (h : wStates ss ≤ 1048576) : FitsSt ss := by
  unfold wStates at h
  refine ⟨by omega, fun i hi => ?_⟩
  have : wSt (ss.getD i st0) ≤ _ := le_sumTo (fun i => wSt (ss.getD i st0)) hi
  have h2 : wSt (ss.getD i st0) = wStms (ss.getD i st0).entry + wStms (ss.getD i st0).exit := rfl
  exact ⟨fits_of (by omega), fits_of (by omega)⟩
def FitsTr (ss : List TrD) : Prop := ss.length ≤ 1048576 ∧ ∀ i, i < ss.length → (ss.getD i tr0).guard.length ≤ 1048576 ∧ Fits (ss.getD i tr0).action
theorem fitsTr_of {ss : List TrD} (h : wTrans ss ≤ 1048576) : FitsTr ss := by
  unfold wTrans at h
  refine ⟨by omega, fun i hi => ?_⟩
  have : wTr (ss.getD i tr0) ≤ _ := le_sumTo (fun i => wTr (ss.getD i tr0)) hi
  have h2 : wTr (ss.getD i tr0) = (ss.getD i tr0).guard.length + wStms (ss.getD i tr0).action := rfl
  exact ⟨by omega, fits_of (by omega)⟩

def TrCells (w : World) (L : Nat) (F : Nat → Value) (ss : List TrD) (k : Nat) : Prop :=
  ∀ i, i < k → F (i * 5) = .int .i64 (ss.getD i tr0).src ∧ F (i * 5 + 1) = .int .i64 (ss.getD i tr0).sig ∧ IRow w L (F (i * 5 + 2)) (ss.getD i tr0).guard ∧ F (i * 5 + 3) = .int .i64 (ss.getD i tr0).target ∧ SRow w L (F (i * 5 + 4)) (ss.getD i tr0).action
theorem TrCells.same {w w' : World} {L : Nat} {F : Nat → Value} {ss : List TrD} {k : Nat} (h : TrCells w L F ss k) (hs : Same L w w') : TrCells w' L F ss k := fun i hi => ⟨(h i hi).1, (h i hi).2.1, (h i hi).2.2.1.same hs, (h i hi).2.2.2.1, (h i hi).2.2.2.2.same hs⟩
theorem TrCells.mono {w : World} {L L' : Nat} {F : Nat → Value} {ss : List TrD} {k : Nat} (h : TrCells w L F ss k) (hl : L' ≤ L) : TrCells w L' F ss k := fun i hi => ⟨(h i hi).1, (h i hi).2.1, (h i hi).2.2.1.mono hl, (h i hi).2.2.2.1, (h i hi).2.2.2.2.mono hl⟩
/-- A row of transitions that was made. -/
def TrRow (w : World) (L : Nat) (v : Value) (ss : List TrD) : Prop :=
  ∃ g F, L ≤ g ∧ v = .slice (some ⟨g, 0, none⟩) ss.length ss.length ∧ w.rowIs g 118 (ss.length * 5) F ∧ TrCells w L F ss ss.length
theorem TrRow.same {w w' : World} {L : Nat} {v : Value} {ss : List TrD} (h : TrRow w L v ss) (hs : Same L w w') : TrRow w' L v ss := by
  obtain ⟨g, F, hg, e, hr, hc⟩ := h
  exact ⟨g, F, hg, e, rowIs_same hr hg hs, hc.same hs⟩
theorem TrRow.mono {w : World} {L L' : Nat} {v : Value} {ss : List TrD} (h : TrRow w L v ss) (hl : L' ≤ L) : TrRow w L' v ss := by
  obtain ⟨g, F, hg, e, hr, hc⟩ := h
  exact ⟨g, F, Nat.le_trans hl hg, e, hr, hc.mono hl⟩
theorem TrRow.trans {w : World} {L : Nat} {v : Value} {ss : List TrD} (h : TrRow w L v ss) (hf : FitsTr ss) : ∃ g, v = .slice (some ⟨g, 0, none⟩) ss.length ss.length ∧ TransOf w (some ⟨g, 0, none⟩) ss.length ss := by
  obtain ⟨g, F, hg, e, hr, hc⟩ := h
  refine ⟨g, e, rfl, fun _ => ⟨g, 0, rfl, hr.lt, fun i hi => ?_⟩⟩
  obtain ⟨h1, h2, h3, h5, h4⟩ := hc i hi
  obtain ⟨q, e3, s3⟩ := h3.items
  obtain ⟨do_, dn, dc, e4, n4, s4⟩ := h4.stms' (hf.2 i hi).2
  refine ⟨?_, ?_, ⟨some ⟨q, 0, none⟩, (ss.getD i tr0).guard.length, (ss.getD i tr0).guard.length, ?_, Nat.le_trans (hf.2 i hi).1 (by omega), s3⟩, ?_, ⟨do_, dn, dc, ?_, n4, s4⟩⟩
  · rw [← h1]; simpa using hr.cell (i := i * 5) (by omega)
  · rw [← h2]; simpa using hr.cell (i := i * 5 + 1) (by omega)
  · rw [← e3]; simpa using hr.cell (i := i * 5 + 2) (by omega)
  · rw [← h5]; simpa using hr.cell (i := i * 5 + 3) (by omega)
  · rw [← e4]; simpa using hr.cell (i := i * 5 + 4) (by omega)

theorem run_make_fives (t e : TypeId) (z0 z1 z2 z3 z4 : Value) (bytes : Nat) (ht : Tryz.prog.underlying t = some (.slice e)) (hinfo : (Tryz.prog.info? e).map (fun i => (i.zero, i.size, i.bytes)) = some (some (.agg #[z0, z1, z2, z3, z4]), 5, bytes))
    (kl kc : IntKind) (n : Nat) (hbytes : bytes * n ≤ 281474976710656) (h63 : n ≤ 9223372036854775807) (w : World) :
    (Instr.makeSlice t (.int kl (n : Int)) (.int kc (n : Int))).run Tryz.prog w = .ok (.slice (some ⟨w.heap.size, 0, none⟩) n n) (w.alloc (.cells (madeCells #[z0, z1, z2, z3, z4] (n * 5)) e)) := by
  obtain ⟨i, hi, hzz⟩ := Option.map_eq_some_iff.1 hinfo
  simp only [Prod.mk.injEq] at hzz
  obtain ⟨hz, hs, hb⟩ := hzz
  have hb' : (i.bytes : Int) * (n : Int) ≤ 281474976710656 := by
    have h : ((i.bytes * n : Nat) : Int) ≤ 281474976710656 := by rw [hb]; omega
    rwa [Int.natCast_mul] at h
  have hr := run_make (P := Tryz.prog) w t e i (.agg #[z0, z1, z2, z3, z4]) ht hi hz kl kc n n (by omega) (Int.le_refl _) hb' (by omega)
  simp only [Int.toNat_natCast, hs] at hr
  exact hr
theorem infoTrans : (Tryz.prog.info? 118).map (fun i => (i.zero, i.size, i.bytes)) = some (some (.agg #[.int .i64 0, .int .i64 0, .slice none 0 0, .int .i64 0, .slice none 0 0]), 5, 72) := by kernel_rfl
theorem rowIs_fives (w : World) (z0 z1 z2 z3 z4 : Value) (n : Nat) (t : TypeId) : (w.alloc (.cells (madeCells #[z0, z1, z2, z3, z4] (n * 5)) t)).rowIs w.heap.size t (n * 5) (fun i => #[z0, z1, z2, z3, z4][i % 5]!) :=
  ⟨_, heap_alloc_new _ _, size_madeCells _ _, fun i hi => by simp [madeCells, hi]⟩

theorem trans_step {w wr : World} {B n k : Nat} {F : Nat → Value} {ss : List TrD} {v1 v2 : Value} (hr : wr.rowIs B 118 (n * 5) F) (hc : TrCells wr (B + 1) F ss k) (hb : Below B w wr)
    (hi : IRow wr (B + 1) v1 (ss.getD k tr0).guard) (hj : SRow wr (B + 1) v2 (ss.getD k tr0).action) :
    ∃ F', (((((wr.setCell ⟨B, k * 5, none⟩ (.int .i64 (ss.getD k tr0).src)).setCell ⟨B, k * 5 + 1, none⟩ (.int .i64 (ss.getD k tr0).sig)).setCell ⟨B, k * 5 + 2, none⟩ v1).setCell ⟨B, k * 5 + 3, none⟩ (.int .i64 (ss.getD k tr0).target)).setCell ⟨B, k * 5 + 4, none⟩ v2).rowIs B 118 (n * 5) F' ∧
      TrCells (((((wr.setCell ⟨B, k * 5, none⟩ (.int .i64 (ss.getD k tr0).src)).setCell ⟨B, k * 5 + 1, none⟩ (.int .i64 (ss.getD k tr0).sig)).setCell ⟨B, k * 5 + 2, none⟩ v1).setCell ⟨B, k * 5 + 3, none⟩ (.int .i64 (ss.getD k tr0).target)).setCell ⟨B, k * 5 + 4, none⟩ v2) (B + 1) F' ss (k + 1) ∧
      Below B w (((((wr.setCell ⟨B, k * 5, none⟩ (.int .i64 (ss.getD k tr0).src)).setCell ⟨B, k * 5 + 1, none⟩ (.int .i64 (ss.getD k tr0).sig)).setCell ⟨B, k * 5 + 2, none⟩ v1).setCell ⟨B, k * 5 + 3, none⟩ (.int .i64 (ss.getD k tr0).target)).setCell ⟨B, k * 5 + 4, none⟩ v2) := by
  have hs : Same (B + 1) wr (((((wr.setCell ⟨B, k * 5, none⟩ (.int .i64 (ss.getD k tr0).src)).setCell ⟨B, k * 5 + 1, none⟩ (.int .i64 (ss.getD k tr0).sig)).setCell ⟨B, k * 5 + 2, none⟩ v1).setCell ⟨B, k * 5 + 3, none⟩ (.int .i64 (ss.getD k tr0).target)).setCell ⟨B, k * 5 + 4, none⟩ v2) := by
    intro q hq hl
    rw [Same.set _ (Nat.lt_succ_self B) _ q hq (by simpa using hl), Same.set _ (Nat.lt_succ_self B) _ q hq (by simpa using hl), Same.set _ (Nat.lt_succ_self B) _ q hq (by simpa using hl), Same.set _ (Nat.lt_succ_self B) _ q hq (by simpa using hl), Same.set _ (Nat.lt_succ_self B) _ q hq (by simpa using hl)]
  refine ⟨_, ((((hr.set (k * 5) _).set (k * 5 + 1) _).set (k * 5 + 2) _).set (k * 5 + 3) _).set (k * 5 + 4) _, ?_, ((((hb.setCell (Nat.le_refl _) _).setCell (Nat.le_refl _) _).setCell (Nat.le_refl _) _).setCell (Nat.le_refl _) _).setCell (Nat.le_refl _) _⟩
  have hc' := hc.same hs
  have hi' := hi.same hs
  have hj' := hj.same hs
  intro i hi
  by_cases e : i = k
  · subst e
    refine ⟨?_, ?_, ?_, ?_, ?_⟩
    · simp
    · simp
    · simpa using hi'
    · simp
    · simpa using hj'
  · obtain ⟨h1, h2, h3, h5, h4⟩ := hc' i (by omega)
    refine ⟨?_, ?_, ?_, ?_, ?_⟩
    · dsimp only; rw [if_neg (by omega), if_neg (by omega), if_neg (by omega), if_neg (by omega), if_neg (by omega)]; exact h1
    · dsimp only; rw [if_neg (by omega), if_neg (by omega), if_neg (by omega), if_neg (by omega), if_neg (by omega)]; exact h2
    · dsimp only; rw [if_neg (by omega), if_neg (by omega), if_neg (by omega), if_neg (by omega), if_neg (by omega)]; exact h3
    · dsimp only; rw [if_neg (by omega), if_neg (by omega), if_neg (by omega), if_neg (by omega), if_neg (by omega)]; exact h5
    · dsimp only; rw [if_neg (by omega), if_neg (by omega), if_neg (by omega), if_neg (by omega), if_neg (by omega)]; exact h4

set_option maxHeartbeats 800000 in
theorem toTransS_any (ao : Option Addr) (n c : Nat) (ss : List TrD) (w : World) (hf : FitsTr ss) (hs : TransOf w ao n ss) :
    Calls Tryz.prog 91 #[.slice ao n c] w fun e w' => ∃ g, e = .returned (.slice (some ⟨g, 0, none⟩) n n) ∧ TrRow w' w.heap.size (.slice (some ⟨g, 0, none⟩) n n) ss ∧ Below w.heap.size w w' := by
  have HL := hid hs.1
  have hn : n ≤ 1048576 := by rw [← HL.out]; exact hf.1
  have HF : Hid (∀ i, i < n → (ss.getD i tr0).guard.length ≤ 1048576 ∧ Fits (ss.getD i tr0).action) := by have := hf.2; rw [HL.out] at this; exact this
  have hmk := run_make_fives 68 118 (.int .i64 0) (.int .i64 0) (.slice none 0 0) (.int .i64 0) (.slice none 0 0) 72 Tryz.underlying68 infoTrans .i64 .i64 n (by omega) (by omega)
  clear hf
  go_enter Tryz.func91, Tryz.ntmps91
  go_wp2
  go_loopw [4] (fun i wr => ∃ k : Nat, k ≤ n ∧ i = .int .i64 k ∧ (∃ F, wr.rowIs w.heap.size 118 (n * 5) F ∧ TrCells wr (w.heap.size + 1) F ss k) ∧ Below w.heap.size w wr) (fun i _ => n - (intOf i).toNat)
  case atStart => exact ⟨0, Nat.zero_le _, rfl, ⟨_, rowIs_fives w _ _ _ _ _ n 118, fun i h => absurd h (by omega)⟩, (Below.refl _ _).alloc (Nat.le_refl _) _⟩
  case round =>
    obtain ⟨k, hk, rfl, ⟨F, hr, hcp⟩, hb⟩ := hrel
    have HR := hid hr
    have HB := hid hb
    have HP := hid hcp
    have hsz := hr.lt
    clear hcp
    by_cases hlt : k < n
    · obtain ⟨b, off, rfl, hbl, hc⟩ := hs.2 (by omega)
      obtain ⟨s, es⟩ : ∃ s, s = ss.getD k tr0 := ⟨_, rfl⟩
      have hk4 := hc k hlt
      have hff := HF.out k hlt
      rw [← es] at hk4 hff
      obtain ⟨k1, k2, ⟨co, cn, cc, k3, hcn, hit⟩, k5, ⟨do_, dn, dc, k4, hdn, hit2⟩⟩ := hk4
      have k1 := (hb.cell (p := ⟨b, off + k * 5, none⟩) hbl).trans k1
      have k2 := (hb.cell (p := ⟨b, off + k * 5 + 1, none⟩) hbl).trans k2
      have k3 := (hb.cell (p := ⟨b, off + k * 5 + 2, none⟩) hbl).trans k3
      have k5 := (hb.cell (p := ⟨b, off + k * 5 + 3, none⟩) hbl).trans k5
      have k4 := (hb.cell (p := ⟨b, off + k * 5 + 4, none⟩) hbl).trans k4
      have ES := hid es
      have C := hid (toTrans_any s.src s.sig s.target co do_ cn cc dn dc s.guard s.action wr (by rw [← hit.1]; exact hff.1) hff.2 (hit.below hb) (hit2.below hb))
      obtain ⟨pv, hpv⟩ : ∃ pv, pv = s.src := ⟨_, rfl⟩
      obtain ⟨iv, hiv⟩ : ∃ iv, iv = s.sig := ⟨_, rfl⟩
      obtain ⟨tv, htv⟩ : ∃ tv, tv = s.target := ⟨_, rfl⟩
      rw [← hpv] at k1 C
      rw [← hiv] at k2 C
      rw [← htv] at k5 C
      have EP := hid hpv
      have EI := hid hiv
      have ET := hid htv
      clear hs hc hr hb hit hit2 es hcn hdn hpv hiv htv hff
      go_wp2_with (go_at_call 115; refine C.out.mono ?_; rintro e w1 ⟨g, g', rfl, hi1, hj1, hb1⟩; have hr1 := HR.out.of_block (hb1.block _ hsz); have f0 := hr1.frozen (k * 5); have f1 := hr1.frozen (k * 5 + 1); have f2 := hr1.frozen (k * 5 + 2); have f3 := hr1.frozen (k * 5 + 3); have f4 := hr1.frozen (k * 5 + 4); have g0 := hr1.cell (i := k * 5) (by omega); have g1 := hr1.cell (i := k * 5 + 1) (by omega); have g2 := hr1.cell (i := k * 5 + 2) (by omega); have g3 := hr1.cell (i := k * 5 + 3) (by omega); have g4 := hr1.cell (i := k * 5 + 4) (by omega); have R1 := hid hr1; have I1 := hid hi1; have J1 := hid hj1; have B1 := hid hb1; clear hr1 hi1 hj1 hb1)
      have cs := trans_step (ss := ss) (k := k) R1.out (HP.out.same (Same.of_below B1.out)) (HB.out.trans (B1.out.mono (Nat.le_of_lt hsz))) (v1 := .slice (some ⟨g, 0, none⟩) cn cn) (v2 := .slice (some ⟨g', 0, none⟩) dn dn) (by rw [← ES.out]; exact I1.out.mono hsz) (by rw [← ES.out]; exact J1.out.mono hsz)
      rw [← ES.out, ← EP.out, ← EI.out, ← ET.out] at cs
      obtain ⟨F', c1, c2, c3⟩ := cs
      go_roundw
      case rel => exact ⟨k + 1, by omega, by go_num, ⟨F', c1, c2⟩, c3⟩
      case measure => simp [intOf]; omega
    · have e : k = n := by omega
      subst e
      clear hs hr hb
      go_wp2
      go_ret
      have hl := HL.out
      exact ⟨_, rfl, ⟨w.heap.size, F, Nat.le_refl _, by rw [hl], by rw [hl]; exact HR.out, by rw [hl]; exact HP.out.mono (by omega)⟩, HB.out⟩

set_option maxHeartbeats 800000 in
theorem toChart_any (eo xo : Option Addr) (en ec xn xc : Nat) (es : List StD) (xs : List TrD) (w : World) (fe : FitsSt es) (fx : FitsTr xs) (he : StatesOf w eo en es) (hx : TransOf w xo xn xs) :
    Calls Tryz.prog 66 #[.agg #[.slice eo en ec, .slice xo xn xc]] w fun e w' => ∃ g1 g2, e = .returned (.agg #[.slice (some ⟨g1, 0, none⟩) en en, .slice (some ⟨g2, 0, none⟩) xn xn]) ∧
      StRow w' w.heap.size (.slice (some ⟨g1, 0, none⟩) en en) es ∧ TrRow w' w.heap.size (.slice (some ⟨g2, 0, none⟩) xn xn) xs ∧ Below w.heap.size w w' := by
  have HS : Hid (∀ w', Below w.heap.size w w' → StatesOf w' eo en es ∧ TransOf w' xo xn xs) := fun w' h => ⟨he.below h, hx.below h⟩
  clear he hx
  go_enter Tryz.func66, Tryz.ntmps66
  go_wp2_with (first | (go_at_call 90; refine (toStateS_any eo en ec es _ fe (HS.out _ (below3 _ _ _ _)).1).mono ?_; rintro e w1 ⟨g1, rfl, hr1, hb1⟩; have hz := hb1.size; simp only [World.size_alloc] at hz; obtain ⟨hc, hf⟩ := bcell2 hb1; have HR := hid hr1; have HB := hid ((below3 _ _ _ _).trans (hb1.mono (by simp; omega))); clear hr1 hb1; have hza : w.heap.size + 1 + 1 < w1.heap.size := (by omega); have hzb : w.heap.size + 1 < w1.heap.size := (by omega); have hzc : w.heap.size < w1.heap.size := (by omega)) | (go_at_call 91; refine (toTransS_any xo xn xc xs _ fx (HS.out _ (below_set HB.out (by omega))).2).mono ?_; rintro e w2 ⟨g2, rfl, hr2, hb2⟩; have hz2 := hb2.size; simp only [World.size_setCell] at hz2; obtain ⟨hc2, hf2⟩ := bcell2 hb2; have HR2 := hid hr2; have HB2 := hid hb2; clear hr2 hb2; have hza2 : w.heap.size + 1 + 1 < w2.heap.size := (by omega); have hzb2 : w.heap.size + 1 < w2.heap.size := (by omega)))
  have r1 := HR.out
  have r2 := HR2.out
  simp only [World.size_alloc] at r1
  simp only [World.size_setCell] at r2
  refine bodyPost_ret (v := .agg #[.slice (some ⟨g1, 0, none⟩) en en, .slice (some ⟨g2, 0, none⟩) xn xn]) (by simp [results, Tryz.results66, go_sem, hc, hc2, hzb]) rfl ⟨g1, g2, rfl, ?_, ?_, ?_⟩
  · refine StRow.mono (L := w.heap.size + 1 + 1 + 1) ?_ (by omega)
    repeat refine StRow.same ?_ (Same.set _ (by omega) _)
    refine StRow.same ?_ (Same.of_below HB2.out)
    repeat refine StRow.same ?_ (Same.set _ (by omega) _)
    exact r1
  · refine TrRow.mono (L := w1.heap.size) ?_ (by omega)
    repeat refine TrRow.same ?_ (Same.set _ (by omega) _)
    exact r2
  · repeat refine below_set ?_ (by omega)
    refine Below.trans (below_set HB.out (by omega)) (HB2.out.mono ?_)
    simp only [World.size_setCell]
    omega
end Go.Proofs.YtkcbomhhdfgihaaGreat
