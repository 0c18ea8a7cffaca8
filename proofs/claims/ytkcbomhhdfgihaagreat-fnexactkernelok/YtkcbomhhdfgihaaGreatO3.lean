import Derived.Test.YtkcbomhhdfgihaaGreatO2
namespace Go.Proofs.YtkcbomhhdfgihaaGreat
open Go.RowKit Go.Sort

def stmB (l : LimD) (s : StmD) : Bool :=
  betB s.kind 1 9 && betB s.a 0 (mostA s.kind l) && betB s.b 0 (mostB s.kind l) && (if hasB s.kind then codeB s.code l.v else decide (s.code.length = 0))

abbrev stmsP (l : LimD) (ss : List StmD) (k : Nat) : Prop := ∀ i, i < k → stmB l (ss.getD i stm0) = true

def stmsB (l : LimD) (ss : List StmD) : Bool := decide (limP l ∧ ss.length ≤ 50 ∧ stmsP l ss ss.length)

theorem stms_no {l : LimD} {ss : List StmD} {k n : Nat} (hl : ss.length = n) (hlt : k < n) (h : stmB l (ss.getD k stm0) = false) : stmsB l ss = false := by
  unfold stmsB
  rw [decide_eq_false_iff_not]
  intro hh
  have := hh.2.2 k (by omega)
  rw [h] at this
  cases this

set_option maxHeartbeats 4000000 in
theorem specStmsOK_any (ao : Option Addr) (n c : Nat) (ss : List StmD) (o s t v : Int) (w : World) (hn : n ≤ 9223372036854775807) (hs : StmsOf w ao n ss) :
    Calls Tryz.prog 63 #[.slice ao n c, .agg #[.int .i64 o, .int .i64 s, .int .i64 t, .int .i64 v]] w fun e w' => e = .returned (.bool (stmsB ⟨o, s, t, v⟩ ss)) ∧ Below w.heap.size w w' := by
  have HL := hid hs.1
  obtain ⟨lb, hlb⟩ : ∃ lb, lb = limB ⟨o, s, t, v⟩ := ⟨_, rfl⟩
  have CL : Hid (∀ w, Calls Tryz.prog 84 #[.agg #[.int .i64 o, .int .i64 s, .int .i64 t, .int .i64 v]] w fun e w' => e = .returned (.bool lb) ∧ Below w.heap.size w w') := fun w => by rw [hlb]; exact l1LimOK_any o s t v w
  cases lb with
  | false =>
    have E : Hid (stmsB ⟨o, s, t, v⟩ ss = false) := hid (by unfold stmsB; rw [decide_eq_false_iff_not]; intro h; rw [show limB ⟨o, s, t, v⟩ = true from decide_eq_true h.1] at hlb; cases hlb)
    clear hs hlb
    go_enter Tryz.func63, Tryz.ntmps63
    go_wp2_with (go_at_call 84; refine (CL.out _).mono ?_; rintro e w1 ⟨rfl, hb⟩; have HB := hid hb; clear hb)
    go_ret
    exact ⟨ret_bool E.out.symm, (below1 _ _).trans (HB.out.mono (by simp))⟩
  | true =>
    have hlim : limP ⟨o, s, t, v⟩ := by have := hlb.symm; unfold limB at this; exact of_decide_eq_true this
    clear hlb
    by_cases h50 : n ≤ 50
    · have i50 : ¬ (50 : Int) < (n : Int) := by omega
      go_enter Tryz.func63, Tryz.ntmps63
      go_wp2_with (go_at_call 84; refine (CL.out _).mono ?_; rintro e w1 ⟨rfl, hb⟩; have HB0 := hid ((below1 _ _).trans (hb.mono (by simp))); have Q0 := hid (block_below (heap_alloc_new w _) hb); clear hb)
      go_loopw [19] (fun i wr => ∃ k : Nat, k ≤ n ∧ i = .int .i64 k ∧ stmsP ⟨o, s, t, v⟩ ss k ∧ wr.heap[w.heap.size]? = some (.cells #[.int .i64 o, .int .i64 s, .int .i64 t, .int .i64 v] 93 (0, 0)) ∧ Below w.heap.size w wr) (fun i _ => n - (intOf i).toNat)
      case atStart => exact ⟨0, Nat.zero_le _, rfl, fun i h => absurd h (by omega), Q0.out, HB0.out⟩
      case round =>
        obtain ⟨k, hk, rfl, hp, hq, hb⟩ := hrel
        have HP := hid hp
        have HB := hid hb
        have HQ := hid hq
        have hszl := lt_of_block hq
        clear hp hq
        by_cases hlt : k < n
        · obtain ⟨b, off, rfl, hbl, hc⟩ := hs.2 (by omega)
          obtain ⟨sd, es⟩ : ∃ sd, sd = ss.getD k stm0 := ⟨_, rfl⟩
          have hk4 := hc k hlt
          rw [← es] at hk4
          obtain ⟨x1, x2, x3, co, cn, cc, x4, hcn, hit⟩ := hk4
          have HI : Hid (∀ w', Below wr.heap.size wr w' → ItemsOf w' co cn sd.code) := hid (fun w' h => hit.below (hb.trans (h.mono hb.size)))
          obtain ⟨kd, a, bb, code⟩ := sd
          have k1 : wr.cell? ⟨b, off + k * 4, none⟩ = some (.int .i64 kd) := (hb.cell (p := ⟨b, off + k * 4, none⟩) hbl).trans x1
          have k2 : wr.cell? ⟨b, off + k * 4 + 1, none⟩ = some (.int .i64 a) := (hb.cell (p := ⟨b, off + k * 4 + 1, none⟩) hbl).trans x2
          have k3 : wr.cell? ⟨b, off + k * 4 + 2, none⟩ = some (.int .i64 bb) := (hb.cell (p := ⟨b, off + k * 4 + 2, none⟩) hbl).trans x3
          have k4 : wr.cell? ⟨b, off + k * 4 + 3, none⟩ = some (.slice co cn cc) := (hb.cell (p := ⟨b, off + k * 4 + 3, none⟩) hbl).trans x4
          have EL : Hid (code.length = cn) := hit.1
          have ES := hid es
          clear hc hs hb es x1 x2 x3 x4 hit
          obtain ⟨mA, hmA⟩ : ∃ m, m = mostA kd ⟨o, s, t, v⟩ := ⟨_, rfl⟩
          obtain ⟨mB, hmB⟩ : ∃ m, m = mostB kd ⟨o, s, t, v⟩ := ⟨_, rfl⟩
          obtain ⟨bk, hbk⟩ : ∃ x, x = betB kd 1 9 := ⟨_, rfl⟩
          obtain ⟨ba, hba⟩ : ∃ x, x = betB a 0 mA := ⟨_, rfl⟩
          obtain ⟨b2, hb2⟩ : ∃ x, x = betB bb 0 mB := ⟨_, rfl⟩
          obtain ⟨hc, hhc⟩ : ∃ x, x = hasB kd := ⟨_, rfl⟩
          obtain ⟨cb, hcb⟩ : ∃ x, x = codeB code v := ⟨_, rfl⟩
          have C1 := hid (l1Between_of kd 1 9 bk hbk)
          have C2 := hid (l1Between_of a 0 mA ba hba)
          have C3 := hid (l1Between_of bb 0 mB b2 hb2)
          have C4 : Hid (∀ w, Calls Tryz.prog 87 #[.int .i64 kd] w fun e w' => e = .returned (.bool hc) ∧ w' = w) := fun w => by rw [hhc]; exact l1HasCode_any kd w
          have C5 : Hid (∀ w, Calls Tryz.prog 86 #[.int .i64 kd, .agg #[.int .i64 o, .int .i64 s, .int .i64 t, .int .i64 v]] w fun e w' => e = .returned (.tuple #[.int .i64 mA, .int .i64 mB]) ∧ Below w.heap.size w w') := fun w => by rw [hmA, hmB]; exact l1Most_any kd o s t v w hlim
          have C6 : Hid (∀ w', Below wr.heap.size wr w' → Calls Tryz.prog 64 #[.slice co cn cc, .int .i64 v] w' fun e w'' => e = .returned (.bool cb) ∧ Below w'.heap.size w' w'') := fun w' h => by rw [hcb]; exact specCodeOK_any co cn cc code v w' hcn (HI.out w' h)
          have ER : Hid (stmB ⟨o, s, t, v⟩ ⟨kd, a, bb, code⟩ = (bk && ba && b2 && (if hc then cb else decide (cn = 0)))) := hid (by simp only [stmB]; rw [← hmA, ← hmB, ← hbk, ← hba, ← hb2, ← hhc, ← hcb, EL.out])
          have Q1 := hid (block_below HQ.out (below1 wr (.cells #[.int .i64 kd, .int .i64 a, .int .i64 bb, .slice co cn cc] 143)))
          have R1 := hid (heap_alloc_new wr (.cells #[.int .i64 kd, .int .i64 a, .int .i64 bb, .slice co cn cc] 143))
          obtain ⟨q10, q11, q12, q13⟩ := quad_cells Q1.out
          clear hmA hmB hbk hba hb2 hhc hcb
          cases bk with
          | false =>
            go_wp2_with (go_at_call 17; refine (C1.out _).mono ?_; rintro e w1 ⟨rfl, hw⟩; obtain rfl := hw.symm)
            go_ret
            exact ⟨ret_bool (stms_no HL.out hlt (by rw [← ES.out, ER.out]; simp)).symm, HB.out.trans ((below1 _ _).mono HB.out.size)⟩
          | true =>
            cases ba with
            | false =>
              go_wp2_with (first | (go_at_call_of 17 (Value.int .i64 (9 : Int)); refine (C1.out _).mono ?_; rintro e w1 ⟨rfl, hw⟩; obtain rfl := hw.symm) | (go_at_call 86; refine (C5.out _).mono ?_; rintro e w1 ⟨rfl, hb1⟩; have B1 := hid hb1; obtain ⟨r10, r11, r12, r13⟩ := quad_cells (block_below R1.out hb1); clear hb1) | (go_at_call_of 17 (Value.int .i64 mA); refine (C2.out _).mono ?_; rintro e w2 ⟨rfl, hw⟩; obtain rfl := hw.symm))
              go_ret
              exact ⟨ret_bool (stms_no HL.out hlt (by rw [← ES.out, ER.out]; simp)).symm, (HB.out.trans ((below1 _ _).mono HB.out.size)).trans (B1.out.mono (by simp; omega))⟩
            | true =>
              cases b2 with
              | false =>
                go_wp2_with (first | (go_at_call_of 17 (Value.int .i64 (9 : Int)); refine (C1.out _).mono ?_; rintro e w1 ⟨rfl, hw⟩; obtain rfl := hw.symm) | (go_at_call 86; refine (C5.out _).mono ?_; rintro e w1 ⟨rfl, hb1⟩; have B1 := hid hb1; obtain ⟨r10, r11, r12, r13⟩ := quad_cells (block_below R1.out hb1); clear hb1) | (go_at_call_of 17 (Value.int .i64 mA); refine (C2.out _).mono ?_; rintro e w2 ⟨rfl, hw⟩; obtain rfl := hw.symm) | (go_at_call_of 17 (Value.int .i64 mB); refine (C3.out _).mono ?_; rintro e w2 ⟨rfl, hw⟩; obtain rfl := hw.symm))
                go_ret
                exact ⟨ret_bool (stms_no HL.out hlt (by rw [← ES.out, ER.out]; simp)).symm, (HB.out.trans ((below1 _ _).mono HB.out.size)).trans (B1.out.mono (by simp; omega))⟩
              | true =>
                cases hc with
                | true =>
                  cases cb with
                  | false =>
                    go_wp2_with (first | (go_at_call_of 17 (Value.int .i64 (9 : Int)); refine (C1.out _).mono ?_; rintro e w1 ⟨rfl, hw⟩; obtain rfl := hw.symm) | (go_at_call 86; refine (C5.out _).mono ?_; rintro e w1 ⟨rfl, hb1⟩; have B1 := hid ((below1 _ _).trans (hb1.mono (by simp))); obtain ⟨r10, r11, r12, r13⟩ := quad_cells (block_below R1.out hb1); obtain ⟨s10, s11, s12, s13⟩ := quad_cells (block_below Q1.out hb1); clear hb1) | (go_at_call_of 17 (Value.int .i64 mA); refine (C2.out _).mono ?_; rintro e w2 ⟨rfl, hw⟩; obtain rfl := hw.symm) | (go_at_call_of 17 (Value.int .i64 mB); refine (C3.out _).mono ?_; rintro e w2 ⟨rfl, hw⟩; obtain rfl := hw.symm) | (go_at_call 87; refine (C4.out _).mono ?_; rintro e w2 ⟨rfl, hw⟩; obtain rfl := hw.symm) | (go_at_call 64; refine (C6.out _ B1.out).mono ?_; rintro e w2 ⟨rfl, hb2⟩; have B2 := hid (B1.out.trans (hb2.mono B1.out.size)); clear hb2))
                    go_ret
                    exact ⟨ret_bool (stms_no HL.out hlt (by rw [← ES.out, ER.out]; simp)).symm, HB.out.trans (B2.out.mono HB.out.size)⟩
                  | true =>
                    go_wp2_with (first | (go_at_call_of 17 (Value.int .i64 (9 : Int)); refine (C1.out _).mono ?_; rintro e w1 ⟨rfl, hw⟩; obtain rfl := hw.symm) | (go_at_call 86; refine (C5.out _).mono ?_; rintro e w1 ⟨rfl, hb1⟩; have B1 := hid ((below1 _ _).trans (hb1.mono (by simp))); have R2 := hid (block_below R1.out hb1); obtain ⟨r10, r11, r12, r13⟩ := quad_cells R2.out; have Q2 := hid (block_below Q1.out hb1); obtain ⟨s10, s11, s12, s13⟩ := quad_cells Q2.out; clear hb1) | (go_at_call_of 17 (Value.int .i64 mA); refine (C2.out _).mono ?_; rintro e w2 ⟨rfl, hw⟩; obtain rfl := hw.symm) | (go_at_call_of 17 (Value.int .i64 mB); refine (C3.out _).mono ?_; rintro e w2 ⟨rfl, hw⟩; obtain rfl := hw.symm) | (go_at_call 87; refine (C4.out _).mono ?_; rintro e w2 ⟨rfl, hw⟩; obtain rfl := hw.symm) | (go_at_call 64; refine (C6.out _ B1.out).mono ?_; rintro e w2 ⟨rfl, hb2⟩; have B2 := hid (B1.out.trans (hb2.mono B1.out.size)); obtain ⟨u10, u11, u12, u13⟩ := quad_cells (block_below R2.out hb2); have Q3 := hid (block_below Q2.out hb2); clear hb2))
                    go_roundw
                    case rel =>
                      refine ⟨k + 1, by omega, by go_num, fun i hi => ?_, Q3.out, HB.out.trans (B2.out.mono HB.out.size)⟩
                      by_cases e : i = k
                      · subst e; rw [← ES.out, ER.out]; simp
                      · exact HP.out i (by omega)
                    case measure => simp [intOf]; omega
                | false =>
                  by_cases hz : cn = 0
                  · have hz2 : ((cn : Int) != 0) = false := by simp [hz]
                    have HZ := hid hz
                    clear hz
                    go_wp2_with (first | (go_at_call_of 17 (Value.int .i64 (9 : Int)); refine (C1.out _).mono ?_; rintro e w1 ⟨rfl, hw⟩; obtain rfl := hw.symm) | (go_at_call 86; refine (C5.out _).mono ?_; rintro e w1 ⟨rfl, hb1⟩; have B1 := hid ((below1 _ _).trans (hb1.mono (by simp))); have R2 := hid (block_below R1.out hb1); obtain ⟨r10, r11, r12, r13⟩ := quad_cells R2.out; have Q2 := hid (block_below Q1.out hb1); obtain ⟨s10, s11, s12, s13⟩ := quad_cells Q2.out; clear hb1) | (go_at_call_of 17 (Value.int .i64 mA); refine (C2.out _).mono ?_; rintro e w2 ⟨rfl, hw⟩; obtain rfl := hw.symm) | (go_at_call_of 17 (Value.int .i64 mB); refine (C3.out _).mono ?_; rintro e w2 ⟨rfl, hw⟩; obtain rfl := hw.symm) | (go_at_call 87; refine (C4.out _).mono ?_; rintro e w2 ⟨rfl, hw⟩; obtain rfl := hw.symm))
                    go_roundw
                    case rel =>
                      refine ⟨k + 1, by omega, by go_num, fun i hi => ?_, Q2.out, HB.out.trans (B1.out.mono HB.out.size)⟩
                      by_cases e : i = k
                      · subst e; rw [← ES.out, ER.out]; simp [HZ.out]
                      · exact HP.out i (by omega)
                    case measure => simp [intOf]; omega
                  · have hz2 : ((cn : Int) != 0) = true := by simp; omega
                    have HZ := hid hz
                    clear hz
                    go_wp2_with (first | (go_at_call_of 17 (Value.int .i64 (9 : Int)); refine (C1.out _).mono ?_; rintro e w1 ⟨rfl, hw⟩; obtain rfl := hw.symm) | (go_at_call 86; refine (C5.out _).mono ?_; rintro e w1 ⟨rfl, hb1⟩; have B1 := hid ((below1 _ _).trans (hb1.mono (by simp))); have R2 := hid (block_below R1.out hb1); obtain ⟨r10, r11, r12, r13⟩ := quad_cells R2.out; have Q2 := hid (block_below Q1.out hb1); obtain ⟨s10, s11, s12, s13⟩ := quad_cells Q2.out; clear hb1) | (go_at_call_of 17 (Value.int .i64 mA); refine (C2.out _).mono ?_; rintro e w2 ⟨rfl, hw⟩; obtain rfl := hw.symm) | (go_at_call_of 17 (Value.int .i64 mB); refine (C3.out _).mono ?_; rintro e w2 ⟨rfl, hw⟩; obtain rfl := hw.symm) | (go_at_call 87; refine (C4.out _).mono ?_; rintro e w2 ⟨rfl, hw⟩; obtain rfl := hw.symm))
                    go_ret
                    exact ⟨ret_bool (stms_no HL.out hlt (by rw [← ES.out, ER.out]; simp [HZ.out])).symm, HB.out.trans (B1.out.mono HB.out.size)⟩
        · have e : k = n := by omega
          subst e
          clear hs hb
          go_wp2
          go_ret
          refine ⟨ret_bool ?_, HB.out⟩
          symm
          unfold stmsB
          rw [decide_eq_true_iff]
          exact ⟨hlim, by rw [HL.out]; exact h50, by rw [HL.out]; exact HP.out⟩
    · have i50 : (50 : Int) < (n : Int) := by omega
      have E : Hid (stmsB ⟨o, s, t, v⟩ ss = false) := hid (by unfold stmsB; rw [decide_eq_false_iff_not]; intro h; have := h.2.1; rw [HL.out] at this; exact h50 this)
      clear hs
      go_enter Tryz.func63, Tryz.ntmps63
      go_wp2_with (go_at_call 84; refine (CL.out _).mono ?_; rintro e w1 ⟨rfl, hb⟩; have HB := hid hb; clear hb)
      go_ret
      exact ⟨ret_bool E.out.symm, (below1 _ _).trans (HB.out.mono (by simp))⟩

end Go.Proofs.YtkcbomhhdfgihaaGreat
