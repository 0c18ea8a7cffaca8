import Derived.Test.YthaklmdhkkfigaaGreatNa
namespace Go.Proofs.YthaklmdhkkfigaaGreat
open Go.RowKit Go.Sort

def mostA (k : Int) (l : LimD) : Int := if k = 1 then l.v - 1 else if k = 3 ∨ k = 4 then l.o - 1 else if k = 8 ∨ k = 9 then l.t - 1 else 0

def mostB (k : Int) (l : LimD) : Int := if k = 3 ∨ k = 4 ∨ k = 5 then l.s - 1 else if k = 8 then 999999999 else 0

def hasB (k : Int) : Bool := decide (k ≠ 6 ∧ k ≠ 7 ∧ k ≠ 9)

set_option maxHeartbeats 1600000 in
theorem l1Most_any (k o s t v : Int) (w : World) (hl : limP ⟨o, s, t, v⟩) : Calls Tryz.prog 211 #[.int .i64 k, .agg #[.int .i64 o, .int .i64 s, .int .i64 t, .int .i64 v]] w fun e w' => e = .returned (.tuple #[.int .i64 (mostA k ⟨o, s, t, v⟩), .int .i64 (mostB k ⟨o, s, t, v⟩)]) ∧ Below w.heap.size w w' := by
  obtain ⟨⟨o1, o2⟩, ⟨s1, s2⟩, ⟨t1, t2⟩, ⟨v1, v2⟩⟩ := hl
  simp only at o1 o2 s1 s2 t1 t2 v1 v2
  by_cases h1 : k = 1
  · subst h1
    go_enter Tryz.func211, Tryz.ntmps211
    go_wp2
    go_ret2
    exact ⟨ret_two (by simp [mostA]) (by simp [mostB]), below1 _ _⟩
  by_cases h3 : k = 3
  · subst h3
    go_enter Tryz.func211, Tryz.ntmps211
    go_wp2
    go_quiet (fail)
    go_wp2
    go_ret2
    exact ⟨ret_two (by simp [mostA]) (by simp [mostB]), belowDraws (below1 _ _) _⟩
  by_cases h4 : k = 4
  · subst h4
    go_enter Tryz.func211, Tryz.ntmps211
    go_wp2
    go_quiet (fail)
    go_wp2
    go_ret2
    exact ⟨ret_two (by simp [mostA]) (by simp [mostB]), belowDraws (below1 _ _) _⟩
  by_cases h5 : k = 5
  · subst h5
    go_enter Tryz.func211, Tryz.ntmps211
    go_wp2
    go_quiet (fail)
    go_wp2
    go_ret2
    exact ⟨ret_two (by simp [mostA]) (by simp [mostB]), belowDraws (below1 _ _) _⟩
  by_cases h8 : k = 8
  · subst h8
    go_enter Tryz.func211, Tryz.ntmps211
    go_wp2
    go_ret2
    exact ⟨ret_two (by simp [mostA]) (by simp [mostB]), below1 _ _⟩
  by_cases h9 : k = 9
  · subst h9
    go_enter Tryz.func211, Tryz.ntmps211
    go_wp2
    go_ret2
    exact ⟨ret_two (by simp [mostA]) (by simp [mostB]), below1 _ _⟩
  have e1 : (k == 1) = false := by simpa using h1
  have e3 : (k == 3) = false := by simpa using h3
  have e4 : (k == 4) = false := by simpa using h4
  have e5 : (k == 5) = false := by simpa using h5
  have e8 : (k == 8) = false := by simpa using h8
  have e9 : (k == 9) = false := by simpa using h9
  have E : Hid (mostA k ⟨o, s, t, v⟩ = 0 ∧ mostB k ⟨o, s, t, v⟩ = 0) := hid (by simp [mostA, mostB, h1, h3, h4, h5, h8, h9])
  clear h1 h3 h4 h5 h8 h9
  go_enter Tryz.func211, Tryz.ntmps211
  go_wp2
  go_ret2
  exact ⟨ret_two E.out.1.symm E.out.2.symm, below1 _ _⟩

set_option maxHeartbeats 400000 in
theorem l1HasCode_any (k : Int) (w : World) : Calls Tryz.prog 212 #[.int .i64 k] w fun e w' => e = .returned (.bool (hasB k)) ∧ w' = w := by
  by_cases h6 : k = 6
  · subst h6
    go_enter Tryz.func212, Tryz.ntmps212
    go_wp2
    go_ret
    exact ⟨ret_bool (by simp [hasB]), rfl⟩
  by_cases h7 : k = 7
  · subst h7
    go_enter Tryz.func212, Tryz.ntmps212
    go_wp2
    go_ret
    exact ⟨ret_bool (by simp [hasB]), rfl⟩
  by_cases h9 : k = 9
  · subst h9
    go_enter Tryz.func212, Tryz.ntmps212
    go_wp2
    go_ret
    exact ⟨ret_bool (by simp [hasB]), rfl⟩
  have e6 : (k != 6) = true := by simpa using h6
  have e7 : (k != 7) = true := by simpa using h7
  have e9 : (k != 9) = true := by simpa using h9
  have E : Hid (hasB k = true) := hid (by simp [hasB, h6, h7, h9])
  clear h6 h7 h9
  go_enter Tryz.func212, Tryz.ntmps212
  go_wp2
  go_ret
  exact ⟨ret_bool E.out.symm, rfl⟩

end Go.Proofs.YthaklmdhkkfigaaGreat
namespace Go.Proofs.YthaklmdhkkfigaaGreat
open Go.RowKit Go.Sort

def stmB (l : LimD) (s : StmD) : Bool :=
  betB s.kind 1 9 && betB s.a 0 (mostA s.kind l) && betB s.b 0 (mostB s.kind l) && (if hasB s.kind then codeB s.code l.v else decide (s.code.length = 0))

abbrev stmsP (l : LimD) (ss : List StmD) (k : Nat) : Prop := ∀ i, i < k → stmB l (ss.getD i stm0) = true

def stmsB (l : LimD) (ss : List StmD) : Bool := decide (limP l ∧ ss.length ≤ 50 ∧ stmsP l ss ss.length)

theorem stms_no {l : LimD} {ss : List StmD} {k n : Nat} (hl : ss.length = n) (hlt : k < n) (h : stmB l (ss.getD k stm0) = false) : stmsB l ss = false := by
  unfold stmsB
  rw [decide_eq_false_iff_not]
  intro hh
  have := hh.2.2 k (by omega)
  rw [h] at this
  cases this

set_option maxHeartbeats 4000000 in
theorem specStmsOK_any (ao : Option Addr) (n c : Nat) (ss : List StmD) (o s t v : Int) (w : World) (hn : n ≤ 9223372036854775807) (hs : StmsOf w ao n ss) :
    Calls Tryz.prog 181 #[.slice ao n c, .agg #[.int .i64 o, .int .i64 s, .int .i64 t, .int .i64 v]] w fun e w' => e = .returned (.bool (stmsB ⟨o, s, t, v⟩ ss)) ∧ Below w.heap.size w w' := by
  have HL := hid hs.1
  obtain ⟨lb, hlb⟩ : ∃ lb, lb = limB ⟨o, s, t, v⟩ := ⟨_, rfl⟩
  have CL : Hid (∀ w, Calls Tryz.prog 209 #[.agg #[.int .i64 o, .int .i64 s, .int .i64 t, .int .i64 v]] w fun e w' => e = .returned (.bool lb) ∧ Below w.heap.size w w') := fun w => by rw [hlb]; exact l1LimOK_any o s t v w
  cases lb with
  | false =>
    have E : Hid (stmsB ⟨o, s, t, v⟩ ss = false) := hid (by unfold stmsB; rw [decide_eq_false_iff_not]; intro h; rw [show limB ⟨o, s, t, v⟩ = true from decide_eq_true h.1] at hlb; cases hlb)
    clear hs hlb
    go_enter Tryz.func181, Tryz.ntmps181
    go_wp2_with (go_at_call 209; refine (CL.out _).mono ?_; rintro e w1 ⟨rfl, hb⟩; have HB := hid hb; clear hb)
    go_ret
    exact ⟨ret_bool E.out.symm, (below1 _ _).trans (HB.out.mono (by simp))⟩
  | true =>
    have hlim : limP ⟨o, s, t, v⟩ := by have := hlb.symm; unfold limB at this; exact of_decide_eq_true this
    clear hlb
    by_cases h50 : n ≤ 50
    · have i50 : ¬ (50 : Int) < (n : Int) := by omega
      go_enter Tryz.func181, Tryz.ntmps181
      go_wp2_with (go_at_call 209; refine (CL.out _).mono ?_; rintro e w1 ⟨rfl, hb⟩; have HB0 := hid ((below1 _ _).trans (hb.mono (by simp))); have Q0 := hid (block_below (heap_alloc_new w _) hb); clear hb)
      go_loopw [19] (fun i wr => ∃ k : Nat, k ≤ n ∧ i = .int .i64 k ∧ stmsP ⟨o, s, t, v⟩ ss k ∧ wr.heap[w.heap.size]? = some (.cells #[.int .i64 o, .int .i64 s, .int .i64 t, .int .i64 v] 148 (0, 0)) ∧ Below w.heap.size w wr) (fun i _ => n - (intOf i).toNat)
      case atStart => exact ⟨0, Nat.zero_le _, rfl, fun i h => absurd h (by omega), Q0.out, HB0.out⟩
      case round =>
        obtain ⟨k, hk, rfl, hp, hq, hb⟩ := hrel
        have HP := hid hp
        have HB := hid hb
        have HQ := hid hq
        have hszl := lt_of_block hq
        clear hp hq
        by_cases hlt : k < n
        · obtain ⟨b, off, rfl, hbl, hc⟩ := hs.2 (by omega)
          obtain ⟨sd, es⟩ : ∃ sd, sd = ss.getD k stm0 := ⟨_, rfl⟩
          have hk4 := hc k hlt
          rw [← es] at hk4
          obtain ⟨x1, x2, x3, co, cn, cc, x4, hcn, hit⟩ := hk4
          have HI : Hid (∀ w', Below wr.heap.size wr w' → ItemsOf w' co cn sd.code) := hid (fun w' h => hit.below (hb.trans (h.mono hb.size)))
          obtain ⟨kd, a, bb, code⟩ := sd
          have k1 : wr.cell? ⟨b, off + k * 4, none⟩ = some (.int .i64 kd) := (hb.cell (p := ⟨b, off + k * 4, none⟩) hbl).trans x1
          have k2 : wr.cell? ⟨b, off + k * 4 + 1, none⟩ = some (.int .i64 a) := (hb.cell (p := ⟨b, off + k * 4 + 1, none⟩) hbl).trans x2
          have k3 : wr.cell? ⟨b, off + k * 4 + 2, none⟩ = some (.int .i64 bb) := (hb.cell (p := ⟨b, off + k * 4 + 2, none⟩) hbl).trans x3
          have k4 : wr.cell? ⟨b, off + k * 4 + 3, none⟩ = some (.slice co cn cc) := (hb.cell (p := ⟨b, off + k * 4 + 3, none⟩) hbl).trans x4
          have EL : Hid (code.length = cn) := hit.1
          have ES := hid es
          clear hc hs hb es x1 x2 x3 x4 hit
          obtain ⟨mA, hmA⟩ : ∃ m, m = mostA kd ⟨o, s, t, v⟩ := ⟨_, rfl⟩
          obtain ⟨mB, hmB⟩ : ∃ m, m = mostB kd ⟨o, s, t, v⟩ := ⟨_, rfl⟩
          obtain ⟨bk, hbk⟩ : ∃ x, x = betB kd 1 9 := ⟨_, rfl⟩
          obtain ⟨ba, hba⟩ : ∃ x, x = betB a 0 mA := ⟨_, rfl⟩
          obtain ⟨b2, hb2⟩ : ∃ x, x = betB bb 0 mB := ⟨_, rfl⟩
          obtain ⟨hc, hhc⟩ : ∃ x, x = hasB kd := ⟨_, rfl⟩
          obtain ⟨cb, hcb⟩ : ∃ x, x = codeB code v := ⟨_, rfl⟩
          have C1 := hid (l1Between_of kd 1 9 bk hbk)
          have C2 := hid (l1Between_of a 0 mA ba hba)
          have C3 := hid (l1Between_of bb 0 mB b2 hb2)
          have C4 : Hid (∀ w, Calls Tryz.prog 212 #[.int .i64 kd] w fun e w' => e = .returned (.bool hc) ∧ w' = w) := fun w => by rw [hhc]; exact l1HasCode_any kd w
          have C5 : Hid (∀ w, Calls Tryz.prog 211 #[.int .i64 kd, .agg #[.int .i64 o, .int .i64 s, .int .i64 t, .int .i64 v]] w fun e w' => e = .returned (.tuple #[.int .i64 mA, .int .i64 mB]) ∧ Below w.heap.size w w') := fun w => by rw [hmA, hmB]; exact l1Most_any kd o s t v w hlim
          have C6 : Hid (∀ w', Below wr.heap.size wr w' → Calls Tryz.prog 182 #[.slice co cn cc, .int .i64 v] w' fun e w'' => e = .returned (.bool cb) ∧ Below w'.heap.size w' w'') := fun w' h => by rw [hcb]; exact specCodeOK_any co cn cc code v w' hcn (HI.out w' h)
          have ER : Hid (stmB ⟨o, s, t, v⟩ ⟨kd, a, bb, code⟩ = (bk && ba && b2 && (if hc then cb else decide (cn = 0)))) := hid (by simp only [stmB]; rw [← hmA, ← hmB, ← hbk, ← hba, ← hb2, ← hhc, ← hcb, EL.out])
          have Q1 := hid (block_below HQ.out (below1 wr (.cells #[.int .i64 kd, .int .i64 a, .int .i64 bb, .slice co cn cc] 223)))
          have R1 := hid (heap_alloc_new wr (.cells #[.int .i64 kd, .int .i64 a, .int .i64 bb, .slice co cn cc] 223))
          obtain ⟨q10, q11, q12, q13⟩ := quad_cells Q1.out
          clear hmA hmB hbk hba hb2 hhc hcb
          cases bk with
          | false =>
            go_wp2_with (go_at_call 31; refine (C1.out _).mono ?_; rintro e w1 ⟨rfl, hw⟩; obtain rfl := hw.symm)
            go_ret
            exact ⟨ret_bool (stms_no HL.out hlt (by rw [← ES.out, ER.out]; simp)).symm, HB.out.trans ((below1 _ _).mono HB.out.size)⟩
          | true =>
            cases ba with
            | false =>
              go_wp2_with (first | (go_at_call_of 31 (Value.int .i64 (9 : Int)); refine (C1.out _).mono ?_; rintro e w1 ⟨rfl, hw⟩; obtain rfl := hw.symm) | (go_at_call 211; refine (C5.out _).mono ?_; rintro e w1 ⟨rfl, hb1⟩; have B1 := hid hb1; obtain ⟨r10, r11, r12, r13⟩ := quad_cells (block_below R1.out hb1); clear hb1) | (go_at_call_of 31 (Value.int .i64 mA); refine (C2.out _).mono ?_; rintro e w2 ⟨rfl, hw⟩; obtain rfl := hw.symm))
              go_ret
              exact ⟨ret_bool (stms_no HL.out hlt (by rw [← ES.out, ER.out]; simp)).symm, (HB.out.trans ((below1 _ _).mono HB.out.size)).trans (B1.out.mono (by simp; omega))⟩
            | true =>
              cases b2 with
              | false =>
                go_wp2_with (first | (go_at_call_of 31 (Value.int .i64 (9 : Int)); refine (C1.out _).mono ?_; rintro e w1 ⟨rfl, hw⟩; obtain rfl := hw.symm) | (go_at_call 211; refine (C5.out _).mono ?_; rintro e w1 ⟨rfl, hb1⟩; have B1 := hid hb1; obtain ⟨r10, r11, r12, r13⟩ := quad_cells (block_below R1.out hb1); clear hb1) | (go_at_call_of 31 (Value.int .i64 mA); refine (C2.out _).mono ?_; rintro e w2 ⟨rfl, hw⟩; obtain rfl := hw.symm) | (go_at_call_of 31 (Value.int .i64 mB); refine (C3.out _).mono ?_; rintro e w2 ⟨rfl, hw⟩; obtain rfl := hw.symm))
                go_ret
                exact ⟨ret_bool (stms_no HL.out hlt (by rw [← ES.out, ER.out]; simp)).symm, (HB.out.trans ((below1 _ _).mono HB.out.size)).trans (B1.out.mono (by simp; omega))⟩
              | true =>
                cases hc with
                | true =>
                  cases cb with
                  | false =>
                    go_wp2_with (first | (go_at_call_of 31 (Value.int .i64 (9 : Int)); refine (C1.out _).mono ?_; rintro e w1 ⟨rfl, hw⟩; obtain rfl := hw.symm) | (go_at_call 211; refine (C5.out _).mono ?_; rintro e w1 ⟨rfl, hb1⟩; have B1 := hid ((below1 _ _).trans (hb1.mono (by simp))); obtain ⟨r10, r11, r12, r13⟩ := quad_cells (block_below R1.out hb1); obtain ⟨s10, s11, s12, s13⟩ := quad_cells (block_below Q1.out hb1); clear hb1) | (go_at_call_of 31 (Value.int .i64 mA); refine (C2.out _).mono ?_; rintro e w2 ⟨rfl, hw⟩; obtain rfl := hw.symm) | (go_at_call_of 31 (Value.int .i64 mB); refine (C3.out _).mono ?_; rintro e w2 ⟨rfl, hw⟩; obtain rfl := hw.symm) | (go_at_call 212; refine (C4.out _).mono ?_; rintro e w2 ⟨rfl, hw⟩; obtain rfl := hw.symm) | (go_at_call 182; refine (C6.out _ B1.out).mono ?_; rintro e w2 ⟨rfl, hb2⟩; have B2 := hid (B1.out.trans (hb2.mono B1.out.size)); clear hb2))
                    go_ret
                    exact ⟨ret_bool (stms_no HL.out hlt (by rw [← ES.out, ER.out]; simp)).symm, HB.out.trans (B2.out.mono HB.out.size)⟩
                  | true =>
                    go_wp2_with (first | (go_at_call_of 31 (Value.int .i64 (9 : Int)); refine (C1.out _).mono ?_; rintro e w1 ⟨rfl, hw⟩; obtain rfl := hw.symm) | (go_at_call 211; refine (C5.out _).mono ?_; rintro e w1 ⟨rfl, hb1⟩; have B1 := hid ((below1 _ _).trans (hb1.mono (by simp))); have R2 := hid (block_below R1.out hb1); obtain ⟨r10, r11, r12, r13⟩ := quad_cells R2.out; have Q2 := hid (block_below Q1.out hb1); obtain ⟨s10, s11, s12, s13⟩ := quad_cells Q2.out; clear hb1) | (go_at_call_of 31 (Value.int .i64 mA); refine (C2.out _).mono ?_; rintro e w2 ⟨rfl, hw⟩; obtain rfl := hw.symm) | (go_at_call_of 31 (Value.int .i64 mB); refine (C3.out _).mono ?_; rintro e w2 ⟨rfl, hw⟩; obtain rfl := hw.symm) | (go_at_call 212; refine (C4.out _).mono ?_; rintro e w2 ⟨rfl, hw⟩; obtain rfl := hw.symm) | (go_at_call 182; refine (C6.out _ B1.out).mono ?_; rintro e w2 ⟨rfl, hb2⟩; have B2 := hid (B1.out.trans (hb2.mono B1.out.size)); obtain ⟨u10, u11, u12, u13⟩ := quad_cells (block_below R2.out hb2); have Q3 := hid (block_below Q2.out hb2); clear hb2))
                    go_roundw
                    case rel =>
                      refine ⟨k + 1, by omega, by go_num, fun i hi => ?_, Q3.out, HB.out.trans (B2.out.mono HB.out.size)⟩
                      by_cases e : i = k
                      · subst e; rw [← ES.out, ER.out]; simp
                      · exact HP.out i (by omega)
                    case measure => simp [intOf]; omega
                | false =>
                  by_cases hz : cn = 0
                  · have hz2 : ((cn : Int) != 0) = false := by simp [hz]
                    have HZ := hid hz
                    clear hz
                    go_wp2_with (first | (go_at_call_of 31 (Value.int .i64 (9 : Int)); refine (C1.out _).mono ?_; rintro e w1 ⟨rfl, hw⟩; obtain rfl := hw.symm) | (go_at_call 211; refine (C5.out _).mono ?_; rintro e w1 ⟨rfl, hb1⟩; have B1 := hid ((below1 _ _).trans (hb1.mono (by simp))); have R2 := hid (block_below R1.out hb1); obtain ⟨r10, r11, r12, r13⟩ := quad_cells R2.out; have Q2 := hid (block_below Q1.out hb1); obtain ⟨s10, s11, s12, s13⟩ := quad_cells Q2.out; clear hb1) | (go_at_call_of 31 (Value.int .i64 mA); refine (C2.out _).mono ?_; rintro e w2 ⟨rfl, hw⟩; obtain rfl := hw.symm) | (go_at_call_of 31 (Value.int .i64 mB); refine (C3.out _).mono ?_; rintro e w2 ⟨rfl, hw⟩; obtain rfl := hw.symm) | (go_at_call 212; refine (C4.out _).mono ?_; rintro e w2 ⟨rfl, hw⟩; obtain rfl := hw.symm))
                    go_roundw
                    case rel =>
                      refine ⟨k + 1, by omega, by go_num, fun i hi => ?_, Q2.out, HB.out.trans (B1.out.mono HB.out.size)⟩
                      by_cases e : i = k
                      · subst e; rw [← ES.out, ER.out]; simp [HZ.out]
                      · exact HP.out i (by omega)
                    case measure => simp [intOf]; omega
                  · have hz2 : ((cn : Int) != 0) = true := by simp; omega
                    have HZ := hid hz
                    clear hz
                    go_wp2_with (first | (go_at_call_of 31 (Value.int .i64 (9 : Int)); refine (C1.out _).mono ?_; rintro e w1 ⟨rfl, hw⟩; obtain rfl := hw.symm) | (go_at_call 211; refine (C5.out _).mono ?_; rintro e w1 ⟨rfl, hb1⟩; have B1 := hid ((below1 _ _).trans (hb1.mono (by simp))); have R2 := hid (block_below R1.out hb1); obtain ⟨r10, r11, r12, r13⟩ := quad_cells R2.out; have Q2 := hid (block_below Q1.out hb1); obtain ⟨s10, s11, s12, s13⟩ := quad_cells Q2.out; clear hb1) | (go_at_call_of 31 (Value.int .i64 mA); refine (C2.out _).mono ?_; rintro e w2 ⟨rfl, hw⟩; obtain rfl := hw.symm) | (go_at_call_of 31 (Value.int .i64 mB); refine (C3.out _).mono ?_; rintro e w2 ⟨rfl, hw⟩; obtain rfl := hw.symm) | (go_at_call 212; refine (C4.out _).mono ?_; rintro e w2 ⟨rfl, hw⟩; obtain rfl := hw.symm))
                    go_ret
                    exact ⟨ret_bool (stms_no HL.out hlt (by rw [← ES.out, ER.out]; simp [HZ.out])).symm, HB.out.trans (B1.out.mono HB.out.size)⟩
        · have e : k = n := by omega
          subst e
          clear hs hb
          go_wp2
          go_ret
          refine ⟨ret_bool ?_, HB.out⟩
          symm
          unfold stmsB
          rw [decide_eq_true_iff]
          exact ⟨hlim, by rw [HL.out]; exact h50, by rw [HL.out]; exact HP.out⟩
    · have i50 : (50 : Int) < (n : Int) := by omega
      have E : Hid (stmsB ⟨o, s, t, v⟩ ss = false) := hid (by unfold stmsB; rw [decide_eq_false_iff_not]; intro h; have := h.2.1; rw [HL.out] at this; exact h50 this)
      clear hs
      go_enter Tryz.func181, Tryz.ntmps181
      go_wp2_with (go_at_call 209; refine (CL.out _).mono ?_; rintro e w1 ⟨rfl, hb⟩; have HB := hid hb; clear hb)
      go_ret
      exact ⟨ret_bool E.out.symm, (below1 _ _).trans (HB.out.mono (by simp))⟩

end Go.Proofs.YthaklmdhkkfigaaGreat
namespace Go.Proofs.YthaklmdhkkfigaaGreat
open Go.RowKit Go.Sort

def fieldA (k : Int) (l : LimD) : Int := if k = 1 then l.v else if k = 3 ∨ k = 4 then l.o else if k = 8 ∨ k = 9 then l.t else 1

def fieldB (k : Int) (l : LimD) : Int := if k = 3 ∨ k = 4 ∨ k = 5 then l.s else if k = 8 then 1000000000 else 1

def fieldsB (k a b : Int) (cn : Nat) (l : LimD) : Bool := decide (0 ≤ a ∧ a < fieldA k l) && decide (0 ≤ b ∧ b < fieldB k l) && (if hasB k then true else decide (cn = 0))

theorem within_of (n c : Int) (b : Bool) (h : b = decide (0 ≤ n ∧ n < c)) (w : World) : Calls Tryz.prog 76 #[.int .i64 n, .int .i64 c] w fun e w' => e = .returned (.bool b) ∧ w' = w := by
  rw [h]; exact within_any n c w

/-- How a demand ends. -/
def DemEnd (w : World) (b : Bool) (e : Ending) (w' : World) : Prop := (match b with | true => e = .returned (.tuple #[]) | false => Pan e) ∧ Below w.heap.size w w'

set_option maxHeartbeats 1600000 in
theorem dem1 (a b : Int) (co : Option Addr) (cn cc : Nat) (o s t v : Int) (w : World) :
    Calls Tryz.prog 228 #[.agg #[.int .i64 (1), .int .i64 a, .int .i64 b, .slice co cn cc], .agg #[.int .i64 o, .int .i64 s, .int .i64 t, .int .i64 v]] w (DemEnd w (fieldsB (1) a b cn ⟨o, s, t, v⟩)) := by
  obtain ⟨fa, hfa⟩ : ∃ x, x = decide (0 ≤ a ∧ a < v) := ⟨_, rfl⟩
  obtain ⟨fb, hfb⟩ : ∃ x, x = decide (0 ≤ b ∧ b < 1) := ⟨_, rfl⟩
  have C1 := hid (within_of a v fa hfa)
  have C2 := hid (within_of b 1 fb hfb)
  have E : Hid (fieldsB (1) a b cn ⟨o, s, t, v⟩ = (fa && fb)) := hid (by rw [hfa, hfb]; simp [fieldsB, fieldA, fieldB, hasB])
  rw [E.out]
  clear hfa hfb E
  cases fa with
  | false =>
    go_enter Tryz.func228, Tryz.ntmps228
    go_wp2_with (first | (go_at_call_of 76 (Value.int .i64 a); refine (C1.out _).mono ?_; rintro e w1 ⟨rfl, hw⟩; obtain rfl := hw.symm) | (go_at_call_of 76 (Value.int .i64 b); refine (C2.out _).mono ?_; rintro e w1 ⟨rfl, hw⟩; obtain rfl := hw.symm) | (go_at_call_of 220 (Value.bool true); refine (demand_yes _ _).mono ?_; rintro e w1 ⟨rfl, hw⟩; obtain rfl := hw.symm) | (go_at_call_of 220 (Value.bool false); refine (demand_no _ _).mono ?_; rintro e w1 ⟨rfl, hw⟩; obtain rfl := hw.symm))
    exact ⟨rfl, ⟨_, rfl⟩, by first | exact belowDraws (below2 _ _ _) _ | exact below2 _ _ _⟩
  | true =>
    cases fb with
    | false =>
      go_enter Tryz.func228, Tryz.ntmps228
      go_wp2_with (first | (go_at_call_of 76 (Value.int .i64 a); refine (C1.out _).mono ?_; rintro e w1 ⟨rfl, hw⟩; obtain rfl := hw.symm) | (go_at_call_of 76 (Value.int .i64 b); refine (C2.out _).mono ?_; rintro e w1 ⟨rfl, hw⟩; obtain rfl := hw.symm) | (go_at_call_of 220 (Value.bool true); refine (demand_yes _ _).mono ?_; rintro e w1 ⟨rfl, hw⟩; obtain rfl := hw.symm) | (go_at_call_of 220 (Value.bool false); refine (demand_no _ _).mono ?_; rintro e w1 ⟨rfl, hw⟩; obtain rfl := hw.symm))
      exact ⟨rfl, ⟨_, rfl⟩, by first | exact belowDraws (below2 _ _ _) _ | exact below2 _ _ _⟩
    | true =>
      go_enter Tryz.func228, Tryz.ntmps228
      go_wp2_with (first | (go_at_call_of 76 (Value.int .i64 a); refine (C1.out _).mono ?_; rintro e w1 ⟨rfl, hw⟩; obtain rfl := hw.symm) | (go_at_call_of 76 (Value.int .i64 b); refine (C2.out _).mono ?_; rintro e w1 ⟨rfl, hw⟩; obtain rfl := hw.symm) | (go_at_call_of 220 (Value.bool true); refine (demand_yes _ _).mono ?_; rintro e w1 ⟨rfl, hw⟩; obtain rfl := hw.symm) | (go_at_call_of 220 (Value.bool false); refine (demand_no _ _).mono ?_; rintro e w1 ⟨rfl, hw⟩; obtain rfl := hw.symm))
      first | go_end0 | refine bodyPost_ret (results_none rfl _ _ _) rfl ?_
      exact ⟨rfl, by first | exact belowDraws (below2 _ _ _) _ | exact below2 _ _ _⟩

set_option maxHeartbeats 1600000 in
theorem dem3 (a b : Int) (co : Option Addr) (cn cc : Nat) (o s t v : Int) (w : World) :
    Calls Tryz.prog 228 #[.agg #[.int .i64 (3), .int .i64 a, .int .i64 b, .slice co cn cc], .agg #[.int .i64 o, .int .i64 s, .int .i64 t, .int .i64 v]] w (DemEnd w (fieldsB (3) a b cn ⟨o, s, t, v⟩)) := by
  obtain ⟨fa, hfa⟩ : ∃ x, x = decide (0 ≤ a ∧ a < o) := ⟨_, rfl⟩
  obtain ⟨fb, hfb⟩ : ∃ x, x = decide (0 ≤ b ∧ b < s) := ⟨_, rfl⟩
  have C1 := hid (within_of a o fa hfa)
  have C2 := hid (within_of b s fb hfb)
  have E : Hid (fieldsB (3) a b cn ⟨o, s, t, v⟩ = (fa && fb)) := hid (by rw [hfa, hfb]; simp [fieldsB, fieldA, fieldB, hasB])
  rw [E.out]
  clear hfa hfb E
  cases fa with
  | false =>
    go_enter Tryz.func228, Tryz.ntmps228
    go_wp2
    go_quiet (fail)
    go_wp2_with (first | (go_at_call_of 76 (Value.int .i64 a); refine (C1.out _).mono ?_; rintro e w1 ⟨rfl, hw⟩; obtain rfl := hw.symm) | (go_at_call_of 76 (Value.int .i64 b); refine (C2.out _).mono ?_; rintro e w1 ⟨rfl, hw⟩; obtain rfl := hw.symm) | (go_at_call_of 220 (Value.bool true); refine (demand_yes _ _).mono ?_; rintro e w1 ⟨rfl, hw⟩; obtain rfl := hw.symm) | (go_at_call_of 220 (Value.bool false); refine (demand_no _ _).mono ?_; rintro e w1 ⟨rfl, hw⟩; obtain rfl := hw.symm))
    exact ⟨rfl, ⟨_, rfl⟩, by first | exact belowDraws (below2 _ _ _) _ | exact below2 _ _ _⟩
  | true =>
    cases fb with
    | false =>
      go_enter Tryz.func228, Tryz.ntmps228
      go_wp2
      go_quiet (fail)
      go_wp2_with (first | (go_at_call_of 76 (Value.int .i64 a); refine (C1.out _).mono ?_; rintro e w1 ⟨rfl, hw⟩; obtain rfl := hw.symm) | (go_at_call_of 76 (Value.int .i64 b); refine (C2.out _).mono ?_; rintro e w1 ⟨rfl, hw⟩; obtain rfl := hw.symm) | (go_at_call_of 220 (Value.bool true); refine (demand_yes _ _).mono ?_; rintro e w1 ⟨rfl, hw⟩; obtain rfl := hw.symm) | (go_at_call_of 220 (Value.bool false); refine (demand_no _ _).mono ?_; rintro e w1 ⟨rfl, hw⟩; obtain rfl := hw.symm))
      exact ⟨rfl, ⟨_, rfl⟩, by first | exact belowDraws (below2 _ _ _) _ | exact below2 _ _ _⟩
    | true =>
      go_enter Tryz.func228, Tryz.ntmps228
      go_wp2
      go_quiet (fail)
      go_wp2_with (first | (go_at_call_of 76 (Value.int .i64 a); refine (C1.out _).mono ?_; rintro e w1 ⟨rfl, hw⟩; obtain rfl := hw.symm) | (go_at_call_of 76 (Value.int .i64 b); refine (C2.out _).mono ?_; rintro e w1 ⟨rfl, hw⟩; obtain rfl := hw.symm) | (go_at_call_of 220 (Value.bool true); refine (demand_yes _ _).mono ?_; rintro e w1 ⟨rfl, hw⟩; obtain rfl := hw.symm) | (go_at_call_of 220 (Value.bool false); refine (demand_no _ _).mono ?_; rintro e w1 ⟨rfl, hw⟩; obtain rfl := hw.symm))
      first | go_end0 | refine bodyPost_ret (results_none rfl _ _ _) rfl ?_
      exact ⟨rfl, by first | exact belowDraws (below2 _ _ _) _ | exact below2 _ _ _⟩

set_option maxHeartbeats 1600000 in
theorem dem4 (a b : Int) (co : Option Addr) (cn cc : Nat) (o s t v : Int) (w : World) :
    Calls Tryz.prog 228 #[.agg #[.int .i64 (4), .int .i64 a, .int .i64 b, .slice co cn cc], .agg #[.int .i64 o, .int .i64 s, .int .i64 t, .int .i64 v]] w (DemEnd w (fieldsB (4) a b cn ⟨o, s, t, v⟩)) := by
  obtain ⟨fa, hfa⟩ : ∃ x, x = decide (0 ≤ a ∧ a < o) := ⟨_, rfl⟩
  obtain ⟨fb, hfb⟩ : ∃ x, x = decide (0 ≤ b ∧ b < s) := ⟨_, rfl⟩
  have C1 := hid (within_of a o fa hfa)
  have C2 := hid (within_of b s fb hfb)
  have E : Hid (fieldsB (4) a b cn ⟨o, s, t, v⟩ = (fa && fb)) := hid (by rw [hfa, hfb]; simp [fieldsB, fieldA, fieldB, hasB])
  rw [E.out]
  clear hfa hfb E
  cases fa with
  | false =>
    go_enter Tryz.func228, Tryz.ntmps228
    go_wp2
    go_quiet (fail)
    go_wp2_with (first | (go_at_call_of 76 (Value.int .i64 a); refine (C1.out _).mono ?_; rintro e w1 ⟨rfl, hw⟩; obtain rfl := hw.symm) | (go_at_call_of 76 (Value.int .i64 b); refine (C2.out _).mono ?_; rintro e w1 ⟨rfl, hw⟩; obtain rfl := hw.symm) | (go_at_call_of 220 (Value.bool true); refine (demand_yes _ _).mono ?_; rintro e w1 ⟨rfl, hw⟩; obtain rfl := hw.symm) | (go_at_call_of 220 (Value.bool false); refine (demand_no _ _).mono ?_; rintro e w1 ⟨rfl, hw⟩; obtain rfl := hw.symm))
    exact ⟨rfl, ⟨_, rfl⟩, by first | exact belowDraws (below2 _ _ _) _ | exact below2 _ _ _⟩
  | true =>
    cases fb with
    | false =>
      go_enter Tryz.func228, Tryz.ntmps228
      go_wp2
      go_quiet (fail)
      go_wp2_with (first | (go_at_call_of 76 (Value.int .i64 a); refine (C1.out _).mono ?_; rintro e w1 ⟨rfl, hw⟩; obtain rfl := hw.symm) | (go_at_call_of 76 (Value.int .i64 b); refine (C2.out _).mono ?_; rintro e w1 ⟨rfl, hw⟩; obtain rfl := hw.symm) | (go_at_call_of 220 (Value.bool true); refine (demand_yes _ _).mono ?_; rintro e w1 ⟨rfl, hw⟩; obtain rfl := hw.symm) | (go_at_call_of 220 (Value.bool false); refine (demand_no _ _).mono ?_; rintro e w1 ⟨rfl, hw⟩; obtain rfl := hw.symm))
      exact ⟨rfl, ⟨_, rfl⟩, by first | exact belowDraws (below2 _ _ _) _ | exact below2 _ _ _⟩
    | true =>
      go_enter Tryz.func228, Tryz.ntmps228
      go_wp2
      go_quiet (fail)
      go_wp2_with (first | (go_at_call_of 76 (Value.int .i64 a); refine (C1.out _).mono ?_; rintro e w1 ⟨rfl, hw⟩; obtain rfl := hw.symm) | (go_at_call_of 76 (Value.int .i64 b); refine (C2.out _).mono ?_; rintro e w1 ⟨rfl, hw⟩; obtain rfl := hw.symm) | (go_at_call_of 220 (Value.bool true); refine (demand_yes _ _).mono ?_; rintro e w1 ⟨rfl, hw⟩; obtain rfl := hw.symm) | (go_at_call_of 220 (Value.bool false); refine (demand_no _ _).mono ?_; rintro e w1 ⟨rfl, hw⟩; obtain rfl := hw.symm))
      first | go_end0 | refine bodyPost_ret (results_none rfl _ _ _) rfl ?_
      exact ⟨rfl, by first | exact belowDraws (below2 _ _ _) _ | exact below2 _ _ _⟩

set_option maxHeartbeats 1600000 in
theorem dem5 (a b : Int) (co : Option Addr) (cn cc : Nat) (o s t v : Int) (w : World) :
    Calls Tryz.prog 228 #[.agg #[.int .i64 (5), .int .i64 a, .int .i64 b, .slice co cn cc], .agg #[.int .i64 o, .int .i64 s, .int .i64 t, .int .i64 v]] w (DemEnd w (fieldsB (5) a b cn ⟨o, s, t, v⟩)) := by
  obtain ⟨fa, hfa⟩ : ∃ x, x = decide (0 ≤ a ∧ a < 1) := ⟨_, rfl⟩
  obtain ⟨fb, hfb⟩ : ∃ x, x = decide (0 ≤ b ∧ b < s) := ⟨_, rfl⟩
  have C1 := hid (within_of a 1 fa hfa)
  have C2 := hid (within_of b s fb hfb)
  have E : Hid (fieldsB (5) a b cn ⟨o, s, t, v⟩ = (fa && fb)) := hid (by rw [hfa, hfb]; simp [fieldsB, fieldA, fieldB, hasB])
  rw [E.out]
  clear hfa hfb E
  cases fa with
  | false =>
    go_enter Tryz.func228, Tryz.ntmps228
    go_wp2_with (first | (go_at_call_of 76 (Value.int .i64 a); refine (C1.out _).mono ?_; rintro e w1 ⟨rfl, hw⟩; obtain rfl := hw.symm) | (go_at_call_of 76 (Value.int .i64 b); refine (C2.out _).mono ?_; rintro e w1 ⟨rfl, hw⟩; obtain rfl := hw.symm) | (go_at_call_of 220 (Value.bool true); refine (demand_yes _ _).mono ?_; rintro e w1 ⟨rfl, hw⟩; obtain rfl := hw.symm) | (go_at_call_of 220 (Value.bool false); refine (demand_no _ _).mono ?_; rintro e w1 ⟨rfl, hw⟩; obtain rfl := hw.symm))
    exact ⟨rfl, ⟨_, rfl⟩, by first | exact belowDraws (below2 _ _ _) _ | exact below2 _ _ _⟩
  | true =>
    cases fb with
    | false =>
      go_enter Tryz.func228, Tryz.ntmps228
      go_wp2_with (first | (go_at_call_of 76 (Value.int .i64 a); refine (C1.out _).mono ?_; rintro e w1 ⟨rfl, hw⟩; obtain rfl := hw.symm) | (go_at_call_of 76 (Value.int .i64 b); refine (C2.out _).mono ?_; rintro e w1 ⟨rfl, hw⟩; obtain rfl := hw.symm) | (go_at_call_of 220 (Value.bool true); refine (demand_yes _ _).mono ?_; rintro e w1 ⟨rfl, hw⟩; obtain rfl := hw.symm) | (go_at_call_of 220 (Value.bool false); refine (demand_no _ _).mono ?_; rintro e w1 ⟨rfl, hw⟩; obtain rfl := hw.symm))
      exact ⟨rfl, ⟨_, rfl⟩, by first | exact belowDraws (below2 _ _ _) _ | exact below2 _ _ _⟩
    | true =>
      go_enter Tryz.func228, Tryz.ntmps228
      go_wp2_with (first | (go_at_call_of 76 (Value.int .i64 a); refine (C1.out _).mono ?_; rintro e w1 ⟨rfl, hw⟩; obtain rfl := hw.symm) | (go_at_call_of 76 (Value.int .i64 b); refine (C2.out _).mono ?_; rintro e w1 ⟨rfl, hw⟩; obtain rfl := hw.symm) | (go_at_call_of 220 (Value.bool true); refine (demand_yes _ _).mono ?_; rintro e w1 ⟨rfl, hw⟩; obtain rfl := hw.symm) | (go_at_call_of 220 (Value.bool false); refine (demand_no _ _).mono ?_; rintro e w1 ⟨rfl, hw⟩; obtain rfl := hw.symm))
      first | go_end0 | refine bodyPost_ret (results_none rfl _ _ _) rfl ?_
      exact ⟨rfl, by first | exact belowDraws (below2 _ _ _) _ | exact below2 _ _ _⟩

set_option maxHeartbeats 1600000 in
theorem dem8 (a b : Int) (co : Option Addr) (cn cc : Nat) (o s t v : Int) (w : World) :
    Calls Tryz.prog 228 #[.agg #[.int .i64 (8), .int .i64 a, .int .i64 b, .slice co cn cc], .agg #[.int .i64 o, .int .i64 s, .int .i64 t, .int .i64 v]] w (DemEnd w (fieldsB (8) a b cn ⟨o, s, t, v⟩)) := by
  obtain ⟨fa, hfa⟩ : ∃ x, x = decide (0 ≤ a ∧ a < t) := ⟨_, rfl⟩
  obtain ⟨fb, hfb⟩ : ∃ x, x = decide (0 ≤ b ∧ b < 1000000000) := ⟨_, rfl⟩
  have C1 := hid (within_of a t fa hfa)
  have C2 := hid (within_of b 1000000000 fb hfb)
  have E : Hid (fieldsB (8) a b cn ⟨o, s, t, v⟩ = (fa && fb)) := hid (by rw [hfa, hfb]; simp [fieldsB, fieldA, fieldB, hasB])
  rw [E.out]
  clear hfa hfb E
  cases fa with
  | false =>
    go_enter Tryz.func228, Tryz.ntmps228
    go_wp2_with (first | (go_at_call_of 76 (Value.int .i64 a); refine (C1.out _).mono ?_; rintro e w1 ⟨rfl, hw⟩; obtain rfl := hw.symm) | (go_at_call_of 76 (Value.int .i64 b); refine (C2.out _).mono ?_; rintro e w1 ⟨rfl, hw⟩; obtain rfl := hw.symm) | (go_at_call_of 220 (Value.bool true); refine (demand_yes _ _).mono ?_; rintro e w1 ⟨rfl, hw⟩; obtain rfl := hw.symm) | (go_at_call_of 220 (Value.bool false); refine (demand_no _ _).mono ?_; rintro e w1 ⟨rfl, hw⟩; obtain rfl := hw.symm))
    exact ⟨rfl, ⟨_, rfl⟩, by first | exact belowDraws (below2 _ _ _) _ | exact below2 _ _ _⟩
  | true =>
    cases fb with
    | false =>
      go_enter Tryz.func228, Tryz.ntmps228
      go_wp2_with (first | (go_at_call_of 76 (Value.int .i64 a); refine (C1.out _).mono ?_; rintro e w1 ⟨rfl, hw⟩; obtain rfl := hw.symm) | (go_at_call_of 76 (Value.int .i64 b); refine (C2.out _).mono ?_; rintro e w1 ⟨rfl, hw⟩; obtain rfl := hw.symm) | (go_at_call_of 220 (Value.bool true); refine (demand_yes _ _).mono ?_; rintro e w1 ⟨rfl, hw⟩; obtain rfl := hw.symm) | (go_at_call_of 220 (Value.bool false); refine (demand_no _ _).mono ?_; rintro e w1 ⟨rfl, hw⟩; obtain rfl := hw.symm))
      exact ⟨rfl, ⟨_, rfl⟩, by first | exact belowDraws (below2 _ _ _) _ | exact below2 _ _ _⟩
    | true =>
      go_enter Tryz.func228, Tryz.ntmps228
      go_wp2_with (first | (go_at_call_of 76 (Value.int .i64 a); refine (C1.out _).mono ?_; rintro e w1 ⟨rfl, hw⟩; obtain rfl := hw.symm) | (go_at_call_of 76 (Value.int .i64 b); refine (C2.out _).mono ?_; rintro e w1 ⟨rfl, hw⟩; obtain rfl := hw.symm) | (go_at_call_of 220 (Value.bool true); refine (demand_yes _ _).mono ?_; rintro e w1 ⟨rfl, hw⟩; obtain rfl := hw.symm) | (go_at_call_of 220 (Value.bool false); refine (demand_no _ _).mono ?_; rintro e w1 ⟨rfl, hw⟩; obtain rfl := hw.symm))
      first | go_end0 | refine bodyPost_ret (results_none rfl _ _ _) rfl ?_
      exact ⟨rfl, by first | exact belowDraws (below2 _ _ _) _ | exact below2 _ _ _⟩

set_option maxHeartbeats 1600000 in
theorem dem9 (a b : Int) (co : Option Addr) (cn cc : Nat) (o s t v : Int) (w : World) :
    Calls Tryz.prog 228 #[.agg #[.int .i64 (9), .int .i64 a, .int .i64 b, .slice co cn cc], .agg #[.int .i64 o, .int .i64 s, .int .i64 t, .int .i64 v]] w (DemEnd w (fieldsB (9) a b cn ⟨o, s, t, v⟩)) := by
  obtain ⟨fa, hfa⟩ : ∃ x, x = decide (0 ≤ a ∧ a < t) := ⟨_, rfl⟩
  obtain ⟨fb, hfb⟩ : ∃ x, x = decide (0 ≤ b ∧ b < 1) := ⟨_, rfl⟩
  have C1 := hid (within_of a t fa hfa)
  have C2 := hid (within_of b 1 fb hfb)
  have E : Hid (fieldsB (9) a b cn ⟨o, s, t, v⟩ = (fa && fb && decide (cn = 0))) := hid (by rw [hfa, hfb]; simp [fieldsB, fieldA, fieldB, hasB])
  rw [E.out]
  clear hfa hfb E
  cases fa with
  | false =>
    go_enter Tryz.func228, Tryz.ntmps228
    go_wp2_with (first | (go_at_call_of 76 (Value.int .i64 a); refine (C1.out _).mono ?_; rintro e w1 ⟨rfl, hw⟩; obtain rfl := hw.symm) | (go_at_call_of 76 (Value.int .i64 b); refine (C2.out _).mono ?_; rintro e w1 ⟨rfl, hw⟩; obtain rfl := hw.symm) | (go_at_call_of 220 (Value.bool true); refine (demand_yes _ _).mono ?_; rintro e w1 ⟨rfl, hw⟩; obtain rfl := hw.symm) | (go_at_call_of 220 (Value.bool false); refine (demand_no _ _).mono ?_; rintro e w1 ⟨rfl, hw⟩; obtain rfl := hw.symm))
    exact ⟨rfl, ⟨_, rfl⟩, by first | exact belowDraws (below2 _ _ _) _ | exact below2 _ _ _⟩
  | true =>
    cases fb with
    | false =>
      go_enter Tryz.func228, Tryz.ntmps228
      go_wp2_with (first | (go_at_call_of 76 (Value.int .i64 a); refine (C1.out _).mono ?_; rintro e w1 ⟨rfl, hw⟩; obtain rfl := hw.symm) | (go_at_call_of 76 (Value.int .i64 b); refine (C2.out _).mono ?_; rintro e w1 ⟨rfl, hw⟩; obtain rfl := hw.symm) | (go_at_call_of 220 (Value.bool true); refine (demand_yes _ _).mono ?_; rintro e w1 ⟨rfl, hw⟩; obtain rfl := hw.symm) | (go_at_call_of 220 (Value.bool false); refine (demand_no _ _).mono ?_; rintro e w1 ⟨rfl, hw⟩; obtain rfl := hw.symm))
      exact ⟨rfl, ⟨_, rfl⟩, by first | exact belowDraws (below2 _ _ _) _ | exact below2 _ _ _⟩
    | true =>
      by_cases hz : cn = 0
      · subst hz
        go_enter Tryz.func228, Tryz.ntmps228
        go_wp2_with (first | (go_at_call_of 76 (Value.int .i64 a); refine (C1.out _).mono ?_; rintro e w1 ⟨rfl, hw⟩; obtain rfl := hw.symm) | (go_at_call_of 76 (Value.int .i64 b); refine (C2.out _).mono ?_; rintro e w1 ⟨rfl, hw⟩; obtain rfl := hw.symm) | (go_at_call_of 220 (Value.bool true); refine (demand_yes _ _).mono ?_; rintro e w1 ⟨rfl, hw⟩; obtain rfl := hw.symm) | (go_at_call_of 220 (Value.bool false); refine (demand_no _ _).mono ?_; rintro e w1 ⟨rfl, hw⟩; obtain rfl := hw.symm))
        first | go_end0 | refine bodyPost_ret (results_none rfl _ _ _) rfl ?_
        exact ⟨rfl, by first | exact belowDraws (below2 _ _ _) _ | exact below2 _ _ _⟩
      · have hz2 : ((cn : Int) == 0) = false := by simp; omega
        have E2 : Hid ((true && true && decide (cn = 0)) = false) := hid (by simp [hz])
        rw [E2.out]
        clear hz E2
        go_enter Tryz.func228, Tryz.ntmps228
        go_wp2_with (first | (go_at_call_of 76 (Value.int .i64 a); refine (C1.out _).mono ?_; rintro e w1 ⟨rfl, hw⟩; obtain rfl := hw.symm) | (go_at_call_of 76 (Value.int .i64 b); refine (C2.out _).mono ?_; rintro e w1 ⟨rfl, hw⟩; obtain rfl := hw.symm) | (go_at_call_of 220 (Value.bool true); refine (demand_yes _ _).mono ?_; rintro e w1 ⟨rfl, hw⟩; obtain rfl := hw.symm) | (go_at_call_of 220 (Value.bool false); refine (demand_no _ _).mono ?_; rintro e w1 ⟨rfl, hw⟩; obtain rfl := hw.symm))
        exact ⟨rfl, ⟨_, rfl⟩, by first | exact belowDraws (below2 _ _ _) _ | exact below2 _ _ _⟩

set_option maxHeartbeats 1600000 in
theorem dem6 (a b : Int) (co : Option Addr) (cn cc : Nat) (o s t v : Int) (w : World) :
    Calls Tryz.prog 228 #[.agg #[.int .i64 (6), .int .i64 a, .int .i64 b, .slice co cn cc], .agg #[.int .i64 o, .int .i64 s, .int .i64 t, .int .i64 v]] w (DemEnd w (fieldsB (6) a b cn ⟨o, s, t, v⟩)) := by
  obtain ⟨fa, hfa⟩ : ∃ x, x = decide (0 ≤ a ∧ a < 1) := ⟨_, rfl⟩
  obtain ⟨fb, hfb⟩ : ∃ x, x = decide (0 ≤ b ∧ b < 1) := ⟨_, rfl⟩
  have C1 := hid (within_of a 1 fa hfa)
  have C2 := hid (within_of b 1 fb hfb)
  have E : Hid (fieldsB (6) a b cn ⟨o, s, t, v⟩ = (fa && fb && decide (cn = 0))) := hid (by rw [hfa, hfb]; simp [fieldsB, fieldA, fieldB, hasB])
  rw [E.out]
  clear hfa hfb E
  cases fa with
  | false =>
    go_enter Tryz.func228, Tryz.ntmps228
    go_wp2_with (first | (go_at_call_of 76 (Value.int .i64 a); refine (C1.out _).mono ?_; rintro e w1 ⟨rfl, hw⟩; obtain rfl := hw.symm) | (go_at_call_of 76 (Value.int .i64 b); refine (C2.out _).mono ?_; rintro e w1 ⟨rfl, hw⟩; obtain rfl := hw.symm) | (go_at_call_of 220 (Value.bool true); refine (demand_yes _ _).mono ?_; rintro e w1 ⟨rfl, hw⟩; obtain rfl := hw.symm) | (go_at_call_of 220 (Value.bool false); refine (demand_no _ _).mono ?_; rintro e w1 ⟨rfl, hw⟩; obtain rfl := hw.symm))
    exact ⟨rfl, ⟨_, rfl⟩, by first | exact belowDraws (below2 _ _ _) _ | exact below2 _ _ _⟩
  | true =>
    cases fb with
    | false =>
      go_enter Tryz.func228, Tryz.ntmps228
      go_wp2_with (first | (go_at_call_of 76 (Value.int .i64 a); refine (C1.out _).mono ?_; rintro e w1 ⟨rfl, hw⟩; obtain rfl := hw.symm) | (go_at_call_of 76 (Value.int .i64 b); refine (C2.out _).mono ?_; rintro e w1 ⟨rfl, hw⟩; obtain rfl := hw.symm) | (go_at_call_of 220 (Value.bool true); refine (demand_yes _ _).mono ?_; rintro e w1 ⟨rfl, hw⟩; obtain rfl := hw.symm) | (go_at_call_of 220 (Value.bool false); refine (demand_no _ _).mono ?_; rintro e w1 ⟨rfl, hw⟩; obtain rfl := hw.symm))
      exact ⟨rfl, ⟨_, rfl⟩, by first | exact belowDraws (below2 _ _ _) _ | exact below2 _ _ _⟩
    | true =>
      by_cases hz : cn = 0
      · subst hz
        go_enter Tryz.func228, Tryz.ntmps228
        go_wp2_with (first | (go_at_call_of 76 (Value.int .i64 a); refine (C1.out _).mono ?_; rintro e w1 ⟨rfl, hw⟩; obtain rfl := hw.symm) | (go_at_call_of 76 (Value.int .i64 b); refine (C2.out _).mono ?_; rintro e w1 ⟨rfl, hw⟩; obtain rfl := hw.symm) | (go_at_call_of 220 (Value.bool true); refine (demand_yes _ _).mono ?_; rintro e w1 ⟨rfl, hw⟩; obtain rfl := hw.symm) | (go_at_call_of 220 (Value.bool false); refine (demand_no _ _).mono ?_; rintro e w1 ⟨rfl, hw⟩; obtain rfl := hw.symm))
        first | go_end0 | refine bodyPost_ret (results_none rfl _ _ _) rfl ?_
        exact ⟨rfl, by first | exact belowDraws (below2 _ _ _) _ | exact below2 _ _ _⟩
      · have hz2 : ((cn : Int) == 0) = false := by simp; omega
        have E2 : Hid ((true && true && decide (cn = 0)) = false) := hid (by simp [hz])
        rw [E2.out]
        clear hz E2
        go_enter Tryz.func228, Tryz.ntmps228
        go_wp2_with (first | (go_at_call_of 76 (Value.int .i64 a); refine (C1.out _).mono ?_; rintro e w1 ⟨rfl, hw⟩; obtain rfl := hw.symm) | (go_at_call_of 76 (Value.int .i64 b); refine (C2.out _).mono ?_; rintro e w1 ⟨rfl, hw⟩; obtain rfl := hw.symm) | (go_at_call_of 220 (Value.bool true); refine (demand_yes _ _).mono ?_; rintro e w1 ⟨rfl, hw⟩; obtain rfl := hw.symm) | (go_at_call_of 220 (Value.bool false); refine (demand_no _ _).mono ?_; rintro e w1 ⟨rfl, hw⟩; obtain rfl := hw.symm))
        exact ⟨rfl, ⟨_, rfl⟩, by first | exact belowDraws (below2 _ _ _) _ | exact below2 _ _ _⟩

set_option maxHeartbeats 1600000 in
theorem dem7 (a b : Int) (co : Option Addr) (cn cc : Nat) (o s t v : Int) (w : World) :
    Calls Tryz.prog 228 #[.agg #[.int .i64 (7), .int .i64 a, .int .i64 b, .slice co cn cc], .agg #[.int .i64 o, .int .i64 s, .int .i64 t, .int .i64 v]] w (DemEnd w (fieldsB (7) a b cn ⟨o, s, t, v⟩)) := by
  obtain ⟨fa, hfa⟩ : ∃ x, x = decide (0 ≤ a ∧ a < 1) := ⟨_, rfl⟩
  obtain ⟨fb, hfb⟩ : ∃ x, x = decide (0 ≤ b ∧ b < 1) := ⟨_, rfl⟩
  have C1 := hid (within_of a 1 fa hfa)
  have C2 := hid (within_of b 1 fb hfb)
  have E : Hid (fieldsB (7) a b cn ⟨o, s, t, v⟩ = (fa && fb && decide (cn = 0))) := hid (by rw [hfa, hfb]; simp [fieldsB, fieldA, fieldB, hasB])
  rw [E.out]
  clear hfa hfb E
  cases fa with
  | false =>
    go_enter Tryz.func228, Tryz.ntmps228
    go_wp2_with (first | (go_at_call_of 76 (Value.int .i64 a); refine (C1.out _).mono ?_; rintro e w1 ⟨rfl, hw⟩; obtain rfl := hw.symm) | (go_at_call_of 76 (Value.int .i64 b); refine (C2.out _).mono ?_; rintro e w1 ⟨rfl, hw⟩; obtain rfl := hw.symm) | (go_at_call_of 220 (Value.bool true); refine (demand_yes _ _).mono ?_; rintro e w1 ⟨rfl, hw⟩; obtain rfl := hw.symm) | (go_at_call_of 220 (Value.bool false); refine (demand_no _ _).mono ?_; rintro e w1 ⟨rfl, hw⟩; obtain rfl := hw.symm))
    exact ⟨rfl, ⟨_, rfl⟩, by first | exact belowDraws (below2 _ _ _) _ | exact below2 _ _ _⟩
  | true =>
    cases fb with
    | false =>
      go_enter Tryz.func228, Tryz.ntmps228
      go_wp2_with (first | (go_at_call_of 76 (Value.int .i64 a); refine (C1.out _).mono ?_; rintro e w1 ⟨rfl, hw⟩; obtain rfl := hw.symm) | (go_at_call_of 76 (Value.int .i64 b); refine (C2.out _).mono ?_; rintro e w1 ⟨rfl, hw⟩; obtain rfl := hw.symm) | (go_at_call_of 220 (Value.bool true); refine (demand_yes _ _).mono ?_; rintro e w1 ⟨rfl, hw⟩; obtain rfl := hw.symm) | (go_at_call_of 220 (Value.bool false); refine (demand_no _ _).mono ?_; rintro e w1 ⟨rfl, hw⟩; obtain rfl := hw.symm))
      exact ⟨rfl, ⟨_, rfl⟩, by first | exact belowDraws (below2 _ _ _) _ | exact below2 _ _ _⟩
    | true =>
      by_cases hz : cn = 0
      · subst hz
        go_enter Tryz.func228, Tryz.ntmps228
        go_wp2_with (first | (go_at_call_of 76 (Value.int .i64 a); refine (C1.out _).mono ?_; rintro e w1 ⟨rfl, hw⟩; obtain rfl := hw.symm) | (go_at_call_of 76 (Value.int .i64 b); refine (C2.out _).mono ?_; rintro e w1 ⟨rfl, hw⟩; obtain rfl := hw.symm) | (go_at_call_of 220 (Value.bool true); refine (demand_yes _ _).mono ?_; rintro e w1 ⟨rfl, hw⟩; obtain rfl := hw.symm) | (go_at_call_of 220 (Value.bool false); refine (demand_no _ _).mono ?_; rintro e w1 ⟨rfl, hw⟩; obtain rfl := hw.symm))
        first | go_end0 | refine bodyPost_ret (results_none rfl _ _ _) rfl ?_
        exact ⟨rfl, by first | exact belowDraws (below2 _ _ _) _ | exact below2 _ _ _⟩
      · have hz2 : ((cn : Int) == 0) = false := by simp; omega
        have E2 : Hid ((true && true && decide (cn = 0)) = false) := hid (by simp [hz])
        rw [E2.out]
        clear hz E2
        go_enter Tryz.func228, Tryz.ntmps228
        go_wp2_with (first | (go_at_call_of 76 (Value.int .i64 a); refine (C1.out _).mono ?_; rintro e w1 ⟨rfl, hw⟩; obtain rfl := hw.symm) | (go_at_call_of 76 (Value.int .i64 b); refine (C2.out _).mono ?_; rintro e w1 ⟨rfl, hw⟩; obtain rfl := hw.symm) | (go_at_call_of 220 (Value.bool true); refine (demand_yes _ _).mono ?_; rintro e w1 ⟨rfl, hw⟩; obtain rfl := hw.symm) | (go_at_call_of 220 (Value.bool false); refine (demand_no _ _).mono ?_; rintro e w1 ⟨rfl, hw⟩; obtain rfl := hw.symm))
        exact ⟨rfl, ⟨_, rfl⟩, by first | exact belowDraws (below2 _ _ _) _ | exact below2 _ _ _⟩

set_option maxHeartbeats 1600000 in
theorem demX (k a b : Int) (co : Option Addr) (cn cc : Nat) (o s t v : Int) (w : World) (n1 : k ≠ 1) (n3 : k ≠ 3) (n4 : k ≠ 4) (n5 : k ≠ 5) (n6 : k ≠ 6) (n7 : k ≠ 7) (n8 : k ≠ 8) (n9 : k ≠ 9) :
    Calls Tryz.prog 228 #[.agg #[.int .i64 k, .int .i64 a, .int .i64 b, .slice co cn cc], .agg #[.int .i64 o, .int .i64 s, .int .i64 t, .int .i64 v]] w (DemEnd w (fieldsB k a b cn ⟨o, s, t, v⟩)) := by
  obtain ⟨fa, hfa⟩ : ∃ x, x = decide (0 ≤ a ∧ a < 1) := ⟨_, rfl⟩
  obtain ⟨fb, hfb⟩ : ∃ x, x = decide (0 ≤ b ∧ b < 1) := ⟨_, rfl⟩
  have C1 := hid (within_of a 1 fa hfa)
  have C2 := hid (within_of b 1 fb hfb)
  have E : Hid (fieldsB k a b cn ⟨o, s, t, v⟩ = (fa && fb)) := hid (by rw [hfa, hfb]; simp [fieldsB, fieldA, fieldB, hasB, n1, n3, n4, n5, n6, n7, n8, n9])
  have e1 : (k == 1) = false := by simpa using n1
  have e3 : (k == 3) = false := by simpa using n3
  have e4 : (k == 4) = false := by simpa using n4
  have e5 : (k == 5) = false := by simpa using n5
  have e6 : (k == 6) = false := by simpa using n6
  have e7 : (k == 7) = false := by simpa using n7
  have e8 : (k == 8) = false := by simpa using n8
  have e9 : (k == 9) = false := by simpa using n9
  clear n1 n3 n4 n5 n6 n7 n8 n9
  rw [E.out]
  clear hfa hfb E
  cases fa with
  | false =>
    go_enter Tryz.func228, Tryz.ntmps228
    go_wp2_with (first | (go_at_call_of 76 (Value.int .i64 a); refine (C1.out _).mono ?_; rintro e w1 ⟨rfl, hw⟩; obtain rfl := hw.symm) | (go_at_call_of 76 (Value.int .i64 b); refine (C2.out _).mono ?_; rintro e w1 ⟨rfl, hw⟩; obtain rfl := hw.symm) | (go_at_call_of 220 (Value.bool true); refine (demand_yes _ _).mono ?_; rintro e w1 ⟨rfl, hw⟩; obtain rfl := hw.symm) | (go_at_call_of 220 (Value.bool false); refine (demand_no _ _).mono ?_; rintro e w1 ⟨rfl, hw⟩; obtain rfl := hw.symm))
    exact ⟨rfl, ⟨_, rfl⟩, by first | exact belowDraws (below2 _ _ _) _ | exact below2 _ _ _⟩
  | true =>
    cases fb with
    | false =>
      go_enter Tryz.func228, Tryz.ntmps228
      go_wp2_with (first | (go_at_call_of 76 (Value.int .i64 a); refine (C1.out _).mono ?_; rintro e w1 ⟨rfl, hw⟩; obtain rfl := hw.symm) | (go_at_call_of 76 (Value.int .i64 b); refine (C2.out _).mono ?_; rintro e w1 ⟨rfl, hw⟩; obtain rfl := hw.symm) | (go_at_call_of 220 (Value.bool true); refine (demand_yes _ _).mono ?_; rintro e w1 ⟨rfl, hw⟩; obtain rfl := hw.symm) | (go_at_call_of 220 (Value.bool false); refine (demand_no _ _).mono ?_; rintro e w1 ⟨rfl, hw⟩; obtain rfl := hw.symm))
      exact ⟨rfl, ⟨_, rfl⟩, by first | exact belowDraws (below2 _ _ _) _ | exact below2 _ _ _⟩
    | true =>
      go_enter Tryz.func228, Tryz.ntmps228
      go_wp2_with (first | (go_at_call_of 76 (Value.int .i64 a); refine (C1.out _).mono ?_; rintro e w1 ⟨rfl, hw⟩; obtain rfl := hw.symm) | (go_at_call_of 76 (Value.int .i64 b); refine (C2.out _).mono ?_; rintro e w1 ⟨rfl, hw⟩; obtain rfl := hw.symm) | (go_at_call_of 220 (Value.bool true); refine (demand_yes _ _).mono ?_; rintro e w1 ⟨rfl, hw⟩; obtain rfl := hw.symm) | (go_at_call_of 220 (Value.bool false); refine (demand_no _ _).mono ?_; rintro e w1 ⟨rfl, hw⟩; obtain rfl := hw.symm))
      first | go_end0 | refine bodyPost_ret (results_none rfl _ _ _) rfl ?_
      exact ⟨rfl, by first | exact belowDraws (below2 _ _ _) _ | exact below2 _ _ _⟩

theorem demandFields_any (k a b : Int) (co : Option Addr) (cn cc : Nat) (o s t v : Int) (w : World) :
    Calls Tryz.prog 228 #[.agg #[.int .i64 k, .int .i64 a, .int .i64 b, .slice co cn cc], .agg #[.int .i64 o, .int .i64 s, .int .i64 t, .int .i64 v]] w (DemEnd w (fieldsB k a b cn ⟨o, s, t, v⟩)) := by
  by_cases n1 : k = 1
  · subst n1; exact dem1 a b co cn cc o s t v w
  by_cases n3 : k = 3
  · subst n3; exact dem3 a b co cn cc o s t v w
  by_cases n4 : k = 4
  · subst n4; exact dem4 a b co cn cc o s t v w
  by_cases n5 : k = 5
  · subst n5; exact dem5 a b co cn cc o s t v w
  by_cases n6 : k = 6
  · subst n6; exact dem6 a b co cn cc o s t v w
  by_cases n7 : k = 7
  · subst n7; exact dem7 a b co cn cc o s t v w
  by_cases n8 : k = 8
  · subst n8; exact dem8 a b co cn cc o s t v w
  by_cases n9 : k = 9
  · subst n9; exact dem9 a b co cn cc o s t v w
  exact demX k a b co cn cc o s t v w n1 n3 n4 n5 n6 n7 n8 n9

end Go.Proofs.YthaklmdhkkfigaaGreat
namespace Go.Proofs.YthaklmdhkkfigaaGreat
open Go.RowKit Go.Sort

set_option linter.unusedVariables false

/-- The node that an entry is lifted to. -/
def nodeOf (l : LimD) (s : StmD) : Option Value :=
  if fieldsB s.kind s.a s.b s.code.length l = false then none
  else if s.kind = 6 then some (.iface 319 (.agg #[])) else if s.kind = 7 then some (.iface 320 (.agg #[])) else if s.kind = 9 then some (.iface 322 (.agg #[.int .i64 s.a]))
  else (liftT s.code l.v).bind fun t =>
    if s.kind = 1 then some (.iface 324 (.agg #[.int .i64 s.a, tv t])) else if s.kind = 2 then some (.iface 326 (.agg #[tv t]))
    else if s.kind = 3 then some (.iface 328 (.agg #[.int .i64 s.a, .int .i64 s.b, tv t])) else if s.kind = 4 then some (.iface 329 (.agg #[.int .i64 s.a, .int .i64 s.b, tv t]))
    else if s.kind = 5 then some (.iface 331 (.agg #[.int .i64 s.b, tv t])) else if s.kind = 8 then some (.iface 333 (.agg #[.int .i64 s.a, .int .i64 s.b, tv t])) else none

def StmEnd (w : World) (r : Option Value) (e : Ending) (w' : World) : Prop :=
  match r with
  | some v => e = .returned v ∧ Below w.heap.size w w'
  | none => Pan e ∧ Below w.heap.size w w'

set_option maxHeartbeats 1600000 in
theorem stm6 (a b : Int) (co : Option Addr) (cn cc : Nat) (code : List (Int × Int)) (o s t v : Int) (w : World) (hn : cn ≤ 9223372036854775807) (hs : ItemsOf w co cn code) :
    Calls Tryz.prog 221 #[.agg #[.int .i64 (6), .int .i64 a, .int .i64 b, .slice co cn cc], .agg #[.int .i64 o, .int .i64 s, .int .i64 t, .int .i64 v]] w (StmEnd w (nodeOf ⟨o, s, t, v⟩ ⟨(6), a, b, code⟩)) := by
  have HS : Hid (∀ w', Below w.heap.size w w' → ItemsOf w' co cn code) := fun w' h => hs.below h
  have EL : Hid (code.length = cn) := hs.1
  obtain ⟨fb, hfb⟩ : ∃ x, x = fieldsB (6) a b cn ⟨o, s, t, v⟩ := ⟨_, rfl⟩
  have D := hid (fun w => demandFields_any (6) a b co cn cc o s t v w)
  rw [← hfb] at D
  have R1 := hid (block_below (heap_alloc_new w (.cells #[.int .i64 (6), .int .i64 a, .int .i64 b, .slice co cn cc] 223)) (below1 _ (.cells #[.int .i64 o, .int .i64 s, .int .i64 t, .int .i64 v] 148)))
  have Q1 := hid (heap_alloc_new (w.alloc (.cells #[.int .i64 (6), .int .i64 a, .int .i64 b, .slice co cn cc] 223)) (.cells #[.int .i64 o, .int .i64 s, .int .i64 t, .int .i64 v] 148))
  simp only [World.size_alloc] at Q1
  clear hs
  cases fb with
  | false =>
    have E : Hid (nodeOf ⟨o, s, t, v⟩ ⟨(6), a, b, code⟩ = none) := hid (by simp [nodeOf, EL.out, ← hfb])
    rw [E.out]
    unfold DemEnd at D
    simp only at D
    clear hfb E
    go_enter Tryz.func221, Tryz.ntmps221
    go_wp2_with (go_at_call 228; refine (D.out _).mono ?_; rintro e w1 ⟨⟨sx, rfl⟩, hb1⟩; have B1 := hid ((below2 _ _ _).trans (hb1.mono (by simp; omega))); clear hb1)
    exact ⟨rfl, ⟨_, rfl⟩, B1.out⟩
  | true =>
    unfold DemEnd at D
    simp only at D
    have E : Hid (nodeOf ⟨o, s, t, v⟩ ⟨(6), a, b, code⟩ = some (.iface 319 (.agg #[]))) := hid (by simp [nodeOf, EL.out, ← hfb])
    rw [E.out]
    clear hfb E
    go_enter Tryz.func221, Tryz.ntmps221
    go_wp2_with (go_at_call 228; refine (D.out _).mono ?_; rintro e w1 ⟨rfl, hb1⟩; have B1 := hid ((below2 _ _ _).trans (hb1.mono (by simp; omega))); have R2 := hid (block_below R1.out hb1); have Q2 := hid (block_below Q1.out hb1); obtain ⟨r0, r1, r2, r3⟩ := quad_cells R2.out; obtain ⟨q0, q1, q2, q3⟩ := quad_cells Q2.out; clear hb1)
    go_ret
    exact ⟨rfl, B1.out⟩

set_option maxHeartbeats 1600000 in
theorem stm7 (a b : Int) (co : Option Addr) (cn cc : Nat) (code : List (Int × Int)) (o s t v : Int) (w : World) (hn : cn ≤ 9223372036854775807) (hs : ItemsOf w co cn code) :
    Calls Tryz.prog 221 #[.agg #[.int .i64 (7), .int .i64 a, .int .i64 b, .slice co cn cc], .agg #[.int .i64 o, .int .i64 s, .int .i64 t, .int .i64 v]] w (StmEnd w (nodeOf ⟨o, s, t, v⟩ ⟨(7), a, b, code⟩)) := by
  have HS : Hid (∀ w', Below w.heap.size w w' → ItemsOf w' co cn code) := fun w' h => hs.below h
  have EL : Hid (code.length = cn) := hs.1
  obtain ⟨fb, hfb⟩ : ∃ x, x = fieldsB (7) a b cn ⟨o, s, t, v⟩ := ⟨_, rfl⟩
  have D := hid (fun w => demandFields_any (7) a b co cn cc o s t v w)
  rw [← hfb] at D
  have R1 := hid (block_below (heap_alloc_new w (.cells #[.int .i64 (7), .int .i64 a, .int .i64 b, .slice co cn cc] 223)) (below1 _ (.cells #[.int .i64 o, .int .i64 s, .int .i64 t, .int .i64 v] 148)))
  have Q1 := hid (heap_alloc_new (w.alloc (.cells #[.int .i64 (7), .int .i64 a, .int .i64 b, .slice co cn cc] 223)) (.cells #[.int .i64 o, .int .i64 s, .int .i64 t, .int .i64 v] 148))
  simp only [World.size_alloc] at Q1
  clear hs
  cases fb with
  | false =>
    have E : Hid (nodeOf ⟨o, s, t, v⟩ ⟨(7), a, b, code⟩ = none) := hid (by simp [nodeOf, EL.out, ← hfb])
    rw [E.out]
    unfold DemEnd at D
    simp only at D
    clear hfb E
    go_enter Tryz.func221, Tryz.ntmps221
    go_wp2_with (go_at_call 228; refine (D.out _).mono ?_; rintro e w1 ⟨⟨sx, rfl⟩, hb1⟩; have B1 := hid ((below2 _ _ _).trans (hb1.mono (by simp; omega))); clear hb1)
    exact ⟨rfl, ⟨_, rfl⟩, B1.out⟩
  | true =>
    unfold DemEnd at D
    simp only at D
    have E : Hid (nodeOf ⟨o, s, t, v⟩ ⟨(7), a, b, code⟩ = some (.iface 320 (.agg #[]))) := hid (by simp [nodeOf, EL.out, ← hfb])
    rw [E.out]
    clear hfb E
    go_enter Tryz.func221, Tryz.ntmps221
    go_wp2_with (go_at_call 228; refine (D.out _).mono ?_; rintro e w1 ⟨rfl, hb1⟩; have B1 := hid ((below2 _ _ _).trans (hb1.mono (by simp; omega))); have R2 := hid (block_below R1.out hb1); have Q2 := hid (block_below Q1.out hb1); obtain ⟨r0, r1, r2, r3⟩ := quad_cells R2.out; obtain ⟨q0, q1, q2, q3⟩ := quad_cells Q2.out; clear hb1)
    go_ret
    exact ⟨rfl, B1.out⟩

set_option maxHeartbeats 1600000 in
theorem stm9 (a b : Int) (co : Option Addr) (cn cc : Nat) (code : List (Int × Int)) (o s t v : Int) (w : World) (hn : cn ≤ 9223372036854775807) (hs : ItemsOf w co cn code) :
    Calls Tryz.prog 221 #[.agg #[.int .i64 (9), .int .i64 a, .int .i64 b, .slice co cn cc], .agg #[.int .i64 o, .int .i64 s, .int .i64 t, .int .i64 v]] w (StmEnd w (nodeOf ⟨o, s, t, v⟩ ⟨(9), a, b, code⟩)) := by
  have HS : Hid (∀ w', Below w.heap.size w w' → ItemsOf w' co cn code) := fun w' h => hs.below h
  have EL : Hid (code.length = cn) := hs.1
  obtain ⟨fb, hfb⟩ : ∃ x, x = fieldsB (9) a b cn ⟨o, s, t, v⟩ := ⟨_, rfl⟩
  have D := hid (fun w => demandFields_any (9) a b co cn cc o s t v w)
  rw [← hfb] at D
  have R1 := hid (block_below (heap_alloc_new w (.cells #[.int .i64 (9), .int .i64 a, .int .i64 b, .slice co cn cc] 223)) (below1 _ (.cells #[.int .i64 o, .int .i64 s, .int .i64 t, .int .i64 v] 148)))
  have Q1 := hid (heap_alloc_new (w.alloc (.cells #[.int .i64 (9), .int .i64 a, .int .i64 b, .slice co cn cc] 223)) (.cells #[.int .i64 o, .int .i64 s, .int .i64 t, .int .i64 v] 148))
  simp only [World.size_alloc] at Q1
  clear hs
  cases fb with
  | false =>
    have E : Hid (nodeOf ⟨o, s, t, v⟩ ⟨(9), a, b, code⟩ = none) := hid (by simp [nodeOf, EL.out, ← hfb])
    rw [E.out]
    unfold DemEnd at D
    simp only at D
    clear hfb E
    go_enter Tryz.func221, Tryz.ntmps221
    go_wp2_with (go_at_call 228; refine (D.out _).mono ?_; rintro e w1 ⟨⟨sx, rfl⟩, hb1⟩; have B1 := hid ((below2 _ _ _).trans (hb1.mono (by simp; omega))); clear hb1)
    exact ⟨rfl, ⟨_, rfl⟩, B1.out⟩
  | true =>
    unfold DemEnd at D
    simp only at D
    have E : Hid (nodeOf ⟨o, s, t, v⟩ ⟨(9), a, b, code⟩ = some (.iface 322 (.agg #[.int .i64 a]))) := hid (by simp [nodeOf, EL.out, ← hfb])
    rw [E.out]
    clear hfb E
    go_enter Tryz.func221, Tryz.ntmps221
    go_wp2_with (go_at_call 228; refine (D.out _).mono ?_; rintro e w1 ⟨rfl, hb1⟩; have B1 := hid ((below2 _ _ _).trans (hb1.mono (by simp; omega))); have R2 := hid (block_below R1.out hb1); have Q2 := hid (block_below Q1.out hb1); obtain ⟨r0, r1, r2, r3⟩ := quad_cells R2.out; obtain ⟨q0, q1, q2, q3⟩ := quad_cells Q2.out; clear hb1)
    go_ret
    exact ⟨rfl, B1.out⟩

set_option maxHeartbeats 1600000 in
theorem stm1 (a b : Int) (co : Option Addr) (cn cc : Nat) (code : List (Int × Int)) (o s t v : Int) (w : World) (hn : cn ≤ 9223372036854775807) (hs : ItemsOf w co cn code) :
    Calls Tryz.prog 221 #[.agg #[.int .i64 (1), .int .i64 a, .int .i64 b, .slice co cn cc], .agg #[.int .i64 o, .int .i64 s, .int .i64 t, .int .i64 v]] w (StmEnd w (nodeOf ⟨o, s, t, v⟩ ⟨(1), a, b, code⟩)) := by
  have HS : Hid (∀ w', Below w.heap.size w w' → ItemsOf w' co cn code) := fun w' h => hs.below h
  have EL : Hid (code.length = cn) := hs.1
  obtain ⟨fb, hfb⟩ : ∃ x, x = fieldsB (1) a b cn ⟨o, s, t, v⟩ := ⟨_, rfl⟩
  have D := hid (fun w => demandFields_any (1) a b co cn cc o s t v w)
  rw [← hfb] at D
  have R1 := hid (block_below (heap_alloc_new w (.cells #[.int .i64 (1), .int .i64 a, .int .i64 b, .slice co cn cc] 223)) (below1 _ (.cells #[.int .i64 o, .int .i64 s, .int .i64 t, .int .i64 v] 148)))
  have Q1 := hid (heap_alloc_new (w.alloc (.cells #[.int .i64 (1), .int .i64 a, .int .i64 b, .slice co cn cc] 223)) (.cells #[.int .i64 o, .int .i64 s, .int .i64 t, .int .i64 v] 148))
  simp only [World.size_alloc] at Q1
  clear hs
  cases fb with
  | false =>
    have E : Hid (nodeOf ⟨o, s, t, v⟩ ⟨(1), a, b, code⟩ = none) := hid (by simp [nodeOf, EL.out, ← hfb])
    rw [E.out]
    unfold DemEnd at D
    simp only at D
    clear hfb E
    go_enter Tryz.func221, Tryz.ntmps221
    go_wp2_with (go_at_call 228; refine (D.out _).mono ?_; rintro e w1 ⟨⟨sx, rfl⟩, hb1⟩; have B1 := hid ((below2 _ _ _).trans (hb1.mono (by simp; omega))); clear hb1)
    exact ⟨rfl, ⟨_, rfl⟩, B1.out⟩
  | true =>
    unfold DemEnd at D
    simp only at D
    have L : Hid (∀ w', Below w.heap.size w w' → Calls Tryz.prog 223 #[.slice co cn cc, .int .i64 v] w' (CodeEnd w' (liftT code v))) := fun w' h => liftCode_any co cn cc code v w' hn (HS.out w' h)
    cases hl : liftT code v with
    | none =>
      have E : Hid (nodeOf ⟨o, s, t, v⟩ ⟨(1), a, b, code⟩ = none) := hid (by simp [nodeOf, EL.out, ← hfb, hl])
      rw [E.out]
      rw [hl] at L
      unfold CodeEnd at L
      simp only at L
      clear hfb E hl
      go_enter Tryz.func221, Tryz.ntmps221
      go_wp2_with (first | (go_at_call 228; refine (D.out _).mono ?_; rintro e w1 ⟨rfl, hb1⟩; have B1 := hid ((below2 _ _ _).trans (hb1.mono (by simp; omega))); have R2 := hid (block_below R1.out hb1); have Q2 := hid (block_below Q1.out hb1); obtain ⟨r0, r1, r2, r3⟩ := quad_cells R2.out; obtain ⟨q0, q1, q2, q3⟩ := quad_cells Q2.out; clear hb1) | (go_at_call 223; refine (L.out _ B1.out).mono ?_; rintro e w2 ⟨⟨sx, rfl⟩, hb2⟩; have B2 := hid (B1.out.trans (hb2.mono B1.out.size)); clear hb2))
      exact ⟨rfl, ⟨_, rfl⟩, B2.out⟩
    | some tr =>
      obtain ⟨y, x, hy⟩ := tv_form tr
      have E : Hid (nodeOf ⟨o, s, t, v⟩ ⟨(1), a, b, code⟩ = some (.iface 324 (.agg #[.int .i64 a, .iface y x]))) := hid (by simp [nodeOf, EL.out, ← hfb, hl, hy])
      rw [E.out]
      rw [hl] at L
      unfold CodeEnd at L
      simp only [hy] at L
      clear hfb E hl hy
      go_enter Tryz.func221, Tryz.ntmps221
      go_wp2_with (first | (go_at_call 228; refine (D.out _).mono ?_; rintro e w1 ⟨rfl, hb1⟩; have B1 := hid ((below2 _ _ _).trans (hb1.mono (by simp; omega))); have R2 := hid (block_below R1.out hb1); have Q2 := hid (block_below Q1.out hb1); obtain ⟨r0, r1, r2, r3⟩ := quad_cells R2.out; obtain ⟨q0, q1, q2, q3⟩ := quad_cells Q2.out; clear hb1) | (go_at_call 223; refine (L.out _ B1.out).mono ?_; rintro e w2 ⟨rfl, hb2⟩; have B2 := hid (B1.out.trans (hb2.mono B1.out.size)); obtain ⟨u0, u1, u2, u3⟩ := quad_cells (block_below R2.out hb2); clear hb2))
      go_ret
      exact ⟨rfl, B2.out⟩

set_option maxHeartbeats 1600000 in
theorem stm2 (a b : Int) (co : Option Addr) (cn cc : Nat) (code : List (Int × Int)) (o s t v : Int) (w : World) (hn : cn ≤ 9223372036854775807) (hs : ItemsOf w co cn code) :
    Calls Tryz.prog 221 #[.agg #[.int .i64 (2), .int .i64 a, .int .i64 b, .slice co cn cc], .agg #[.int .i64 o, .int .i64 s, .int .i64 t, .int .i64 v]] w (StmEnd w (nodeOf ⟨o, s, t, v⟩ ⟨(2), a, b, code⟩)) := by
  have HS : Hid (∀ w', Below w.heap.size w w' → ItemsOf w' co cn code) := fun w' h => hs.below h
  have EL : Hid (code.length = cn) := hs.1
  obtain ⟨fb, hfb⟩ : ∃ x, x = fieldsB (2) a b cn ⟨o, s, t, v⟩ := ⟨_, rfl⟩
  have D := hid (fun w => demandFields_any (2) a b co cn cc o s t v w)
  rw [← hfb] at D
  have R1 := hid (block_below (heap_alloc_new w (.cells #[.int .i64 (2), .int .i64 a, .int .i64 b, .slice co cn cc] 223)) (below1 _ (.cells #[.int .i64 o, .int .i64 s, .int .i64 t, .int .i64 v] 148)))
  have Q1 := hid (heap_alloc_new (w.alloc (.cells #[.int .i64 (2), .int .i64 a, .int .i64 b, .slice co cn cc] 223)) (.cells #[.int .i64 o, .int .i64 s, .int .i64 t, .int .i64 v] 148))
  simp only [World.size_alloc] at Q1
  clear hs
  cases fb with
  | false =>
    have E : Hid (nodeOf ⟨o, s, t, v⟩ ⟨(2), a, b, code⟩ = none) := hid (by simp [nodeOf, EL.out, ← hfb])
    rw [E.out]
    unfold DemEnd at D
    simp only at D
    clear hfb E
    go_enter Tryz.func221, Tryz.ntmps221
    go_wp2_with (go_at_call 228; refine (D.out _).mono ?_; rintro e w1 ⟨⟨sx, rfl⟩, hb1⟩; have B1 := hid ((below2 _ _ _).trans (hb1.mono (by simp; omega))); clear hb1)
    exact ⟨rfl, ⟨_, rfl⟩, B1.out⟩
  | true =>
    unfold DemEnd at D
    simp only at D
    have L : Hid (∀ w', Below w.heap.size w w' → Calls Tryz.prog 223 #[.slice co cn cc, .int .i64 v] w' (CodeEnd w' (liftT code v))) := fun w' h => liftCode_any co cn cc code v w' hn (HS.out w' h)
    cases hl : liftT code v with
    | none =>
      have E : Hid (nodeOf ⟨o, s, t, v⟩ ⟨(2), a, b, code⟩ = none) := hid (by simp [nodeOf, EL.out, ← hfb, hl])
      rw [E.out]
      rw [hl] at L
      unfold CodeEnd at L
      simp only at L
      clear hfb E hl
      go_enter Tryz.func221, Tryz.ntmps221
      go_wp2_with (first | (go_at_call 228; refine (D.out _).mono ?_; rintro e w1 ⟨rfl, hb1⟩; have B1 := hid ((below2 _ _ _).trans (hb1.mono (by simp; omega))); have R2 := hid (block_below R1.out hb1); have Q2 := hid (block_below Q1.out hb1); obtain ⟨r0, r1, r2, r3⟩ := quad_cells R2.out; obtain ⟨q0, q1, q2, q3⟩ := quad_cells Q2.out; clear hb1) | (go_at_call 223; refine (L.out _ B1.out).mono ?_; rintro e w2 ⟨⟨sx, rfl⟩, hb2⟩; have B2 := hid (B1.out.trans (hb2.mono B1.out.size)); clear hb2))
      exact ⟨rfl, ⟨_, rfl⟩, B2.out⟩
    | some tr =>
      obtain ⟨y, x, hy⟩ := tv_form tr
      have E : Hid (nodeOf ⟨o, s, t, v⟩ ⟨(2), a, b, code⟩ = some (.iface 326 (.agg #[.iface y x]))) := hid (by simp [nodeOf, EL.out, ← hfb, hl, hy])
      rw [E.out]
      rw [hl] at L
      unfold CodeEnd at L
      simp only [hy] at L
      clear hfb E hl hy
      go_enter Tryz.func221, Tryz.ntmps221
      go_wp2_with (first | (go_at_call 228; refine (D.out _).mono ?_; rintro e w1 ⟨rfl, hb1⟩; have B1 := hid ((below2 _ _ _).trans (hb1.mono (by simp; omega))); have R2 := hid (block_below R1.out hb1); have Q2 := hid (block_below Q1.out hb1); obtain ⟨r0, r1, r2, r3⟩ := quad_cells R2.out; obtain ⟨q0, q1, q2, q3⟩ := quad_cells Q2.out; clear hb1) | (go_at_call 223; refine (L.out _ B1.out).mono ?_; rintro e w2 ⟨rfl, hb2⟩; have B2 := hid (B1.out.trans (hb2.mono B1.out.size)); obtain ⟨u0, u1, u2, u3⟩ := quad_cells (block_below R2.out hb2); clear hb2))
      go_ret
      exact ⟨rfl, B2.out⟩

set_option maxHeartbeats 1600000 in
theorem stm3 (a b : Int) (co : Option Addr) (cn cc : Nat) (code : List (Int × Int)) (o s t v : Int) (w : World) (hn : cn ≤ 9223372036854775807) (hs : ItemsOf w co cn code) :
    Calls Tryz.prog 221 #[.agg #[.int .i64 (3), .int .i64 a, .int .i64 b, .slice co cn cc], .agg #[.int .i64 o, .int .i64 s, .int .i64 t, .int .i64 v]] w (StmEnd w (nodeOf ⟨o, s, t, v⟩ ⟨(3), a, b, code⟩)) := by
  have HS : Hid (∀ w', Below w.heap.size w w' → ItemsOf w' co cn code) := fun w' h => hs.below h
  have EL : Hid (code.length = cn) := hs.1
  obtain ⟨fb, hfb⟩ : ∃ x, x = fieldsB (3) a b cn ⟨o, s, t, v⟩ := ⟨_, rfl⟩
  have D := hid (fun w => demandFields_any (3) a b co cn cc o s t v w)
  rw [← hfb] at D
  have R1 := hid (block_below (heap_alloc_new w (.cells #[.int .i64 (3), .int .i64 a, .int .i64 b, .slice co cn cc] 223)) (below1 _ (.cells #[.int .i64 o, .int .i64 s, .int .i64 t, .int .i64 v] 148)))
  have Q1 := hid (heap_alloc_new (w.alloc (.cells #[.int .i64 (3), .int .i64 a, .int .i64 b, .slice co cn cc] 223)) (.cells #[.int .i64 o, .int .i64 s, .int .i64 t, .int .i64 v] 148))
  simp only [World.size_alloc] at Q1
  clear hs
  cases fb with
  | false =>
    have E : Hid (nodeOf ⟨o, s, t, v⟩ ⟨(3), a, b, code⟩ = none) := hid (by simp [nodeOf, EL.out, ← hfb])
    rw [E.out]
    unfold DemEnd at D
    simp only at D
    clear hfb E
    go_enter Tryz.func221, Tryz.ntmps221
    go_wp2_with (go_at_call 228; refine (D.out _).mono ?_; rintro e w1 ⟨⟨sx, rfl⟩, hb1⟩; have B1 := hid ((below2 _ _ _).trans (hb1.mono (by simp; omega))); clear hb1)
    exact ⟨rfl, ⟨_, rfl⟩, B1.out⟩
  | true =>
    unfold DemEnd at D
    simp only at D
    have L : Hid (∀ w', Below w.heap.size w w' → Calls Tryz.prog 223 #[.slice co cn cc, .int .i64 v] w' (CodeEnd w' (liftT code v))) := fun w' h => liftCode_any co cn cc code v w' hn (HS.out w' h)
    cases hl : liftT code v with
    | none =>
      have E : Hid (nodeOf ⟨o, s, t, v⟩ ⟨(3), a, b, code⟩ = none) := hid (by simp [nodeOf, EL.out, ← hfb, hl])
      rw [E.out]
      rw [hl] at L
      unfold CodeEnd at L
      simp only at L
      clear hfb E hl
      go_enter Tryz.func221, Tryz.ntmps221
      go_wp2_with (first | (go_at_call 228; refine (D.out _).mono ?_; rintro e w1 ⟨rfl, hb1⟩; have B1 := hid ((below2 _ _ _).trans (hb1.mono (by simp; omega))); have R2 := hid (block_below R1.out hb1); have Q2 := hid (block_below Q1.out hb1); obtain ⟨r0, r1, r2, r3⟩ := quad_cells R2.out; obtain ⟨q0, q1, q2, q3⟩ := quad_cells Q2.out; clear hb1) | (go_at_call 223; refine (L.out _ B1.out).mono ?_; rintro e w2 ⟨⟨sx, rfl⟩, hb2⟩; have B2 := hid (B1.out.trans (hb2.mono B1.out.size)); clear hb2))
      exact ⟨rfl, ⟨_, rfl⟩, B2.out⟩
    | some tr =>
      obtain ⟨y, x, hy⟩ := tv_form tr
      have E : Hid (nodeOf ⟨o, s, t, v⟩ ⟨(3), a, b, code⟩ = some (.iface 328 (.agg #[.int .i64 a, .int .i64 b, .iface y x]))) := hid (by simp [nodeOf, EL.out, ← hfb, hl, hy])
      rw [E.out]
      rw [hl] at L
      unfold CodeEnd at L
      simp only [hy] at L
      clear hfb E hl hy
      go_enter Tryz.func221, Tryz.ntmps221
      go_wp2_with (first | (go_at_call 228; refine (D.out _).mono ?_; rintro e w1 ⟨rfl, hb1⟩; have B1 := hid ((below2 _ _ _).trans (hb1.mono (by simp; omega))); have R2 := hid (block_below R1.out hb1); have Q2 := hid (block_below Q1.out hb1); obtain ⟨r0, r1, r2, r3⟩ := quad_cells R2.out; obtain ⟨q0, q1, q2, q3⟩ := quad_cells Q2.out; clear hb1) | (go_at_call 223; refine (L.out _ B1.out).mono ?_; rintro e w2 ⟨rfl, hb2⟩; have B2 := hid (B1.out.trans (hb2.mono B1.out.size)); obtain ⟨u0, u1, u2, u3⟩ := quad_cells (block_below R2.out hb2); clear hb2))
      go_ret
      exact ⟨rfl, B2.out⟩

set_option maxHeartbeats 1600000 in
theorem stm4 (a b : Int) (co : Option Addr) (cn cc : Nat) (code : List (Int × Int)) (o s t v : Int) (w : World) (hn : cn ≤ 9223372036854775807) (hs : ItemsOf w co cn code) :
    Calls Tryz.prog 221 #[.agg #[.int .i64 (4), .int .i64 a, .int .i64 b, .slice co cn cc], .agg #[.int .i64 o, .int .i64 s, .int .i64 t, .int .i64 v]] w (StmEnd w (nodeOf ⟨o, s, t, v⟩ ⟨(4), a, b, code⟩)) := by
  have HS : Hid (∀ w', Below w.heap.size w w' → ItemsOf w' co cn code) := fun w' h => hs.below h
  have EL : Hid (code.length = cn) := hs.1
  obtain ⟨fb, hfb⟩ : ∃ x, x = fieldsB (4) a b cn ⟨o, s, t, v⟩ := ⟨_, rfl⟩
  have D := hid (fun w => demandFields_any (4) a b co cn cc o s t v w)
  rw [← hfb] at D
  have R1 := hid (block_below (heap_alloc_new w (.cells #[.int .i64 (4), .int .i64 a, .int .i64 b, .slice co cn cc] 223)) (below1 _ (.cells #[.int .i64 o, .int .i64 s, .int .i64 t, .int .i64 v] 148)))
  have Q1 := hid (heap_alloc_new (w.alloc (.cells #[.int .i64 (4), .int .i64 a, .int .i64 b, .slice co cn cc] 223)) (.cells #[.int .i64 o, .int .i64 s, .int .i64 t, .int .i64 v] 148))
  simp only [World.size_alloc] at Q1
  clear hs
  cases fb with
  | false =>
    have E : Hid (nodeOf ⟨o, s, t, v⟩ ⟨(4), a, b, code⟩ = none) := hid (by simp [nodeOf, EL.out, ← hfb])
    rw [E.out]
    unfold DemEnd at D
    simp only at D
    clear hfb E
    go_enter Tryz.func221, Tryz.ntmps221
    go_wp2_with (go_at_call 228; refine (D.out _).mono ?_; rintro e w1 ⟨⟨sx, rfl⟩, hb1⟩; have B1 := hid ((below2 _ _ _).trans (hb1.mono (by simp; omega))); clear hb1)
    exact ⟨rfl, ⟨_, rfl⟩, B1.out⟩
  | true =>
    unfold DemEnd at D
    simp only at D
    have L : Hid (∀ w', Below w.heap.size w w' → Calls Tryz.prog 223 #[.slice co cn cc, .int .i64 v] w' (CodeEnd w' (liftT code v))) := fun w' h => liftCode_any co cn cc code v w' hn (HS.out w' h)
    cases hl : liftT code v with
    | none =>
      have E : Hid (nodeOf ⟨o, s, t, v⟩ ⟨(4), a, b, code⟩ = none) := hid (by simp [nodeOf, EL.out, ← hfb, hl])
      rw [E.out]
      rw [hl] at L
      unfold CodeEnd at L
      simp only at L
      clear hfb E hl
      go_enter Tryz.func221, Tryz.ntmps221
      go_wp2_with (first | (go_at_call 228; refine (D.out _).mono ?_; rintro e w1 ⟨rfl, hb1⟩; have B1 := hid ((below2 _ _ _).trans (hb1.mono (by simp; omega))); have R2 := hid (block_below R1.out hb1); have Q2 := hid (block_below Q1.out hb1); obtain ⟨r0, r1, r2, r3⟩ := quad_cells R2.out; obtain ⟨q0, q1, q2, q3⟩ := quad_cells Q2.out; clear hb1) | (go_at_call 223; refine (L.out _ B1.out).mono ?_; rintro e w2 ⟨⟨sx, rfl⟩, hb2⟩; have B2 := hid (B1.out.trans (hb2.mono B1.out.size)); clear hb2))
      exact ⟨rfl, ⟨_, rfl⟩, B2.out⟩
    | some tr =>
      obtain ⟨y, x, hy⟩ := tv_form tr
      have E : Hid (nodeOf ⟨o, s, t, v⟩ ⟨(4), a, b, code⟩ = some (.iface 329 (.agg #[.int .i64 a, .int .i64 b, .iface y x]))) := hid (by simp [nodeOf, EL.out, ← hfb, hl, hy])
      rw [E.out]
      rw [hl] at L
      unfold CodeEnd at L
      simp only [hy] at L
      clear hfb E hl hy
      go_enter Tryz.func221, Tryz.ntmps221
      go_wp2_with (first | (go_at_call 228; refine (D.out _).mono ?_; rintro e w1 ⟨rfl, hb1⟩; have B1 := hid ((below2 _ _ _).trans (hb1.mono (by simp; omega))); have R2 := hid (block_below R1.out hb1); have Q2 := hid (block_below Q1.out hb1); obtain ⟨r0, r1, r2, r3⟩ := quad_cells R2.out; obtain ⟨q0, q1, q2, q3⟩ := quad_cells Q2.out; clear hb1) | (go_at_call 223; refine (L.out _ B1.out).mono ?_; rintro e w2 ⟨rfl, hb2⟩; have B2 := hid (B1.out.trans (hb2.mono B1.out.size)); obtain ⟨u0, u1, u2, u3⟩ := quad_cells (block_below R2.out hb2); clear hb2))
      go_ret
      exact ⟨rfl, B2.out⟩

set_option maxHeartbeats 1600000 in
theorem stm5 (a b : Int) (co : Option Addr) (cn cc : Nat) (code : List (Int × Int)) (o s t v : Int) (w : World) (hn : cn ≤ 9223372036854775807) (hs : ItemsOf w co cn code) :
    Calls Tryz.prog 221 #[.agg #[.int .i64 (5), .int .i64 a, .int .i64 b, .slice co cn cc], .agg #[.int .i64 o, .int .i64 s, .int .i64 t, .int .i64 v]] w (StmEnd w (nodeOf ⟨o, s, t, v⟩ ⟨(5), a, b, code⟩)) := by
  have HS : Hid (∀ w', Below w.heap.size w w' → ItemsOf w' co cn code) := fun w' h => hs.below h
  have EL : Hid (code.length = cn) := hs.1
  obtain ⟨fb, hfb⟩ : ∃ x, x = fieldsB (5) a b cn ⟨o, s, t, v⟩ := ⟨_, rfl⟩
  have D := hid (fun w => demandFields_any (5) a b co cn cc o s t v w)
  rw [← hfb] at D
  have R1 := hid (block_below (heap_alloc_new w (.cells #[.int .i64 (5), .int .i64 a, .int .i64 b, .slice co cn cc] 223)) (below1 _ (.cells #[.int .i64 o, .int .i64 s, .int .i64 t, .int .i64 v] 148)))
  have Q1 := hid (heap_alloc_new (w.alloc (.cells #[.int .i64 (5), .int .i64 a, .int .i64 b, .slice co cn cc] 223)) (.cells #[.int .i64 o, .int .i64 s, .int .i64 t, .int .i64 v] 148))
  simp only [World.size_alloc] at Q1
  clear hs
  cases fb with
  | false =>
    have E : Hid (nodeOf ⟨o, s, t, v⟩ ⟨(5), a, b, code⟩ = none) := hid (by simp [nodeOf, EL.out, ← hfb])
    rw [E.out]
    unfold DemEnd at D
    simp only at D
    clear hfb E
    go_enter Tryz.func221, Tryz.ntmps221
    go_wp2_with (go_at_call 228; refine (D.out _).mono ?_; rintro e w1 ⟨⟨sx, rfl⟩, hb1⟩; have B1 := hid ((below2 _ _ _).trans (hb1.mono (by simp; omega))); clear hb1)
    exact ⟨rfl, ⟨_, rfl⟩, B1.out⟩
  | true =>
    unfold DemEnd at D
    simp only at D
    have L : Hid (∀ w', Below w.heap.size w w' → Calls Tryz.prog 223 #[.slice co cn cc, .int .i64 v] w' (CodeEnd w' (liftT code v))) := fun w' h => liftCode_any co cn cc code v w' hn (HS.out w' h)
    cases hl : liftT code v with
    | none =>
      have E : Hid (nodeOf ⟨o, s, t, v⟩ ⟨(5), a, b, code⟩ = none) := hid (by simp [nodeOf, EL.out, ← hfb, hl])
      rw [E.out]
      rw [hl] at L
      unfold CodeEnd at L
      simp only at L
      clear hfb E hl
      go_enter Tryz.func221, Tryz.ntmps221
      go_wp2_with (first | (go_at_call 228; refine (D.out _).mono ?_; rintro e w1 ⟨rfl, hb1⟩; have B1 := hid ((below2 _ _ _).trans (hb1.mono (by simp; omega))); have R2 := hid (block_below R1.out hb1); have Q2 := hid (block_below Q1.out hb1); obtain ⟨r0, r1, r2, r3⟩ := quad_cells R2.out; obtain ⟨q0, q1, q2, q3⟩ := quad_cells Q2.out; clear hb1) | (go_at_call 223; refine (L.out _ B1.out).mono ?_; rintro e w2 ⟨⟨sx, rfl⟩, hb2⟩; have B2 := hid (B1.out.trans (hb2.mono B1.out.size)); clear hb2))
      exact ⟨rfl, ⟨_, rfl⟩, B2.out⟩
    | some tr =>
      obtain ⟨y, x, hy⟩ := tv_form tr
      have E : Hid (nodeOf ⟨o, s, t, v⟩ ⟨(5), a, b, code⟩ = some (.iface 331 (.agg #[.int .i64 b, .iface y x]))) := hid (by simp [nodeOf, EL.out, ← hfb, hl, hy])
      rw [E.out]
      rw [hl] at L
      unfold CodeEnd at L
      simp only [hy] at L
      clear hfb E hl hy
      go_enter Tryz.func221, Tryz.ntmps221
      go_wp2_with (first | (go_at_call 228; refine (D.out _).mono ?_; rintro e w1 ⟨rfl, hb1⟩; have B1 := hid ((below2 _ _ _).trans (hb1.mono (by simp; omega))); have R2 := hid (block_below R1.out hb1); have Q2 := hid (block_below Q1.out hb1); obtain ⟨r0, r1, r2, r3⟩ := quad_cells R2.out; obtain ⟨q0, q1, q2, q3⟩ := quad_cells Q2.out; clear hb1) | (go_at_call 223; refine (L.out _ B1.out).mono ?_; rintro e w2 ⟨rfl, hb2⟩; have B2 := hid (B1.out.trans (hb2.mono B1.out.size)); obtain ⟨u0, u1, u2, u3⟩ := quad_cells (block_below R2.out hb2); clear hb2))
      go_ret
      exact ⟨rfl, B2.out⟩

set_option maxHeartbeats 1600000 in
theorem stm8 (a b : Int) (co : Option Addr) (cn cc : Nat) (code : List (Int × Int)) (o s t v : Int) (w : World) (hn : cn ≤ 9223372036854775807) (hs : ItemsOf w co cn code) :
    Calls Tryz.prog 221 #[.agg #[.int .i64 (8), .int .i64 a, .int .i64 b, .slice co cn cc], .agg #[.int .i64 o, .int .i64 s, .int .i64 t, .int .i64 v]] w (StmEnd w (nodeOf ⟨o, s, t, v⟩ ⟨(8), a, b, code⟩)) := by
  have HS : Hid (∀ w', Below w.heap.size w w' → ItemsOf w' co cn code) := fun w' h => hs.below h
  have EL : Hid (code.length = cn) := hs.1
  obtain ⟨fb, hfb⟩ : ∃ x, x = fieldsB (8) a b cn ⟨o, s, t, v⟩ := ⟨_, rfl⟩
  have D := hid (fun w => demandFields_any (8) a b co cn cc o s t v w)
  rw [← hfb] at D
  have R1 := hid (block_below (heap_alloc_new w (.cells #[.int .i64 (8), .int .i64 a, .int .i64 b, .slice co cn cc] 223)) (below1 _ (.cells #[.int .i64 o, .int .i64 s, .int .i64 t, .int .i64 v] 148)))
  have Q1 := hid (heap_alloc_new (w.alloc (.cells #[.int .i64 (8), .int .i64 a, .int .i64 b, .slice co cn cc] 223)) (.cells #[.int .i64 o, .int .i64 s, .int .i64 t, .int .i64 v] 148))
  simp only [World.size_alloc] at Q1
  clear hs
  cases fb with
  | false =>
    have E : Hid (nodeOf ⟨o, s, t, v⟩ ⟨(8), a, b, code⟩ = none) := hid (by simp [nodeOf, EL.out, ← hfb])
    rw [E.out]
    unfold DemEnd at D
    simp only at D
    clear hfb E
    go_enter Tryz.func221, Tryz.ntmps221
    go_wp2_with (go_at_call 228; refine (D.out _).mono ?_; rintro e w1 ⟨⟨sx, rfl⟩, hb1⟩; have B1 := hid ((below2 _ _ _).trans (hb1.mono (by simp; omega))); clear hb1)
    exact ⟨rfl, ⟨_, rfl⟩, B1.out⟩
  | true =>
    unfold DemEnd at D
    simp only at D
    have L : Hid (∀ w', Below w.heap.size w w' → Calls Tryz.prog 223 #[.slice co cn cc, .int .i64 v] w' (CodeEnd w' (liftT code v))) := fun w' h => liftCode_any co cn cc code v w' hn (HS.out w' h)
    cases hl : liftT code v with
    | none =>
      have E : Hid (nodeOf ⟨o, s, t, v⟩ ⟨(8), a, b, code⟩ = none) := hid (by simp [nodeOf, EL.out, ← hfb, hl])
      rw [E.out]
      rw [hl] at L
      unfold CodeEnd at L
      simp only at L
      clear hfb E hl
      go_enter Tryz.func221, Tryz.ntmps221
      go_wp2_with (first | (go_at_call 228; refine (D.out _).mono ?_; rintro e w1 ⟨rfl, hb1⟩; have B1 := hid ((below2 _ _ _).trans (hb1.mono (by simp; omega))); have R2 := hid (block_below R1.out hb1); have Q2 := hid (block_below Q1.out hb1); obtain ⟨r0, r1, r2, r3⟩ := quad_cells R2.out; obtain ⟨q0, q1, q2, q3⟩ := quad_cells Q2.out; clear hb1) | (go_at_call 223; refine (L.out _ B1.out).mono ?_; rintro e w2 ⟨⟨sx, rfl⟩, hb2⟩; have B2 := hid (B1.out.trans (hb2.mono B1.out.size)); clear hb2))
      exact ⟨rfl, ⟨_, rfl⟩, B2.out⟩
    | some tr =>
      obtain ⟨y, x, hy⟩ := tv_form tr
      have E : Hid (nodeOf ⟨o, s, t, v⟩ ⟨(8), a, b, code⟩ = some (.iface 333 (.agg #[.int .i64 a, .int .i64 b, .iface y x]))) := hid (by simp [nodeOf, EL.out, ← hfb, hl, hy])
      rw [E.out]
      rw [hl] at L
      unfold CodeEnd at L
      simp only [hy] at L
      clear hfb E hl hy
      go_enter Tryz.func221, Tryz.ntmps221
      go_wp2_with (first | (go_at_call 228; refine (D.out _).mono ?_; rintro e w1 ⟨rfl, hb1⟩; have B1 := hid ((below2 _ _ _).trans (hb1.mono (by simp; omega))); have R2 := hid (block_below R1.out hb1); have Q2 := hid (block_below Q1.out hb1); obtain ⟨r0, r1, r2, r3⟩ := quad_cells R2.out; obtain ⟨q0, q1, q2, q3⟩ := quad_cells Q2.out; clear hb1) | (go_at_call 223; refine (L.out _ B1.out).mono ?_; rintro e w2 ⟨rfl, hb2⟩; have B2 := hid (B1.out.trans (hb2.mono B1.out.size)); obtain ⟨u0, u1, u2, u3⟩ := quad_cells (block_below R2.out hb2); clear hb2))
      go_ret
      exact ⟨rfl, B2.out⟩

set_option maxHeartbeats 1600000 in
theorem stmX (k a b : Int) (co : Option Addr) (cn cc : Nat) (code : List (Int × Int)) (o s t v : Int) (w : World) (hn : cn ≤ 9223372036854775807) (hs : ItemsOf w co cn code) (n1 : k ≠ 1) (n2 : k ≠ 2) (n3 : k ≠ 3) (n4 : k ≠ 4) (n5 : k ≠ 5) (n6 : k ≠ 6) (n7 : k ≠ 7) (n8 : k ≠ 8) (n9 : k ≠ 9) :
    Calls Tryz.prog 221 #[.agg #[.int .i64 k, .int .i64 a, .int .i64 b, .slice co cn cc], .agg #[.int .i64 o, .int .i64 s, .int .i64 t, .int .i64 v]] w (StmEnd w (nodeOf ⟨o, s, t, v⟩ ⟨k, a, b, code⟩)) := by
  have HS : Hid (∀ w', Below w.heap.size w w' → ItemsOf w' co cn code) := fun w' h => hs.below h
  have EL : Hid (code.length = cn) := hs.1
  obtain ⟨fb, hfb⟩ : ∃ x, x = fieldsB k a b cn ⟨o, s, t, v⟩ := ⟨_, rfl⟩
  have D := hid (fun w => demandFields_any k a b co cn cc o s t v w)
  rw [← hfb] at D
  have R1 := hid (block_below (heap_alloc_new w (.cells #[.int .i64 k, .int .i64 a, .int .i64 b, .slice co cn cc] 223)) (below1 _ (.cells #[.int .i64 o, .int .i64 s, .int .i64 t, .int .i64 v] 148)))
  have Q1 := hid (heap_alloc_new (w.alloc (.cells #[.int .i64 k, .int .i64 a, .int .i64 b, .slice co cn cc] 223)) (.cells #[.int .i64 o, .int .i64 s, .int .i64 t, .int .i64 v] 148))
  simp only [World.size_alloc] at Q1
  clear hs
  have e1 : (k == 1) = false := by simpa using n1
  have e2 : (k == 2) = false := by simpa using n2
  have e3 : (k == 3) = false := by simpa using n3
  have e4 : (k == 4) = false := by simpa using n4
  have e5 : (k == 5) = false := by simpa using n5
  have e6 : (k == 6) = false := by simpa using n6
  have e7 : (k == 7) = false := by simpa using n7
  have e8 : (k == 8) = false := by simpa using n8
  have e9 : (k == 9) = false := by simpa using n9
  cases fb with
  | false =>
    have E : Hid (nodeOf ⟨o, s, t, v⟩ ⟨k, a, b, code⟩ = none) := hid (by simp [nodeOf, EL.out, ← hfb])
    rw [E.out]
    unfold DemEnd at D
    simp only at D
    clear hfb E
    clear n1 n2 n3 n4 n5 n6 n7 n8 n9
    go_enter Tryz.func221, Tryz.ntmps221
    go_wp2_with (go_at_call 228; refine (D.out _).mono ?_; rintro e w1 ⟨⟨sx, rfl⟩, hb1⟩; have B1 := hid ((below2 _ _ _).trans (hb1.mono (by simp; omega))); clear hb1)
    exact ⟨rfl, ⟨_, rfl⟩, B1.out⟩
  | true =>
    unfold DemEnd at D
    simp only at D
    have L : Hid (∀ w', Below w.heap.size w w' → Calls Tryz.prog 223 #[.slice co cn cc, .int .i64 v] w' (CodeEnd w' (liftT code v))) := fun w' h => liftCode_any co cn cc code v w' hn (HS.out w' h)
    cases hl : liftT code v with
    | none =>
      have E : Hid (nodeOf ⟨o, s, t, v⟩ ⟨k, a, b, code⟩ = none) := hid (by simp [nodeOf, EL.out, ← hfb, hl, n1, n2, n3, n4, n5, n6, n7, n8, n9])
      rw [E.out]
      rw [hl] at L
      unfold CodeEnd at L
      simp only at L
      clear hfb E hl
      clear n1 n2 n3 n4 n5 n6 n7 n8 n9
      go_enter Tryz.func221, Tryz.ntmps221
      go_wp2_with (first | (go_at_call 228; refine (D.out _).mono ?_; rintro e w1 ⟨rfl, hb1⟩; have B1 := hid ((below2 _ _ _).trans (hb1.mono (by simp; omega))); have R2 := hid (block_below R1.out hb1); have Q2 := hid (block_below Q1.out hb1); obtain ⟨r0, r1, r2, r3⟩ := quad_cells R2.out; obtain ⟨q0, q1, q2, q3⟩ := quad_cells Q2.out; clear hb1) | (go_at_call 223; refine (L.out _ B1.out).mono ?_; rintro e w2 ⟨⟨sx, rfl⟩, hb2⟩; have B2 := hid (B1.out.trans (hb2.mono B1.out.size)); clear hb2))
      exact ⟨rfl, ⟨_, rfl⟩, B2.out⟩
    | some tr =>
      obtain ⟨y, x, hy⟩ := tv_form tr
      have E : Hid (nodeOf ⟨o, s, t, v⟩ ⟨k, a, b, code⟩ = none) := hid (by simp [nodeOf, EL.out, ← hfb, hl, n1, n2, n3, n4, n5, n6, n7, n8, n9])
      rw [E.out]
      rw [hl] at L
      unfold CodeEnd at L
      simp only [hy] at L
      clear hfb E hl hy
      clear n1 n2 n3 n4 n5 n6 n7 n8 n9
      go_enter Tryz.func221, Tryz.ntmps221
      go_wp2_with (first | (go_at_call 228; refine (D.out _).mono ?_; rintro e w1 ⟨rfl, hb1⟩; have B1 := hid ((below2 _ _ _).trans (hb1.mono (by simp; omega))); have R2 := hid (block_below R1.out hb1); have Q2 := hid (block_below Q1.out hb1); obtain ⟨r0, r1, r2, r3⟩ := quad_cells R2.out; obtain ⟨q0, q1, q2, q3⟩ := quad_cells Q2.out; clear hb1) | (go_at_call 223; refine (L.out _ B1.out).mono ?_; rintro e w2 ⟨rfl, hb2⟩; have B2 := hid (B1.out.trans (hb2.mono B1.out.size)); obtain ⟨u0, u1, u2, u3⟩ := quad_cells (block_below R2.out hb2); clear hb2))
      exact ⟨rfl, ⟨_, rfl⟩, B2.out⟩

theorem liftStm_any (k a b : Int) (co : Option Addr) (cn cc : Nat) (code : List (Int × Int)) (o s t v : Int) (w : World) (hn : cn ≤ 9223372036854775807) (hs : ItemsOf w co cn code) :
    Calls Tryz.prog 221 #[.agg #[.int .i64 k, .int .i64 a, .int .i64 b, .slice co cn cc], .agg #[.int .i64 o, .int .i64 s, .int .i64 t, .int .i64 v]] w (StmEnd w (nodeOf ⟨o, s, t, v⟩ ⟨k, a, b, code⟩)) := by
  by_cases n1 : k = 1
  · subst n1; exact stm1 a b co cn cc code o s t v w hn hs
  by_cases n2 : k = 2
  · subst n2; exact stm2 a b co cn cc code o s t v w hn hs
  by_cases n3 : k = 3
  · subst n3; exact stm3 a b co cn cc code o s t v w hn hs
  by_cases n4 : k = 4
  · subst n4; exact stm4 a b co cn cc code o s t v w hn hs
  by_cases n5 : k = 5
  · subst n5; exact stm5 a b co cn cc code o s t v w hn hs
  by_cases n6 : k = 6
  · subst n6; exact stm6 a b co cn cc code o s t v w hn hs
  by_cases n7 : k = 7
  · subst n7; exact stm7 a b co cn cc code o s t v w hn hs
  by_cases n8 : k = 8
  · subst n8; exact stm8 a b co cn cc code o s t v w hn hs
  by_cases n9 : k = 9
  · subst n9; exact stm9 a b co cn cc code o s t v w hn hs
  exact stmX k a b co cn cc code o s t v w hn hs n1 n2 n3 n4 n5 n6 n7 n8 n9

end Go.Proofs.YthaklmdhkkfigaaGreat
namespace Go.Proofs.YthaklmdhkkfigaaGreat
open Go.RowKit Go.Sort

theorem nodeOf_form {l : LimD} {s : StmD} {v : Value} (h : nodeOf l s = some v) : ∃ y x, v = .iface y x := by
  unfold nodeOf at h
  split at h
  · cases h
  split at h
  · cases h; exact ⟨_, _, rfl⟩
  split at h
  · cases h; exact ⟨_, _, rfl⟩
  split at h
  · cases h; exact ⟨_, _, rfl⟩
  cases hl : liftT s.code l.v with
  | none => rw [hl] at h; cases h
  | some t =>
    rw [hl] at h
    simp only [Option.bind_some] at h
    repeat (split at h; (cases h; exact ⟨_, _, rfl⟩))
    cases h

def nodesR (l : LimD) : List StmD → Option (List Value)
  | [] => some []
  | s :: r => (nodeOf l s).bind fun v => (nodesR l r).map (v :: ·)

theorem nodesR_append (l : LimD) (a b : List StmD) : nodesR l (a ++ b) = (nodesR l a).bind fun x => (nodesR l b).map (x ++ ·) := by
  induction a with
  | nil => simp [nodesR]
  | cons s a ih =>
    simp only [List.cons_append, nodesR, ih]
    cases nodeOf l s with
    | none => rfl
    | some v =>
      simp only [Option.bind_some]
      cases nodesR l a with
      | none => rfl
      | some x =>
        simp only [Option.bind_some, Option.map_some]
        cases nodesR l b <;> rfl

/-- The nodes of a list, if it is right. -/
def liftAll (l : LimD) (ss : List StmD) : Option (List Value) := if limP l ∧ ss.length ≤ 50 then nodesR l ss else none

def StmsEnd (w : World) (r : Option (List Value)) (e : Ending) (w' : World) : Prop :=
  match r with
  | some vs => (∃ val, e = .returned val ∧ w'.ownsRow (w.heap.size + 1) 309 1 val vs.length vs) ∧ Below w.heap.size w w'
  | none => Pan e ∧ Below w.heap.size w w'

theorem Tryz.info309 : (Tryz.prog.info? 309).map (fun i => (i.zero, i.size, i.bytes)) = some (some .nilIface, 1, 16) := by kernel_rfl

theorem splitS {ss : List StmD} {k : Nat} (h : k < ss.length) : ss = ss.take k ++ ss.getD k stm0 :: ss.drop (k + 1) := by
  have e : ss.getD k stm0 = ss[k] := by simp [List.getD_eq_getElem?_getD, List.getElem?_eq_getElem h]
  rw [e]
  simp

theorem takeS {ss : List StmD} {k : Nat} (h : k < ss.length) : ss.take (k + 1) = ss.take k ++ [ss.getD k stm0] := by
  have e : ss.getD k stm0 = ss[k] := by simp [List.getD_eq_getElem?_getD, List.getElem?_eq_getElem h]
  rw [e, List.take_succ_eq_append_getElem h]

set_option maxHeartbeats 2000000 in
theorem liftStms_any (ao : Option Addr) (n c : Nat) (ss : List StmD) (o s t v : Int) (w : World) (hn : n ≤ 9223372036854775807) (hs : StmsOf w ao n ss) :
    Calls Tryz.prog 192 #[.slice ao n c, .agg #[.int .i64 o, .int .i64 s, .int .i64 t, .int .i64 v]] w (StmsEnd w (liftAll ⟨o, s, t, v⟩ ss)) := by
  have HL := hid hs.1
  obtain ⟨lb, hlb⟩ : ∃ lb, lb = limB ⟨o, s, t, v⟩ := ⟨_, rfl⟩
  have CL : Hid (∀ w, Calls Tryz.prog 217 #[.agg #[.int .i64 o, .int .i64 s, .int .i64 t, .int .i64 v]] w fun e w' => e = .returned (.bool lb) ∧ Below w.heap.size w w') := fun w => by rw [hlb]; exact limitsOK_any o s t v w
  cases lb with
  | false =>
    have E : Hid (liftAll ⟨o, s, t, v⟩ ss = none) := hid (by unfold liftAll; rw [if_neg]; intro h; rw [show limB ⟨o, s, t, v⟩ = true from decide_eq_true h.1] at hlb; cases hlb)
    rw [E.out]
    clear hs hlb
    go_enter Tryz.func192, Tryz.ntmps192
    go_wp2_with (first | (go_at_call 217; refine (CL.out _).mono ?_; rintro e w1 ⟨rfl, hb⟩; have HB := hid hb; clear hb) | (go_at_call 220; refine (demand_no _ _).mono ?_; rintro e w2 ⟨rfl, hw⟩; obtain rfl := hw.symm))
    exact ⟨rfl, ⟨_, rfl⟩, (below1 _ _).trans (HB.out.mono (by simp))⟩
  | true =>
    have hlim : limP ⟨o, s, t, v⟩ := by have := hlb.symm; unfold limB at this; exact of_decide_eq_true this
    clear hlb
    by_cases h50 : n ≤ 50
    · have i50 : (n : Int) ≤ 50 := by omega
      have EA : Hid (liftAll ⟨o, s, t, v⟩ ss = nodesR ⟨o, s, t, v⟩ ss) := hid (by unfold liftAll; rw [if_pos ⟨hlim, by rw [HL.out]; exact h50⟩])
      obtain ⟨i0, hi, hz0, hz1, hz2⟩ := info_parts Tryz.info309
      go_enter Tryz.func192, Tryz.ntmps192
      go_wp2_with (first | (go_at_call 217; refine (CL.out _).mono ?_; rintro e w1 ⟨rfl, hb⟩; have HB0 := hid ((below1 _ _).trans (hb.mono (by simp))); have Q0 := hid (block_below (heap_alloc_new w _) hb); clear hb) | (go_at_call 220; refine (demand_yes _ _).mono ?_; rintro e w2 ⟨rfl, hw⟩; obtain rfl := hw.symm))
      go_loopw [5, 17] (fun nv i wr => ∃ (k : Nat) (vs : List Value), k ≤ n ∧ i = .int .i64 k ∧ nodesR ⟨o, s, t, v⟩ (ss.take k) = some vs ∧ vs.length = k ∧ wr.ownsRow (w.heap.size + 1) 309 1 nv k vs ∧ wr.heap[w.heap.size]? = some (.cells #[.int .i64 o, .int .i64 s, .int .i64 t, .int .i64 v] 148 (0, 0)) ∧ Below w.heap.size w wr) (fun _ i _ => n - (intOf i).toNat)
      case atStart => exact ⟨0, [], Nat.zero_le _, rfl, rfl, rfl, World.ownsRow_nil _ _ _ _, Q0.out, HB0.out⟩
      case round =>
        obtain ⟨k, vs, hk, rfl, hrun, hvl, ho, hq, hb⟩ := hrel
        have HB := hid hb
        have HQ := hid hq
        have HO := hid ho
        have HR := hid hrun
        have HVL := hid hvl
        have hszl := lt_of_block hq
        clear hq ho hrun hvl
        by_cases hlt : k < n
        · obtain ⟨b, off, rfl, hbl, hc⟩ := hs.2 (by omega)
          obtain ⟨sd, es⟩ : ∃ sd, sd = ss.getD k stm0 := ⟨_, rfl⟩
          have hk4 := hc k hlt
          rw [← es] at hk4
          obtain ⟨x1, x2, x3, co, cn, cc, x4, hcn, hit⟩ := hk4
          have HI : Hid (∀ w', Below wr.heap.size wr w' → ItemsOf w' co cn sd.code) := hid (fun w' h => hit.below (hb.trans (h.mono hb.size)))
          obtain ⟨kd, a, bb, code⟩ := sd
          have k1 : wr.cell? ⟨b, off + k * 4, none⟩ = some (.int .i64 kd) := (hb.cell (p := ⟨b, off + k * 4, none⟩) hbl).trans x1
          have k2 : wr.cell? ⟨b, off + k * 4 + 1, none⟩ = some (.int .i64 a) := (hb.cell (p := ⟨b, off + k * 4 + 1, none⟩) hbl).trans x2
          have k3 : wr.cell? ⟨b, off + k * 4 + 2, none⟩ = some (.int .i64 bb) := (hb.cell (p := ⟨b, off + k * 4 + 2, none⟩) hbl).trans x3
          have k4 : wr.cell? ⟨b, off + k * 4 + 3, none⟩ = some (.slice co cn cc) := (hb.cell (p := ⟨b, off + k * 4 + 3, none⟩) hbl).trans x4
          have ES := hid es
          have Q1 := hid (block_below HQ.out (below1 wr (.cells #[.int .i64 kd, .int .i64 a, .int .i64 bb, .slice co cn cc] 223)))
          obtain ⟨q10, q11, q12, q13⟩ := quad_cells Q1.out
          have L := hid (liftStm_any kd a bb co cn cc code o s t v (wr.alloc (.cells #[.int .i64 kd, .int .i64 a, .int .i64 bb, .slice co cn cc] 223)) hcn (HI.out _ (below1 _ _)))
          obtain ⟨ao5, m5, cap5, hnv⟩ : ∃ ao5 m5 cap5, u5 = .slice ao5 m5 cap5 := by
            rcases HO.out.2 with ⟨h, _⟩ | ⟨g, cap, cur, h, _⟩
            · exact ⟨_, _, _, h⟩
            · exact ⟨_, _, _, h⟩
          subst hnv
          clear hc hs hb es x1 x2 x3 x4 hit
          cases hnode : nodeOf ⟨o, s, t, v⟩ ⟨kd, a, bb, code⟩ with
          | none =>
            have EN : Hid (liftAll ⟨o, s, t, v⟩ ss = none) := hid (by
              rw [EA.out, splitS (ss := ss) (k := k) (by rw [HL.out]; exact hlt), nodesR_append, HR.out, ← ES.out]
              simp [nodesR, hnode])
            rw [hnode] at L
            unfold StmEnd at L
            simp only at L
            clear hnode
            go_wp2_with (go_at_call 221; refine L.out.mono ?_; rintro e w1 ⟨⟨sx, rfl⟩, hb1⟩; have B1 := hid hb1; clear hb1)
            refine ⟨rfl, ?_⟩
            rw [EN.out]
            exact ⟨⟨_, rfl⟩, (HB.out.alloc (by omega) _).trans (B1.out.mono (by simp; omega))⟩
          | some nd =>
            obtain ⟨y, x, hy⟩ := nodeOf_form hnode
            have EN : Hid (nodesR ⟨o, s, t, v⟩ (ss.take (k + 1)) = some (vs ++ [.iface y x])) := hid (by
              rw [takeS (by rw [HL.out]; exact hlt), nodesR_append, HR.out, ← ES.out]
              simp [nodesR, hnode, hy])
            rw [hnode] at L
            unfold StmEnd at L
            simp only [hy] at L
            clear hnode hy
            go_wp2_with (first | (go_at_call 221; refine L.out.mono ?_; rintro e w1 ⟨rfl, hb1⟩; have B1 := hid hb1; have O1 := hid (ownsRow_below (HO.out.alloc _) hb1); have Q2 := hid (block_below Q1.out hb1); clear hb1) | (at_builtin; refine wpList_append_own _ rfl (.tmp 21) (.tmp 25) 278 rfl (w.heap.size + 1) 309 i0 .nilIface 1 16 Tryz.underlying278 hi hz0 hz1 hz2 rfl (by decide) _ _ _ rfl (O1.out.alloc _) ⟨w1.heap.size, 0, none⟩ 1 1 [.iface y x] rfl rfl ?c1 ?c2 ?c3 ?c4 ?c5 ?_))
            case c1 =>
              intro j u hj
              match j, hj with
              | 0, hj => simp at hj; subst hj; simp [Addr.add]
            case c2 => intro u hu; simp at hu; subst hu; rfl
            case c3 => unfold maxLen; omega
            case c4 => omega
            case c5 => have := B1.out.size; simp at this ⊢; omega
            · intro v' w2 hown' hgrow _
              have O2 := hid hown'
              have G := hid hgrow
              clear hown' hgrow
              go_wp2
              go_roundw
              case rel =>
                have hrow : ∀ kk, (Value.slice ao5 m5 cap5).ownBlock = some kk → w.heap.size + 1 ≤ kk := fun kk e => (HO.out.lt kk e).1
                have s1 := B1.out.size
                simp at s1
                refine ⟨k + 1, _, by omega, by go_num, EN.out, by simp [HVL.out], O2.out, ?_, ?_⟩
                · rw [grown_block G.out (by simp; omega) (fun e => by have := hrow _ e; omega), heap_alloc_old _ _ (by omega)]
                  exact Q2.out
                · exact ((((HB.out.alloc (by omega) _).trans (B1.out.mono (by simp; omega))).alloc (by omega) _).grown G.out (by simp; omega) (fun kk e => by have := hrow kk e; omega))
              case measure => simp [intOf]; omega
        · have e : k = n := by omega
          subst e
          have ER : Hid (liftAll ⟨o, s, t, v⟩ ss = some vs) := hid (by rw [EA.out]; have := HR.out; rwa [List.take_of_length_le (by rw [HL.out]; exact Nat.le_refl _)] at this)
          clear hs hb
          go_wp2
          go_ret
          rw [ER.out]
          exact ⟨⟨_, rfl, by rw [HVL.out]; exact HO.out⟩, HB.out⟩
    · have i50 : decide ((n : Int) ≤ 50) = false := by simp; omega
      have E : Hid (liftAll ⟨o, s, t, v⟩ ss = none) := hid (by unfold liftAll; rw [if_neg]; intro h; rw [HL.out] at h; exact h50 h.2)
      rw [E.out]
      clear hs
      go_enter Tryz.func192, Tryz.ntmps192
      go_wp2_with (first | (go_at_call 217; refine (CL.out _).mono ?_; rintro e w1 ⟨rfl, hb⟩; have HB := hid hb; clear hb) | (go_at_call_of 220 (Value.bool true); refine (demand_yes _ _).mono ?_; rintro e w2 ⟨rfl, hw⟩; obtain rfl := hw.symm) | (go_at_call_of 220 (Value.bool false); refine (demand_no _ _).mono ?_; rintro e w2 ⟨rfl, hw⟩; obtain rfl := hw.symm))
      exact ⟨rfl, ⟨_, rfl⟩, (below1 _ _).trans (HB.out.mono (by simp))⟩

end Go.Proofs.YthaklmdhkkfigaaGreat
namespace Go.Proofs.YthaklmdhkkfigaaGreat
open Go.RowKit Go.Sort

theorem fieldA_most (k : Int) (l : LimD) : fieldA k l = mostA k l + 1 := by
  unfold fieldA mostA
  split
  · omega
  split
  · omega
  split <;> omega

theorem fieldB_most (k : Int) (l : LimD) : fieldB k l = mostB k l + 1 := by
  unfold fieldB mostB
  split
  · omega
  split <;> omega

theorem fieldsB_eq (k a b : Int) (cn : Nat) (l : LimD) : fieldsB k a b cn l = (betB a 0 (mostA k l) && betB b 0 (mostB k l) && (if hasB k then true else decide (cn = 0))) := by
  unfold fieldsB
  rw [fieldA_most, fieldB_most]
  have h1 : decide (0 ≤ a ∧ a < mostA k l + 1) = betB a 0 (mostA k l) := by rw [Bool.eq_iff_iff]; simp [betB]; omega
  have h2 : decide (0 ≤ b ∧ b < mostB k l + 1) = betB b 0 (mostB k l) := by rw [Bool.eq_iff_iff]; simp [betB]; omega
  rw [h1, h2]

theorem nodeOf_stmB (l : LimD) (s : StmD) : (nodeOf l s).isSome = stmB l s := by
  unfold nodeOf stmB
  rw [fieldsB_eq, ← okT_codeB s.code l.v]
  obtain ⟨k, a, b, code⟩ := s
  simp only
  cases hA : betB a 0 (mostA k l) with
  | false => simp
  | true =>
    cases hB : betB b 0 (mostB k l) with
    | false => simp
    | true =>
      simp only [Bool.true_and]
      by_cases h6 : k = 6
      · subst h6
        by_cases hz : code.length = 0 <;> simp [hasB, betB, hz]
      by_cases h7 : k = 7
      · subst h7
        by_cases hz : code.length = 0 <;> simp [hasB, betB, hz]
      by_cases h9 : k = 9
      · subst h9
        by_cases hz : code.length = 0 <;> simp [hasB, betB, hz]
      have hh : hasB k = true := by simp [hasB, h6, h7, h9]
      simp only [hh, if_true, h6, h7, h9, if_false]
      cases liftT code l.v with
      | none => simp
      | some t =>
        by_cases h1 : k = 1
        · subst h1; simp [betB]
        by_cases h2 : k = 2
        · subst h2; simp [betB]
        by_cases h3 : k = 3
        · subst h3; simp [betB]
        by_cases h4 : k = 4
        · subst h4; simp [betB]
        by_cases h5 : k = 5
        · subst h5; simp [betB]
        by_cases h8 : k = 8
        · subst h8; simp [betB]
        have hk : betB k 1 9 = false := by simp [betB]; omega
        simp [h1, h2, h3, h4, h5, h8, hk]

theorem nodesR_some (l : LimD) : ∀ ss : List StmD, (nodesR l ss).isSome = true ↔ ∀ i, i < ss.length → stmB l (ss.getD i stm0) = true := by
  intro ss
  induction ss with
  | nil => simp [nodesR]
  | cons s r ih =>
    have e : (nodesR l (s :: r)).isSome = ((nodeOf l s).isSome && (nodesR l r).isSome) := by
      simp only [nodesR]
      cases nodeOf l s with
      | none => rfl
      | some v => cases nodesR l r <;> rfl
    rw [e, Bool.and_eq_true, ih, nodeOf_stmB]
    constructor
    · rintro ⟨h1, h2⟩ i hi
      match i, hi with
      | 0, _ => simpa using h1
      | i + 1, hi => simpa using h2 i (by simpa using hi)
    · intro h
      exact ⟨by simpa using h 0 (by simp), fun i hi => by simpa using h (i + 1) (by simpa using hi)⟩

theorem liftAll_stmsB (l : LimD) (ss : List StmD) : (liftAll l ss).isSome = stmsB l ss := by
  rw [Bool.eq_iff_iff]
  unfold liftAll stmsB
  rw [decide_eq_true_iff]
  by_cases h : limP l ∧ ss.length ≤ 50
  · rw [if_pos h, nodesR_some]
    exact ⟨fun hh => ⟨h.1, h.2, hh⟩, fun hh => hh.2.2⟩
  · rw [if_neg h]
    constructor
    · intro hh; cases hh
    · intro hh; exact absurd ⟨hh.1, hh.2.1⟩ h

theorem ents46 : ∀ (args : Array Value) (w : World), (callFunc 191 args).run Tryz.prog w = .ok (.enter 191 args) w := enter_of (f := 191) Tryz.func191 (by kernel_rfl) rfl

set_option maxHeartbeats 1000000 in
theorem implStmsOK_any (ao : Option Addr) (n c : Nat) (ss : List StmD) (o s t v : Int) (w : World) (hn : n ≤ 9223372036854775807) (hs : StmsOf w ao n ss) :
    Calls Tryz.prog 148 #[.slice ao n c, .agg #[.int .i64 o, .int .i64 s, .int .i64 t, .int .i64 v]] w fun e w' => e = .returned (.bool (stmsB ⟨o, s, t, v⟩ ss)) ∧ Below w.heap.size w w' := by
  have hmf : ∀ (fn : Fn) (first cap : Array Value) (w : World), (Instr.makeFunc fn first cap).run Tryz.prog w = .ok (.func fn first cap) w := fun _ _ _ _ => rfl
  rw [← liftAll_stmsB]
  obtain ⟨W, hW⟩ : ∃ W, W = ((w.alloc (.cells #[.slice ao n c] 194)).alloc (.cells #[.int .i64 o, .int .i64 s, .int .i64 t, .int .i64 v] 148)) := ⟨_, rfl⟩
  have hWs : W.heap.size = w.heap.size + 1 + 1 := by rw [hW]; simp
  have bW : Below w.heap.size w W := by rw [hW]; exact below2 _ _ _
  have c0 : W.heap[w.heap.size]? = some (.cells #[.slice ao n c] 194 (0, 0)) := by rw [hW]; exact block_below (heap_alloc_new w _) (below1 _ _)
  have c1 : W.heap[w.heap.size + 1]? = some (.cells #[.int .i64 o, .int .i64 s, .int .i64 t, .int .i64 v] 148 (0, 0)) := by rw [hW]; simpa using heap_alloc_new (w.alloc (.cells #[.slice ao n c] 194)) (.cells #[.int .i64 o, .int .i64 s, .int .i64 t, .int .i64 v] 148)
  have L : Calls Tryz.prog 191 #[.pointer (some ⟨w.heap.size, 0, none⟩), .pointer (some ⟨w.heap.size + 1, 0, none⟩)] (W.alloc (.cells #[.nilIface] 276)) fun e w' => (match liftAll ⟨o, s, t, v⟩ ss with | some _ => e = .returned (.tuple #[]) | none => Pan e) ∧ Below (W.heap.size + 1) (W.alloc (.cells #[.nilIface] 276)) w' := by
    have d0 := cell_of_one (block_below c0 (below1 W (.cells #[.nilIface] 276)))
    obtain ⟨d1, d2, d3, d4⟩ := quad_cells (block_below c1 (below1 W (.cells #[.nilIface] 276)))
    have H := hid (liftStms_any ao n c ss o s t v (W.alloc (.cells #[.nilIface] 276)) hn (hs.below (bW.trans ((below1 _ _).mono (by omega)))))
    have hz : (W.alloc (.cells #[.nilIface] 276)).heap.size = W.heap.size + 1 := by simp
    obtain ⟨V, hV⟩ : ∃ V, V = W.alloc (.cells #[.nilIface] 276) := ⟨_, rfl⟩
    rw [← hV] at d0 d1 d2 d3 d4 H hz ⊢
    clear hV c0 c1 bW hW hs
    cases hlt : liftAll ⟨o, s, t, v⟩ ss with
    | some t =>
      rw [hlt] at H
      unfold StmsEnd at H
      simp only at H ⊢
      rw [← hz]
      clear hlt hz hWs
      go_enter Tryz.func191, Tryz.ntmps191
      go_wp2_with (go_at_call 192; refine H.out.mono ?_; rintro e w1 ⟨⟨val, rfl, _⟩, hb⟩; have HB := hid hb; clear hb)
      go_end0
      exact ⟨rfl, HB.out⟩
    | none =>
      rw [hlt] at H
      unfold StmsEnd at H
      simp only at H ⊢
      rw [← hz]
      clear hlt hz hWs
      go_enter Tryz.func191, Tryz.ntmps191
      go_wp2_with (go_at_call 192; refine H.out.mono ?_; rintro e w1 ⟨⟨sx, rfl⟩, hb⟩; have HB := hid hb; clear hb)
      exact ⟨rfl, ⟨_, rfl⟩, HB.out⟩
  cases hlt : liftAll ⟨o, s, t, v⟩ ss with
  | some tt =>
    rw [hlt] at L
    have A := hid (attempt_yes 191 _ W (fun _ => True) ents46 (L.mono fun e w' ⟨h1, h2⟩ => ⟨h1, trivial, h2⟩))
    have HW := hid hW
    have BW := hid bW
    have hq := nil_eq
    rw [hW] at A
    clear hlt L c0 c1 bW hs
    go_enter Tryz.func148, Tryz.ntmps148
    go_wp2_with (go_at_call 190; refine A.out.mono ?_; rintro e w1 ⟨rfl, w2, _, hb2, hw1⟩; have HB := hid hb2; have H1 := hid hw1; clear hb2 hw1)
    go_ret
    refine ⟨rfl, ?_⟩
    rw [H1.out]
    have hb := HB.out
    rw [← HW.out] at hb ⊢
    exact (BW.out.trans ((below1 _ _).mono (by omega))).trans (hb.mono (by omega)) |>.setCell (by simp; omega) _
  | none =>
    rw [hlt] at L
    have A := hid (attempt_no 191 _ W ents46 L)
    have HW := hid hW
    have BW := hid bW
    have hq := err_eq
    rw [hW] at A
    clear hlt L c0 c1 bW hs
    go_enter Tryz.func148, Tryz.ntmps148
    go_wp2_with (go_at_call 190; refine A.out.mono ?_; rintro e w1 ⟨⟨sx, rfl⟩, hb2⟩; have HB := hid hb2; clear hb2)
    go_ret
    refine ⟨rfl, ?_⟩
    have hb := HB.out
    rw [← HW.out] at hb
    exact BW.out.trans (hb.mono (by omega))

end Go.Proofs.YthaklmdhkkfigaaGreat
