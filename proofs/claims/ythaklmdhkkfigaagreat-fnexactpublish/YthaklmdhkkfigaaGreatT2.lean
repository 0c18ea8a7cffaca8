import Derived.Test.YthaklmdhkkfigaaGreatT1
namespace Go.Proofs.YthaklmdhkkfigaaGreat
open Go.RowKit Go.Sort
attribute [local go_sem ↓] Go.wp_at_zero Go.wp_at_succ

theorem ItemsOf.rowTimer {w : World} {b n : Nat} {its : List (Int × Int)} (hz : its.length = n) (h : w.rowIs b 115 (n * 2) (icell its)) : ItemsOf w (some ⟨b, 0, none⟩) n its :=
  ⟨hz, fun _ => ⟨b, 0, rfl, h.lt, fun i hi => ⟨by rw [← icell_even]; simpa using h.cell (i := i * 2) (by omega), by rw [← icell_odd]; simpa using h.cell (i := i * 2 + 1) (by omega)⟩⟩⟩

theorem Tryz.info115 : (Tryz.prog.info? 115).map (fun i => (i.zero, i.size, i.bytes)) = some (some (.agg #[.int .i64 0, .int .i64 0]), 2, 16) := by kernel_rfl

set_option maxHeartbeats 400000 in
theorem toTimer_any (x y : Int) (w : World) : Calls Tryz.prog 68 #[.agg #[.int .i64 x, .int .i64 y]] w fun e w' => e = .returned (.agg #[.int .i64 x, .int .i64 y]) ∧ Below w.heap.size w w' := by
  go_enter Tryz.func68, Tryz.ntmps68
  go_wp2
  exact bodyPost_ret (v := .agg #[.int .i64 x, .int .i64 y]) (by simp [results, Tryz.results68, go_sem]) rfl ⟨rfl, below3 _ _ _ _⟩

set_option maxHeartbeats 400000 in
theorem eqTimer_any (x y x' y' : Int) (w : World) : Calls Tryz.prog 83 #[.agg #[.int .i64 x, .int .i64 y], .agg #[.int .i64 x', .int .i64 y']] w fun e w' => e = .returned (.bool (decide (x = x' ∧ y = y'))) ∧ Below w.heap.size w w' := by
  by_cases h1 : x = x'
  · by_cases h2 : y = y'
    · subst h1 h2
      go_enter Tryz.func83, Tryz.ntmps83
      go_wp2
      go_ret
      exact ⟨ret_bool (by simp), below2 _ _ _⟩
    · subst h1
      have hb : (y != y') = true := by simpa using h2
      have H : Hid (¬ y = y') := h2
      clear h2
      go_enter Tryz.func83, Tryz.ntmps83
      go_wp2
      go_ret
      exact ⟨ret_bool (by simp [H.out]), below2 _ _ _⟩
  · have hb : (x != x') = true := by simpa using h1
    have H : Hid (¬ x = x') := h1
    clear h1
    go_enter Tryz.func83, Tryz.ntmps83
    go_wp2
    go_ret
    exact ⟨ret_bool (by simp [H.out]), below2 _ _ _⟩

theorem toTimers_step {w wr : World} {B n k : Nat} {its : List (Int × Int)}
    (hr : wr.rowIs B 115 (n * 2) (fun j => if j < k * 2 then icell its j else .int .i64 0)) (hb : Below B w wr) :
    ((wr.setCell ⟨B, k * 2, none⟩ (.int .i64 (its.getD k (0, 0)).1)).setCell ⟨B, k * 2 + 1, none⟩ (.int .i64 (its.getD k (0, 0)).2)).rowIs B 115 (n * 2) (fun j => if j < (k + 1) * 2 then icell its j else .int .i64 0) ∧
      Below B w ((wr.setCell ⟨B, k * 2, none⟩ (.int .i64 (its.getD k (0, 0)).1)).setCell ⟨B, k * 2 + 1, none⟩ (.int .i64 (its.getD k (0, 0)).2)) := by
  refine ⟨((hr.set (k * 2) _).set (k * 2 + 1) _).congr fun i hi => ?_, (hb.setCell (Nat.le_refl _) _).setCell (Nat.le_refl _) _⟩
  by_cases e : i = k * 2 + 1
  · subst e; simp [icell_odd, show k * 2 + 1 < (k + 1) * 2 by omega]
  · by_cases e2 : i = k * 2
    · subst e2; simp [icell_even, show k * 2 < (k + 1) * 2 by omega]
    · by_cases h : i < k * 2
      · simp [e, e2, h, show i < (k + 1) * 2 by omega]
      · simp [e, e2, h, show ¬ i < (k + 1) * 2 by omega]

set_option maxHeartbeats 800000 in
theorem toTimerS_any (ao : Option Addr) (n c : Nat) (its : List (Int × Int)) (w : World) (hn : n ≤ 1048576) (hs : ItemsOf w ao n its) :
    Calls Tryz.prog 35 #[.slice ao n c] w fun e w' => e = .returned (.slice (some ⟨w.heap.size, 0, none⟩) n n) ∧ w'.rowIs w.heap.size 115 (n * 2) (icell its) ∧ Below w.heap.size w w' := by
  have hmk := run_make_pairs 40 115 (.int .i64 0) (.int .i64 0) 16 Tryz.underlying40 Tryz.info115 .i64 .i64 n (by omega) (by omega)
  go_enter Tryz.func35, Tryz.ntmps35
  go_wp2
  go_loopw [4] (fun i wr => ∃ k : Nat, k ≤ n ∧ i = .int .i64 k ∧ wr.rowIs w.heap.size 115 (n * 2) (fun j => if j < k * 2 then icell its j else .int .i64 0) ∧ Below w.heap.size w wr) (fun i _ => n - (intOf i).toNat)
  case atStart => exact ⟨0, Nat.zero_le _, rfl, by simpa using rowIs_pairs w (.int .i64 0) n 115, (Below.refl _ _).alloc (Nat.le_refl _) _⟩
  case round =>
    obtain ⟨k, hk, rfl, hr, hb⟩ := hrel
    have HR := hid hr
    have HB := hid hb
    by_cases hlt : k < n
    · obtain ⟨b, off, rfl, hbl, hc⟩ := hs.2 (by omega)
      have hc1 : wr.cell? ⟨b, off + k * 2, none⟩ = some (.int .i64 (its.getD k (0, 0)).1) := (hb.cell (p := ⟨b, off + k * 2, none⟩) hbl).trans (hc k hlt).1
      have hc2 : wr.cell? ⟨b, off + k * 2 + 1, none⟩ = some (.int .i64 (its.getD k (0, 0)).2) := (hb.cell (p := ⟨b, off + k * 2 + 1, none⟩) hbl).trans (hc k hlt).2
      clear hs hc hr hb
      go_wp2_with (go_at_call 68; refine (toTimer_any _ _ _).mono ?_; rintro e w1 ⟨rfl, hb1⟩; have hr1 := HR.out.of_block (hb1.block _ HR.out.lt); have f1 := hr1.frozen (k * 2); have f2 := hr1.frozen (k * 2 + 1); have g1 := hr1.cell (i := k * 2) (by omega); have g2 := hr1.cell (i := k * 2 + 1) (by omega); have R1 := hid (toTimers_step hr1 (HB.out.trans (hb1.mono (Nat.le_of_lt HR.out.lt)))); clear hr1 hb1)
      go_roundw
      case rel => exact ⟨k + 1, by omega, by go_num, R1.out.1, R1.out.2⟩
      case measure => simp [intOf]; omega
    · have e : k = n := by omega
      subst e
      have R := hid (World.rowIs.congr hr (g := icell its) (fun i hi => by simp [hi]))
      clear hr hb hs
      go_wp2
      go_ret
      exact ⟨rfl, R.out, HB.out⟩

set_option maxHeartbeats 800000 in
theorem eqTimerS_any (ao bo : Option Addr) (n m c d : Nat) (xs ys : List (Int × Int)) (w : World) (hn : n ≤ 1048576) (hm : m ≤ 9223372036854775807) (hx : ItemsOf w ao n xs) (hy : ItemsOf w bo m ys) :
    Calls Tryz.prog 48 #[.slice ao n c, .slice bo m d] w fun e w' => e = .returned (.bool (decide (xs = ys))) ∧ Below w.heap.size w w' := by
  by_cases hnm : n = m
  · subst hnm
    have HL : Hid (xs.length = n ∧ ys.length = n) := ⟨hx.1, hy.1⟩
    go_enter Tryz.func48, Tryz.ntmps48
    go_wp2
    go_loopw [5] (fun i wr => ∃ k : Nat, k ≤ n ∧ i = .int .i64 k ∧ (∀ j, j < k → xs.getD j (0, 0) = ys.getD j (0, 0)) ∧ Below w.heap.size w wr) (fun i _ => n - (intOf i).toNat)
    case atStart => exact ⟨0, Nat.zero_le _, rfl, fun j h => absurd h (by omega), Below.refl _ _⟩
    case round =>
      obtain ⟨k, hk, rfl, he, hb⟩ := hrel
      have HE : Hid (∀ j, j < k → xs.getD j (0, 0) = ys.getD j (0, 0)) := he
      have HB := hid hb
      clear he
      by_cases hlt : k < n
      · obtain ⟨b, off, rfl, hbl, hc⟩ := hx.2 (by omega)
        obtain ⟨b2, off2, rfl, hbl2, hc2⟩ := hy.2 (by omega)
        have hi : (k : Int) < (n : Int) := by omega
        obtain ⟨x, ex⟩ : ∃ x, x = xs.getD k (0, 0) := ⟨_, rfl⟩
        obtain ⟨y, ey⟩ : ∃ y, y = ys.getD k (0, 0) := ⟨_, rfl⟩
        obtain ⟨x1, x2⟩ := x
        obtain ⟨y1, y2⟩ := y
        have k1 : wr.cell? ⟨b, off + k * 2, none⟩ = some (.int .i64 x1) := (hb.cell (p := ⟨b, off + k * 2, none⟩) hbl).trans (by rw [(hc k hlt).1, ← ex])
        have k2 : wr.cell? ⟨b, off + k * 2 + 1, none⟩ = some (.int .i64 x2) := (hb.cell (p := ⟨b, off + k * 2 + 1, none⟩) hbl).trans (by rw [(hc k hlt).2, ← ex])
        have l1 : wr.cell? ⟨b2, off2 + k * 2, none⟩ = some (.int .i64 y1) := (hb.cell (p := ⟨b2, off2 + k * 2, none⟩) hbl2).trans (by rw [(hc2 k hlt).1, ← ey])
        have l2 : wr.cell? ⟨b2, off2 + k * 2 + 1, none⟩ = some (.int .i64 y2) := (hb.cell (p := ⟨b2, off2 + k * 2 + 1, none⟩) hbl2).trans (by rw [(hc2 k hlt).2, ← ey])
        have q1 := cell_regrown k1
        have q2 := cell_regrown k2
        have r1 := cell_regrown l1
        have r2 := cell_regrown l2
        have EX : Hid ((x1, x2) = xs.getD k (0, 0)) := ex
        have EY : Hid ((y1, y2) = ys.getD k (0, 0)) := ey
        have hsz : Hid (w.heap.size ≤ wr.heap.size) := hb.size
        clear ex ey hc hc2 hx hy hb k1 k2 l1 l2
        by_cases hxy : x1 = y1 ∧ x2 = y2
        · have hd : decide (x1 = y1 ∧ x2 = y2) = true := by simpa using hxy
          have HXY := hid hxy
          have c40 : ∀ d os, Calls Tryz.prog 83 #[.agg #[.int .i64 x1, .int .i64 x2], .agg #[.int .i64 y1, .int .i64 y2]] (grow (redrawn wr d) os) fun e w'' => e = .returned (.bool true) ∧ ∃ p : Regrown, w'' = grow (redrawn wr p.d) p.os :=
            fun d os => Calls.regrown_of (by rw [← hd]; exact eqTimer_any x1 x2 y1 y2 _)
          clear hxy hd
          go_wp2
          refine wp_region_quiet_below (by kernel_rfl) (by kernel_rfl) ?_
          repeat (any_goals (first | go_big_quiet_step (first | exact c40 _ _) | quiet_step (first | exact c40 _ _)))
          refine wpQuiet_nil ?_
          intro _ hw'
          obtain ⟨⟨dq, osq⟩, hw''⟩ := hw'
          subst hw''
          go_wp2
          go_roundw
          case rel =>
            refine ⟨k + 1, by omega, by go_num, fun j hj => ?_, HB.out.trans ((below_regrown wr dq osq).mono hsz.out)⟩
            by_cases e : j = k
            · subst e; rw [← EX.out, ← EY.out, HXY.out.1, HXY.out.2]
            · exact HE.out j (by omega)
          case measure => simp [intOf]; omega
        · have hd : decide (x1 = y1 ∧ x2 = y2) = false := by simpa using hxy
          have HXY := hid hxy
          have c40 : ∀ d os, Calls Tryz.prog 83 #[.agg #[.int .i64 x1, .int .i64 x2], .agg #[.int .i64 y1, .int .i64 y2]] (grow (redrawn wr d) os) fun e w'' => e = .returned (.bool false) ∧ ∃ p : Regrown, w'' = grow (redrawn wr p.d) p.os :=
            fun d os => Calls.regrown_of (by rw [← hd]; exact eqTimer_any x1 x2 y1 y2 _)
          clear hxy hd
          go_wp2
          refine wp_region_quiet_below (by kernel_rfl) (by kernel_rfl) ?_
          repeat (any_goals (first | go_big_quiet_step (first | exact c40 _ _) | quiet_step (first | exact c40 _ _)))
          refine wpQuiet_nil ?_
          intro _ hw'
          obtain ⟨⟨dq, osq⟩, hw''⟩ := hw'
          subst hw''
          go_wp2
          go_ret
          refine ⟨ret_bool ?_, HB.out.trans ((below_regrown wr dq osq).mono hsz.out)⟩
          symm
          rw [decide_eq_false_iff_not]
          intro e
          have := EX.out.trans ((congrArg (fun l => l.getD k (0, 0)) e).trans EY.out.symm)
          exact HXY.out ⟨congrArg Prod.fst this, congrArg Prod.snd this⟩
      · have e : k = n := by omega
        subst e
        have HX : Hid (xs = ys) := getD_ext HL.out.1 HL.out.2 HE.out
        clear hx hy
        go_wp2
        go_ret
        exact ⟨ret_bool (by simp [HX.out]), HB.out⟩
  · have HX : Hid (¬ xs = ys) := hid fun e => hnm (by rw [← hx.1, ← hy.1, e])
    have h2 : ((n : Int) != (m : Int)) = true := by simp; omega
    clear hx hy
    go_enter Tryz.func48, Tryz.ntmps48
    go_wp2
    go_ret
    exact ⟨ret_bool (by simp [HX.out]), Below.refl _ _⟩

theorem eqTimerS_same (ao bo : Option Addr) (n c d : Nat) (xs : List (Int × Int)) (w : World) (hn : n ≤ 1048576) (hx : ItemsOf w ao n xs) (hy : ItemsOf w bo n xs) :
    Calls Tryz.prog 48 #[.slice ao n c, .slice bo n d] w fun e w' => e = .returned (.bool true) ∧ Below w.heap.size w w' :=
  (eqTimerS_any ao bo n n c d xs xs w hn (by omega) hx hy).mono fun e w' ⟨h1, h2⟩ => ⟨by rw [h1]; simp, h2⟩
end Go.Proofs.YthaklmdhkkfigaaGreat
