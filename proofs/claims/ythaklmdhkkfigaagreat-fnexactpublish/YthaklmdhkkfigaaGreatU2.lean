import Derived.Test.YthaklmdhkkfigaaGreatU1
namespace Go.Proofs.YthaklmdhkkfigaaGreat
open Go.RowKit Go.Sort
attribute [local go_sem ↓] Go.wp_at_zero Go.wp_at_succ

theorem ItemsOf.rowEvent {w : World} {b n : Nat} {its : List (Int × Int)} (hz : its.length = n) (h : w.rowIs b 70 (n * 2) (icell its)) : ItemsOf w (some ⟨b, 0, none⟩) n its :=
  ⟨hz, fun _ => ⟨b, 0, rfl, h.lt, fun i hi => ⟨by rw [← icell_even]; simpa using h.cell (i := i * 2) (by omega), by rw [← icell_odd]; simpa using h.cell (i := i * 2 + 1) (by omega)⟩⟩⟩

theorem Tryz.info70 : (Tryz.prog.info? 70).map (fun i => (i.zero, i.size, i.bytes)) = some (some (.agg #[.int .i64 0, .int .i64 0]), 2, 16) := by kernel_rfl

set_option maxHeartbeats 400000 in
theorem toEvent_any (x y : Int) (w : World) : Calls Tryz.prog 96 #[.agg #[.int .i64 x, .int .i64 y]] w fun e w' => e = .returned (.agg #[.int .i64 x, .int .i64 y]) ∧ Below w.heap.size w w' := by
  go_enter Tryz.func96, Tryz.ntmps96
  go_wp2
  exact bodyPost_ret (v := .agg #[.int .i64 x, .int .i64 y]) (by simp [results, Tryz.results96, go_sem]) rfl ⟨rfl, below3 _ _ _ _⟩

set_option maxHeartbeats 400000 in
theorem eqEvent_any (x y x' y' : Int) (w : World) : Calls Tryz.prog 111 #[.agg #[.int .i64 x, .int .i64 y], .agg #[.int .i64 x', .int .i64 y']] w fun e w' => e = .returned (.bool (decide (x = x' ∧ y = y'))) ∧ Below w.heap.size w w' := by
  by_cases h1 : x = x'
  · by_cases h2 : y = y'
    · subst h1 h2
      go_enter Tryz.func111, Tryz.ntmps111
      go_wp2
      go_ret
      exact ⟨ret_bool (by simp), below2 _ _ _⟩
    · subst h1
      have hb : (y != y') = true := by simpa using h2
      have H : Hid (¬ y = y') := h2
      clear h2
      go_enter Tryz.func111, Tryz.ntmps111
      go_wp2
      go_ret
      exact ⟨ret_bool (by simp [H.out]), below2 _ _ _⟩
  · have hb : (x != x') = true := by simpa using h1
    have H : Hid (¬ x = x') := h1
    clear h1
    go_enter Tryz.func111, Tryz.ntmps111
    go_wp2
    go_ret
    exact ⟨ret_bool (by simp [H.out]), below2 _ _ _⟩

theorem toEvents_step {w wr : World} {B n k : Nat} {its : List (Int × Int)}
    (hr : wr.rowIs B 70 (n * 2) (fun j => if j < k * 2 then icell its j else .int .i64 0)) (hb : Below B w wr) :
    ((wr.setCell ⟨B, k * 2, none⟩ (.int .i64 (its.getD k (0, 0)).1)).setCell ⟨B, k * 2 + 1, none⟩ (.int .i64 (its.getD k (0, 0)).2)).rowIs B 70 (n * 2) (fun j => if j < (k + 1) * 2 then icell its j else .int .i64 0) ∧
      Below B w ((wr.setCell ⟨B, k * 2, none⟩ (.int .i64 (its.getD k (0, 0)).1)).setCell ⟨B, k * 2 + 1, none⟩ (.int .i64 (its.getD k (0, 0)).2)) := by
  refine ⟨((hr.set (k * 2) _).set (k * 2 + 1) _).congr fun i hi => ?_, (hb.setCell (Nat.le_refl _) _).setCell (Nat.le_refl _) _⟩
  by_cases e : i = k * 2 + 1
  · subst e; simp [icell_odd, show k * 2 + 1 < (k + 1) * 2 by omega]
  · by_cases e2 : i = k * 2
    · subst e2; simp [icell_even, show k * 2 < (k + 1) * 2 by omega]
    · by_cases h : i < k * 2
      · simp [e, e2, h, show i < (k + 1) * 2 by omega]
      · simp [e, e2, h, show ¬ i < (k + 1) * 2 by omega]

set_option maxHeartbeats 800000 in
theorem toEventS_any (ao : Option Addr) (n c : Nat) (its : List (Int × Int)) (w : World) (hn : n ≤ 1048576) (hs : ItemsOf w ao n its) :
    Calls Tryz.prog 69 #[.slice ao n c] w fun e w' => e = .returned (.slice (some ⟨w.heap.size, 0, none⟩) n n) ∧ w'.rowIs w.heap.size 70 (n * 2) (icell its) ∧ Below w.heap.size w w' := by
  have hmk := run_make_pairs 138 70 (.int .i64 0) (.int .i64 0) 16 Tryz.underlying138 Tryz.info70 .i64 .i64 n (by omega) (by omega)
  go_enter Tryz.func69, Tryz.ntmps69
  go_wp2
  go_loopw [4] (fun i wr => ∃ k : Nat, k ≤ n ∧ i = .int .i64 k ∧ wr.rowIs w.heap.size 70 (n * 2) (fun j => if j < k * 2 then icell its j else .int .i64 0) ∧ Below w.heap.size w wr) (fun i _ => n - (intOf i).toNat)
  case atStart => exact ⟨0, Nat.zero_le _, rfl, by simpa using rowIs_pairs w (.int .i64 0) n 70, (Below.refl _ _).alloc (Nat.le_refl _) _⟩
  case round =>
    obtain ⟨k, hk, rfl, hr, hb⟩ := hrel
    have HR := hid hr
    have HB := hid hb
    by_cases hlt : k < n
    · obtain ⟨b, off, rfl, hbl, hc⟩ := hs.2 (by omega)
      have hc1 : wr.cell? ⟨b, off + k * 2, none⟩ = some (.int .i64 (its.getD k (0, 0)).1) := (hb.cell (p := ⟨b, off + k * 2, none⟩) hbl).trans (hc k hlt).1
      have hc2 : wr.cell? ⟨b, off + k * 2 + 1, none⟩ = some (.int .i64 (its.getD k (0, 0)).2) := (hb.cell (p := ⟨b, off + k * 2 + 1, none⟩) hbl).trans (hc k hlt).2
      clear hs hc hr hb
      go_wp2_with (go_at_call 96; refine (toEvent_any _ _ _).mono ?_; rintro e w1 ⟨rfl, hb1⟩; have hr1 := HR.out.of_block (hb1.block _ HR.out.lt); have f1 := hr1.frozen (k * 2); have f2 := hr1.frozen (k * 2 + 1); have g1 := hr1.cell (i := k * 2) (by omega); have g2 := hr1.cell (i := k * 2 + 1) (by omega); have R1 := hid (toEvents_step hr1 (HB.out.trans (hb1.mono (Nat.le_of_lt HR.out.lt)))); clear hr1 hb1)
      go_roundw
      case rel => exact ⟨k + 1, by omega, by go_num, R1.out.1, R1.out.2⟩
      case measure => simp [intOf]; omega
    · have e : k = n := by omega
      subst e
      have R := hid (World.rowIs.congr hr (g := icell its) (fun i hi => by simp [hi]))
      clear hr hb hs
      go_wp2
      go_ret
      exact ⟨rfl, R.out, HB.out⟩

set_option maxHeartbeats 800000 in
theorem eqEventS_any (ao bo : Option Addr) (n m c d : Nat) (xs ys : List (Int × Int)) (w : World) (hn : n ≤ 1048576) (hm : m ≤ 9223372036854775807) (hx : ItemsOf w ao n xs) (hy : ItemsOf w bo m ys) :
    Calls Tryz.prog 81 #[.slice ao n c, .slice bo m d] w fun e w' => e = .returned (.bool (decide (xs = ys))) ∧ Below w.heap.size w w' := by
  by_cases hnm : n = m
  · subst hnm
    have HL : Hid (xs.length = n ∧ ys.length = n) := ⟨hx.1, hy.1⟩
    go_enter Tryz.func81, Tryz.ntmps81
    go_wp2
    go_loopw [5] (fun i wr => ∃ k : Nat, k ≤ n ∧ i = .int .i64 k ∧ (∀ j, j < k → xs.getD j (0, 0) = ys.getD j (0, 0)) ∧ Below w.heap.size w wr) (fun i _ => n - (intOf i).toNat)
    case atStart => exact ⟨0, Nat.zero_le _, rfl, fun j h => absurd h (by omega), Below.refl _ _⟩
    case round =>
      obtain ⟨k, hk, rfl, he, hb⟩ := hrel
      have HE : Hid (∀ j, j < k → xs.getD j (0, 0) = ys.getD j (0, 0)) := he
      have HB := hid hb
      clear he
      by_cases hlt : k < n
      · obtain ⟨b, off, rfl, hbl, hc⟩ := hx.2 (by omega)
        obtain ⟨b2, off2, rfl, hbl2, hc2⟩ := hy.2 (by omega)
        have hi : (k : Int) < (n : Int) := by omega
        obtain ⟨x, ex⟩ : ∃ x, x = xs.getD k (0, 0) := ⟨_, rfl⟩
        obtain ⟨y, ey⟩ : ∃ y, y = ys.getD k (0, 0) := ⟨_, rfl⟩
        obtain ⟨x1, x2⟩ := x
        obtain ⟨y1, y2⟩ := y
        have k1 : wr.cell? ⟨b, off + k * 2, none⟩ = some (.int .i64 x1) := (hb.cell (p := ⟨b, off + k * 2, none⟩) hbl).trans (by rw [(hc k hlt).1, ← ex])
        have k2 : wr.cell? ⟨b, off + k * 2 + 1, none⟩ = some (.int .i64 x2) := (hb.cell (p := ⟨b, off + k * 2 + 1, none⟩) hbl).trans (by rw [(hc k hlt).2, ← ex])
        have l1 : wr.cell? ⟨b2, off2 + k * 2, none⟩ = some (.int .i64 y1) := (hb.cell (p := ⟨b2, off2 + k * 2, none⟩) hbl2).trans (by rw [(hc2 k hlt).1, ← ey])
        have l2 : wr.cell? ⟨b2, off2 + k * 2 + 1, none⟩ = some (.int .i64 y2) := (hb.cell (p := ⟨b2, off2 + k * 2 + 1, none⟩) hbl2).trans (by rw [(hc2 k hlt).2, ← ey])
        have q1 := cell_regrown k1
        have q2 := cell_regrown k2
        have r1 := cell_regrown l1
        have r2 := cell_regrown l2
        have EX : Hid ((x1, x2) = xs.getD k (0, 0)) := ex
        have EY : Hid ((y1, y2) = ys.getD k (0, 0)) := ey
        have hsz : Hid (w.heap.size ≤ wr.heap.size) := hb.size
        clear ex ey hc hc2 hx hy hb k1 k2 l1 l2
        by_cases hxy : x1 = y1 ∧ x2 = y2
        · have hd : decide (x1 = y1 ∧ x2 = y2) = true := by simpa using hxy
          have HXY := hid hxy
          have c40 : ∀ d os, Calls Tryz.prog 111 #[.agg #[.int .i64 x1, .int .i64 x2], .agg #[.int .i64 y1, .int .i64 y2]] (grow (redrawn wr d) os) fun e w'' => e = .returned (.bool true) ∧ ∃ p : Regrown, w'' = grow (redrawn wr p.d) p.os :=
            fun d os => Calls.regrown_of (by rw [← hd]; exact eqEvent_any x1 x2 y1 y2 _)
          clear hxy hd
          go_wp2
          refine wp_region_quiet_below (by kernel_rfl) (by kernel_rfl) ?_
          repeat (any_goals (first | go_big_quiet_step (first | exact c40 _ _) | quiet_step (first | exact c40 _ _)))
          refine wpQuiet_nil ?_
          intro _ hw'
          obtain ⟨⟨dq, osq⟩, hw''⟩ := hw'
          subst hw''
          go_wp2
          go_roundw
          case rel =>
            refine ⟨k + 1, by omega, by go_num, fun j hj => ?_, HB.out.trans ((below_regrown wr dq osq).mono hsz.out)⟩
            by_cases e : j = k
            · subst e; rw [← EX.out, ← EY.out, HXY.out.1, HXY.out.2]
            · exact HE.out j (by omega)
          case measure => simp [intOf]; omega
        · have hd : decide (x1 = y1 ∧ x2 = y2) = false := by simpa using hxy
          have HXY := hid hxy
          have c40 : ∀ d os, Calls Tryz.prog 111 #[.agg #[.int .i64 x1, .int .i64 x2], .agg #[.int .i64 y1, .int .i64 y2]] (grow (redrawn wr d) os) fun e w'' => e = .returned (.bool false) ∧ ∃ p : Regrown, w'' = grow (redrawn wr p.d) p.os :=
            fun d os => Calls.regrown_of (by rw [← hd]; exact eqEvent_any x1 x2 y1 y2 _)
          clear hxy hd
          go_wp2
          refine wp_region_quiet_below (by kernel_rfl) (by kernel_rfl) ?_
          repeat (any_goals (first | go_big_quiet_step (first | exact c40 _ _) | quiet_step (first | exact c40 _ _)))
          refine wpQuiet_nil ?_
          intro _ hw'
          obtain ⟨⟨dq, osq⟩, hw''⟩ := hw'
          subst hw''
          go_wp2
          go_ret
          refine ⟨ret_bool ?_, HB.out.trans ((below_regrown wr dq osq).mono hsz.out)⟩
          symm
          rw [decide_eq_false_iff_not]
          intro e
          have := EX.out.trans ((congrArg (fun l => l.getD k (0, 0)) e).trans EY.out.symm)
          exact HXY.out ⟨congrArg Prod.fst this, congrArg Prod.snd this⟩
      · have e : k = n := by omega
        subst e
        have HX : Hid (xs = ys) := getD_ext HL.out.1 HL.out.2 HE.out
        clear hx hy
        go_wp2
        go_ret
        exact ⟨ret_bool (by simp [HX.out]), HB.out⟩
  · have HX : Hid (¬ xs = ys) := hid fun e => hnm (by rw [← hx.1, ← hy.1, e])
    have h2 : ((n : Int) != (m : Int)) = true := by simp; omega
    clear hx hy
    go_enter Tryz.func81, Tryz.ntmps81
    go_wp2
    go_ret
    exact ⟨ret_bool (by simp [HX.out]), Below.refl _ _⟩

theorem eqEventS_same (ao bo : Option Addr) (n c d : Nat) (xs : List (Int × Int)) (w : World) (hn : n ≤ 1048576) (hx : ItemsOf w ao n xs) (hy : ItemsOf w bo n xs) :
    Calls Tryz.prog 81 #[.slice ao n c, .slice bo n d] w fun e w' => e = .returned (.bool true) ∧ Below w.heap.size w w' :=
  (eqEventS_any ao bo n n c d xs xs w hn (by omega) hx hy).mono fun e w' ⟨h1, h2⟩ => ⟨by rw [h1]; simp, h2⟩

set_option maxHeartbeats 400000 in
theorem szEventS_any (ao : Option Addr) (n c : Nat) (left : Int) (w : World) (hn : n ≤ 9223372036854775807) (h0 : 0 ≤ left) (h1 : left ≤ 1048576) :
    Calls Tryz.prog 61 #[.slice ao n c, .int .i64 left] w fun e w' => e = .returned (.int .i64 (if left < n then -1 else left - n)) ∧ w' = w := by
  by_cases h : left < n
  · rw [if_pos h]
    have h2 : left - n < 0 := by omega
    go_enter Tryz.func61, Tryz.ntmps61
    go_wp2
    go_ret
    exact ⟨rfl, rfl⟩
  · rw [if_neg h]
    have h2 : ¬ left - n < 0 := by omega
    go_enter Tryz.func61, Tryz.ntmps61
    go_wp2
    go_ret
    exact ⟨rfl, rfl⟩

theorem toEvent_rows (ao : Option Addr) (n c : Nat) (zs : List (Int × Int)) (w : World) (hn : n ≤ 1048576) (hs : ItemsOf w ao n zs) :
    Calls Tryz.prog 69 #[.slice ao n c] w fun e w' => ∃ g, e = .returned (.slice (some ⟨g, 0, none⟩) n n) ∧ Lasts w.heap.size w' (fun u => ItemsOf u (some ⟨g, 0, none⟩) n zs) ∧ Below w.heap.size w w' := by
  have hl := hs.1
  exact (toEventS_any ao n c zs w hn hs).mono (by
    rintro e w' ⟨rfl, hr, hb⟩
    exact ⟨_, rfl, fun u h1 h2 => ItemsOf.rowEvent hl (rowIs_same hr (Nat.le_refl _) h1), hb⟩)

def NestE (w : World) (ao : Option Addr) (n : Nat) (zss : List (List (Int × Int))) : Prop :=
  zss.length = n ∧ (0 < n → ∃ b off, ao = some ⟨b, off, none⟩ ∧ b < w.heap.size ∧ ∀ i, i < n → ∃ co cn cc, w.cell? ⟨b, off + i, none⟩ = some (.slice co cn cc) ∧ cn ≤ 9223372036854775807 ∧ ItemsOf w co cn (zss.getD i []))
theorem NestE.below {w w' : World} {ao : Option Addr} {n : Nat} {zss : List (List (Int × Int))} (h : NestE w ao n zss) (hb : Below w.heap.size w w') : NestE w' ao n zss :=
  ⟨h.1, fun hn => by
    obtain ⟨b, off, e, hlt, hc⟩ := h.2 hn
    refine ⟨b, off, e, Nat.lt_of_lt_of_le hlt hb.size, fun i hi => ?_⟩
    obtain ⟨co, cn, cc, h1, h2, h3⟩ := hc i hi
    exact ⟨co, cn, cc, (hb.cell (p := ⟨b, off + i, none⟩) hlt).trans h1, h2, h3.below hb⟩⟩

set_option maxHeartbeats 800000 in
theorem szEventSS_any (ao : Option Addr) (n c : Nat) (ss : List (List (Int × Int))) (lft : Int) (w : World) (hn : n ≤ 9223372036854775807) (g0 : 0 ≤ lft) (g1 : lft ≤ 1048576) (hs : NestE w ao n ss) :
    Calls Tryz.prog 28 #[.slice ao n c, .int .i64 lft] w fun e w' => e = .returned (.int .i64 (szOut lft (wNest ss))) ∧ w' = w := by
  have HL := hid hs.1
  by_cases h : lft - n < 0
  · have E : Hid (szOut lft (wNest ss) = -1) := hid (if_pos (by unfold wNest; rw [HL.out]; omega))
    rw [E.out]
    clear hs
    go_enter Tryz.func28, Tryz.ntmps28
    go_wp2
    go_ret
    exact ⟨rfl, rfl⟩
  · have hn' : n ≤ 1048576 := by omega
    go_enter Tryz.func28, Tryz.ntmps28
    go_wp2
    go_loopw [1, 5] (fun l i wr => ∃ (k : Nat) (left : Int), k ≤ n ∧ i = .int .i64 k ∧ l = .int .i64 left ∧ 0 ≤ left ∧ left ≤ 1048576 ∧ Hid (left = lft - n - (sumTo (fun i => (ss.getD i []).length) k : Nat)) ∧ wr = w) (fun _ i _ => n - (intOf i).toNat)
    case atStart => exact ⟨0, _, Nat.zero_le _, rfl, rfl, by omega, by omega, hid (by simp [sumTo]), rfl⟩
    case round =>
      obtain ⟨k, left, hk, rfl, rfl, hl0, hl1, HP, rfl⟩ := hrel
      by_cases hlt : k < n
      · obtain ⟨b, off, rfl, hbl, hc⟩ := hs.2 (by omega)
        obtain ⟨s, es⟩ : ∃ s, s = ss.getD k [] := ⟨_, rfl⟩
        have hk4 := hc k hlt
        rw [← es] at hk4
        obtain ⟨co, cn, cc, k4, hcn, hit⟩ := hk4
        have EL : Hid (s.length = cn) := hit.1
        have ES : Hid (sumTo (fun i => (ss.getD i []).length) (k + 1) = sumTo (fun i => (ss.getD i []).length) k + cn) := hid (sumTo_step _ (by show (ss.getD k []).length = cn; rw [← es]; exact EL.out))
        have EM : Hid (sumTo (fun i => (ss.getD i []).length) (k + 1) ≤ sumTo (fun i => (ss.getD i []).length) n) := hid (sumTo_le _ hlt)
        have C := hid (fun w => szEventS_any co cn cc left w hcn hl0 hl1)
        clear hc hs es hit
        by_cases hneg : left < cn
        · rw [if_pos hneg] at C
          go_wp2_with (go_at_call 61; refine (C.out _).mono ?_; rintro e w1 ⟨rfl, hw⟩; obtain rfl := hw.symm)
          go_ret
          have h1 := HP.out
          have h2 := ES.out
          have h3 := EM.out
          refine ⟨ret_int (Eq.symm (if_pos ?_)), rfl⟩
          unfold wNest
          rw [HL.out]
          omega
        · have hnn : ¬ left - cn < 0 := by omega
          rw [if_neg hneg] at C
          go_wp2_with (go_at_call 61; refine (C.out _).mono ?_; rintro e w1 ⟨rfl, hw⟩; obtain rfl := hw.symm)
          go_roundw
          case rel =>
            have h1 := HP.out
            have h2 := ES.out
            exact ⟨k + 1, left - cn, by omega, by go_num, rfl, by omega, by omega, hid (by rw [h1, h2]; omega), by first | rfl | trivial⟩
          case measure => simp [intOf]; omega
      · have e : k = n := by omega
        subst e
        clear hs
        go_wp2
        go_ret
        have h1 := HP.out
        refine ⟨ret_int ?_, rfl⟩
        unfold szOut wNest
        rw [HL.out, if_neg (by omega)]
        omega

theorem infoSS_event : (Tryz.prog.info? 138).map (fun i => (i.zero, i.size, i.bytes)) = some (some (.slice none 0 0), 1, 24) := by kernel_rfl
def MadeE (w : World) (L : Nat) (F : Nat → Value) (zss : List (List (Int × Int))) (k : Nat) : Prop :=
  ∀ i, i < k → ∃ g, F i = .slice (some ⟨g, 0, none⟩) (zss.getD i []).length (zss.getD i []).length ∧ Lasts L w (fun u => ItemsOf u (some ⟨g, 0, none⟩) (zss.getD i []).length (zss.getD i []))
theorem MadeE.same {w w' : World} {L : Nat} {F : Nat → Value} {zss : List (List (Int × Int))} {k : Nat} (h : MadeE w L F zss k) (hs : Same L w w') (hz : w.heap.size ≤ w'.heap.size) : MadeE w' L F zss k := by
  intro i hi
  obtain ⟨g, h1, h2⟩ := h i hi
  exact ⟨g, h1, h2.same hs hz⟩
theorem MadeE.mono {w : World} {L L' : Nat} {F : Nat → Value} {zss : List (List (Int × Int))} {k : Nat} (h : MadeE w L F zss k) (hl : L' ≤ L) : MadeE w L' F zss k := by
  intro i hi
  obtain ⟨g, h1, h2⟩ := h i hi
  exact ⟨g, h1, h2.mono hl⟩
theorem madeE_nest {w : World} {L g n : Nat} {F : Nat → Value} {zss : List (List (Int × Int))} (hl : zss.length = n) (hf : FitsN zss) (hr : w.rowIs g 138 n F) (hm : MadeE w L F zss n) : NestE w (some ⟨g, 0, none⟩) n zss := by
  refine ⟨hl, fun _ => ⟨g, 0, rfl, hr.lt, fun i hi => ?_⟩⟩
  obtain ⟨q, h1, h2⟩ := hm i hi
  exact ⟨_, _, _, by rw [← h1]; simpa using hr.cell (i := i) hi, Nat.le_trans (hf.2 i (by omega)) (by omega), h2.now⟩
theorem madeE_step {w wr : World} {B n k : Nat} {F : Nat → Value} {zss : List (List (Int × Int))} {g : Nat} (hr : wr.rowIs B 138 n F) (hc : MadeE wr (B + 1) F zss k) (hb : Below B w wr)
    (hl : Lasts (B + 1) wr (fun u => ItemsOf u (some ⟨g, 0, none⟩) (zss.getD k []).length (zss.getD k []))) :
    ∃ F', (wr.setCell ⟨B, k, none⟩ (.slice (some ⟨g, 0, none⟩) (zss.getD k []).length (zss.getD k []).length)).rowIs B 138 n F' ∧
      MadeE (wr.setCell ⟨B, k, none⟩ (.slice (some ⟨g, 0, none⟩) (zss.getD k []).length (zss.getD k []).length)) (B + 1) F' zss (k + 1) ∧
      Below B w (wr.setCell ⟨B, k, none⟩ (.slice (some ⟨g, 0, none⟩) (zss.getD k []).length (zss.getD k []).length)) := by
  have hs : Same (B + 1) wr (wr.setCell ⟨B, k, none⟩ (.slice (some ⟨g, 0, none⟩) (zss.getD k []).length (zss.getD k []).length)) := Same.set _ (Nat.lt_succ_self B) _
  have hc' := hc.same hs (by simp)
  have hl' := hl.same hs (by simp)
  refine ⟨_, hr.set k _, ?_, hb.setCell (Nat.le_refl _) _⟩
  intro i hi
  by_cases e : i = k
  · subst e
    exact ⟨g, by simp, hl'⟩
  · obtain ⟨q, h1, h2⟩ := hc' i (by omega)
    exact ⟨q, by dsimp only; rw [if_neg e]; exact h1, h2⟩

set_option maxHeartbeats 800000 in
theorem toEventSS_any (ao : Option Addr) (n c : Nat) (ss : List (List (Int × Int))) (w : World) (hf : FitsN ss) (hs : NestE w ao n ss) :
    Calls Tryz.prog 38 #[.slice ao n c] w fun e w' => ∃ g, e = .returned (.slice (some ⟨g, 0, none⟩) n n) ∧ Lasts w.heap.size w' (fun u => NestE u (some ⟨g, 0, none⟩) n ss) ∧ Below w.heap.size w w' := by
  have HL := hid hs.1
  have FF := hid hf
  have hn : n ≤ 1048576 := by rw [← HL.out]; exact hf.1
  have HF : Hid (∀ i, i < n → (ss.getD i []).length ≤ 1048576) := by have := hf.2; rw [HL.out] at this; exact this
  have hmk := run_make_row' (P := Tryz.prog) 33 138 (.slice none 0 0) 24 Tryz.underlying33 infoSS_event rfl .i64 .i64 n (by omega) (by omega)
  clear hf
  go_enter Tryz.func38, Tryz.ntmps38
  go_wp2
  go_loopw [4] (fun i wr => ∃ k : Nat, k ≤ n ∧ i = .int .i64 k ∧ (∃ F, wr.rowIs w.heap.size 138 n F ∧ MadeE wr (w.heap.size + 1) F ss k) ∧ Below w.heap.size w wr) (fun i _ => n - (intOf i).toNat)
  case atStart => exact ⟨0, Nat.zero_le _, rfl, ⟨_, World.rowIs_made w (.slice none 0 0) n 138, fun i h => absurd h (by omega)⟩, (Below.refl _ _).alloc (Nat.le_refl _) _⟩
  case round =>
    obtain ⟨k, hk, rfl, ⟨F, hr, hcp⟩, hb⟩ := hrel
    have HR := hid hr
    have HB := hid hb
    have HP := hid hcp
    have hsz := hr.lt
    clear hcp
    by_cases hlt : k < n
    · obtain ⟨b, off, rfl, hbl, hc⟩ := hs.2 (by omega)
      have hff := HF.out k hlt
      obtain ⟨co, cn, cc, k1, hcn, hit⟩ := hc k hlt
      have k1 := (hb.cell (p := ⟨b, off + k, none⟩) hbl).trans k1
      have hcl := hit.1
      have C := hid (toEvent_rows co cn cc (ss.getD k []) wr (by rw [← hcl]; exact hff) (hit.below hb))
      have CL := hid hcl
      clear hs hc hr hb hit hcn hff hcl
      go_wp2_with (go_at_call 69; refine C.out.mono ?_; rintro e w1 ⟨g, rfl, hi1, hb1⟩; have hr1 := HR.out.of_block (hb1.block _ hsz); have f0 := hr1.frozen k; have g0 := hr1.cell (i := k) hlt; have R1 := hid hr1; have I1 := hid hi1; have B1 := hid hb1; clear hr1 hi1 hb1)
      have cs := madeE_step (zss := ss) (k := k) (g := g) R1.out (HP.out.same (Same.of_below B1.out) B1.out.size) (HB.out.trans (B1.out.mono (Nat.le_of_lt hsz))) (by rw [CL.out]; exact I1.out.mono hsz)
      rw [CL.out] at cs
      obtain ⟨F', c1, c2, c3⟩ := cs
      go_roundw
      case rel => exact ⟨k + 1, by omega, by go_num, ⟨F', c1, c2⟩, c3⟩
      case measure => simp [intOf]; omega
    · have e : k = n := by omega
      subst e
      clear hs hr hb
      go_wp2
      go_ret
      have hl := HL.out
      refine ⟨_, rfl, fun u h1 h2 => ?_, HB.out⟩
      exact madeE_nest (L := w.heap.size) hl FF.out (rowIs_same HR.out (Nat.le_refl _) h1) ((HP.out.mono (by omega)).same h1 h2)

set_option maxHeartbeats 800000 in
theorem eqEventSS_same (ao bo : Option Addr) (n c d : Nat) (ss : List (List (Int × Int))) (w : World) (hf : FitsN ss) (hx : NestE w ao n ss) (hy : NestE w bo n ss) :
    Calls Tryz.prog 45 #[.slice ao n c, .slice bo n d] w fun e w' => e = .returned (.bool true) ∧ Below w.heap.size w w' := by
  have hn : n ≤ 1048576 := by rw [← hx.1]; exact hf.1
  have HF : Hid (∀ i, i < n → (ss.getD i []).length ≤ 1048576) := by have := hf.2; rw [hx.1] at this; exact this
  clear hf
  go_enter Tryz.func45, Tryz.ntmps45
  go_wp2
  go_loopw [5] (fun i wr => ∃ k : Nat, k ≤ n ∧ i = .int .i64 k ∧ Below w.heap.size w wr) (fun i _ => n - (intOf i).toNat)
  case atStart => exact ⟨0, Nat.zero_le _, rfl, Below.refl _ _⟩
  case round =>
    obtain ⟨k, hk, rfl, hb⟩ := hrel
    have HB := hid hb
    by_cases hlt : k < n
    · obtain ⟨b, off, rfl, hbl, hc⟩ := hx.2 (by omega)
      obtain ⟨b2, off2, rfl, hbl2, hc2⟩ := hy.2 (by omega)
      have hi : (k : Int) < (n : Int) := by omega
      have hff := HF.out k hlt
      obtain ⟨co, cn, cc, x1, hcn, hit⟩ := hc k hlt
      obtain ⟨do_, dn, dc, y1, hdn, jt⟩ := hc2 k hlt
      have e1 : dn = cn := by rw [← jt.1, hit.1]
      subst e1
      have hcl : dn ≤ 1048576 := by rw [← jt.1]; exact hff
      have k1 := cell_regrown ((hb.cell (p := ⟨b, off + k, none⟩) hbl).trans x1)
      have l1 := cell_regrown ((hb.cell (p := ⟨b2, off2 + k, none⟩) hbl2).trans y1)
      obtain ⟨s, es⟩ : ∃ s, s = ss.getD k [] := ⟨_, rfl⟩
      rw [← es] at hit jt
      have cE : ∀ d os, Calls Tryz.prog 81 #[.slice co dn cc, .slice do_ dn dc] (grow (redrawn wr d) os) fun e w'' => e = .returned (.bool true) ∧ ∃ p : Regrown, w'' = grow (redrawn wr p.d) p.os :=
        fun d os => Calls.regrown_of (eqEventS_same co do_ dn cc dc s _ hcl (hit.below (hb.trans ((below_regrown wr d os).mono hb.size))) (jt.below (hb.trans ((below_regrown wr d os).mono hb.size))))
      clear hx hy hc hc2 x1 y1 hit jt es hb hcn hdn hff hcl
      go_wp2
      refine wp_region_quiet_below (by kernel_rfl) (by kernel_rfl) ?_
      repeat (any_goals (first | go_big_quiet_step (first | exact cE _ _) | quiet_step (first | exact cE _ _)))
      refine wpQuiet_nil ?_
      intro _ hw'
      obtain ⟨⟨dq, osq⟩, hw''⟩ := hw'
      subst hw''
      go_wp2
      go_roundw
      case rel => exact ⟨k + 1, by omega, by go_num, HB.out.trans ((below_regrown wr dq osq).mono HB.out.size)⟩
      case measure => simp [intOf]; omega
    · have e : k = n := by omega
      subst e
      clear hx hy hb
      go_wp2
      go_ret
      exact ⟨rfl, HB.out⟩

end Go.Proofs.YthaklmdhkkfigaaGreat
