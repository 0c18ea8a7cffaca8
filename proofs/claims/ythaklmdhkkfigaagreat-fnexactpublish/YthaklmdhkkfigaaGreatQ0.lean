import Derived.Test.YthaklmdhkkfigaaGreatOa
import Derived.WalkKit
import Derived.WalkSpells
import Derived.WalkLawsBesides
import Derived.Deep.OwnRows
import Derived.Deep.QuietTactic
import Derived.BigQuiet
import Derived.Deep.RegionWith
import Derived.Deep.DrawnRows
namespace Go.Proofs.YthaklmdhkkfigaaGreat
open Go.RowKit
open Go.RowKit Go.Sort

theorem Tryz.infoInt0 : (Tryz.prog.info? 3).map (fun i => (i.zero, i.size, i.bytes)) = some (some (.int .i64 0), 1, 8) := by kernel_rfl

set_option maxHeartbeats 400000 in
theorem szIntS_any (ao : Option Addr) (n c : Nat) (left : Int) (w : World) (hn : n ≤ 9223372036854775807) (h0 : 0 ≤ left) (h1 : left ≤ 1048576) :
    Calls Tryz.prog 26 #[.slice ao n c, .int .i64 left] w fun e w' => e = .returned (.int .i64 (if left < n then -1 else left - n)) ∧ w' = w := by
  by_cases h : left < n
  · rw [if_pos h]
    have h2 : left - n < 0 := by omega
    go_enter Tryz.func26, Tryz.ntmps26
    go_wp2
    go_ret
    exact ⟨rfl, rfl⟩
  · rw [if_neg h]
    have h2 : ¬ left - n < 0 := by omega
    go_enter Tryz.func26, Tryz.ntmps26
    go_wp2
    go_ret
    exact ⟨rfl, rfl⟩

theorem toInt_step {w wr : World} {B n k : Nat} {zs : List Int}
    (hr : wr.rowIs B 3 n (fun j => if j < k then .int .i64 (zs.getD j 0) else .int .i64 0)) (hb : Below B w wr) :
    (wr.setCell ⟨B, k, none⟩ (.int .i64 (zs.getD k 0))).rowIs B 3 n (fun j => if j < k + 1 then .int .i64 (zs.getD j 0) else .int .i64 0) ∧ Below B w (wr.setCell ⟨B, k, none⟩ (.int .i64 (zs.getD k 0))) := by
  refine ⟨(hr.set k _).congr fun i hi => ?_, hb.setCell (Nat.le_refl _) _⟩
  by_cases e : i = k
  · simp [e]
  · by_cases h : i < k
    · simp [e, h, show i < k + 1 by omega]
    · simp [e, h, show ¬ i < k + 1 by omega]

set_option maxHeartbeats 400000 in
theorem toIntS_any (ao : Option Addr) (n c : Nat) (zs : List Int) (w : World) (hn : n ≤ 1048576) (hs : SliceOf w ao n zs) :
    Calls Tryz.prog 36 #[.slice ao n c] w fun e w' => e = .returned (.slice (some ⟨w.heap.size, 0, none⟩) n n) ∧ w'.rowIs w.heap.size 3 n (fun i => .int .i64 (zs.getD i 0)) ∧ Below w.heap.size w w' := by
  have hmk := run_make_row' (P := Tryz.prog) 26 3 (.int .i64 0) 8 Tryz.underlying26 Tryz.infoInt0 rfl .i64 .i64 n (by omega) (by omega)
  go_enter Tryz.func36, Tryz.ntmps36
  go_wp2
  go_loopw [4] (fun i wr => ∃ k : Nat, k ≤ n ∧ i = .int .i64 k ∧ wr.rowIs w.heap.size 3 n (fun j => if j < k then .int .i64 (zs.getD j 0) else .int .i64 0) ∧ Below w.heap.size w wr) (fun i _ => n - (intOf i).toNat)
  case atStart => exact ⟨0, Nat.zero_le _, rfl, by simpa using World.rowIs_made w (.int .i64 0) n 3, (Below.refl _ _).alloc (Nat.le_refl _) _⟩
  case round =>
    obtain ⟨k, hk, rfl, hr, hb⟩ := hrel
    by_cases hlt : k < n
    · obtain ⟨b, off, rfl, hbl, hc⟩ := hs.2 (by omega)
      have hck : wr.cell? ⟨b, off + k, none⟩ = some (.int .i64 (zs.getD k 0)) := (hb.cell (p := ⟨b, off + k, none⟩) hbl).trans (hc k hlt)
      have hst := toInt_step hr hb
      have hcell := hr.cell hlt
      have hfz := hr.frozen k
      have R : Hid _ := hst
      clear hst hr hb hs hc
      go_wp2
      go_roundw
      case rel => exact ⟨k + 1, by omega, by go_num, R.out.1, R.out.2⟩
      case measure => simp [intOf]; omega
    · have e : k = n := by omega
      subst e
      have R := World.rowIs.congr hr (g := fun j => .int .i64 (zs.getD j 0)) (fun i hi => by simp [hi])
      have R : Hid (wr.rowIs w.heap.size 3 k (fun j => .int .i64 (zs.getD j 0))) := R
      clear hr
      go_wp2
      go_ret
      exact ⟨rfl, R.out, hb⟩

/-- Is it a bank? -/
abbrev bankP (ks vs : List Int) (k : Nat) : Prop := ∀ i, i < k → kOk (ks.getD i 0) = true ∧ conv (ks.getD i 0) (vs.getD i 0) = vs.getD i 0

def bankB (ks vs : List Int) : Bool := decide (ks.length = vs.length ∧ vs.length ≤ 32 ∧ bankP ks vs ks.length)

theorem Calls.regrown_same {P : Program} {f : FuncId} {args : Array Value} {w : World} {d : Nat} {os : Array Obj} {v : Value}
    (h : Calls P f args (grow (redrawn w d) os) fun e w' => e = .returned v ∧ w' = grow (redrawn w d) os) : Calls P f args (grow (redrawn w d) os) fun e w'' => e = .returned v ∧ ∃ p : Regrown, w'' = grow (redrawn w p.d) p.os :=
  h.mono fun _ _ ⟨he, hb⟩ => ⟨he, ⟨d, os⟩, hb⟩

theorem enters_cfn (k : Int) (h1 : 1 ≤ k) (h7 : k ≤ 7) : ∀ (args : Array Value) (w : World), (callFunc (cfn k) args).run Tryz.prog w = .ok (.enter (cfn k) args) w := by
  have hk : k = 1 ∨ k = 2 ∨ k = 3 ∨ k = 4 ∨ k = 5 ∨ k = 6 ∨ k = 7 := by omega
  rcases hk with rfl | rfl | rfl | rfl | rfl | rfl | rfl
  · exact enter_of (f := 150) Tryz.func150 (by kernel_rfl) rfl
  · exact enter_of (f := 151) Tryz.func151 (by kernel_rfl) rfl
  · exact enter_of (f := 152) Tryz.func152 (by kernel_rfl) rfl
  · exact enter_of (f := 153) Tryz.func153 (by kernel_rfl) rfl
  · exact enter_of (f := 154) Tryz.func154 (by kernel_rfl) rfl
  · exact enter_of (f := 155) Tryz.func155 (by kernel_rfl) rfl
  · exact enter_of (f := 156) Tryz.func156 (by kernel_rfl) rfl

theorem bank_step {ks vs : List Int} {k : Nat} {x y : Int} (hp : bankP ks vs k) (ex : x = ks.getD k 0) (ey : y = vs.getD k 0) (h1 : kOk x = true) (h2 : conv x y = y) : bankP ks vs (k + 1) := by
  intro i hi
  by_cases e : i = k
  · subst e; rw [← ex, ← ey]; exact ⟨h1, h2⟩
  · exact hp i (by omega)

theorem bank_no {ks vs : List Int} {k n : Nat} (hl : ks.length = n) (hlt : k < n) (h : ¬ (kOk (ks.getD k 0) = true ∧ conv (ks.getD k 0) (vs.getD k 0) = vs.getD k 0)) : bankB ks vs = false := by
  unfold bankB
  rw [decide_eq_false_iff_not]
  exact fun hh => h (hh.2.2 k (by omega))

theorem bank_yes {ks vs : List Int} {n : Nat} (hl : ks.length = n) (hv : vs.length = n) (h32 : n ≤ 32) (h : bankP ks vs n) : bankB ks vs = true := by
  unfold bankB
  rw [decide_eq_true_iff]
  exact ⟨by omega, by omega, by rw [hl]; exact h⟩

set_option maxHeartbeats 1000000 in
theorem specBankOK_any (ao bo : Option Addr) (n m c d : Nat) (ks vs : List Int) (w : World) (hn : n ≤ 9223372036854775807) (hm : m ≤ 9223372036854775807) (hx : SliceOf w ao n ks) (hy : SliceOf w bo m vs) :
    Calls Tryz.prog 64 #[.agg #[.slice ao n c, .slice bo m d]] w fun e w' => e = .returned (.bool (bankB ks vs)) ∧ Below w.heap.size w w' := by
  by_cases hnm : n = m
  · subst hnm
    by_cases h32 : n ≤ 32
    · have HL : Hid (ks.length = n ∧ vs.length = n) := ⟨hx.1, hy.1⟩
      go_enter Tryz.func64, Tryz.ntmps64
      go_wp2
      go_loopw [21] (fun i wr => ∃ k : Nat, k ≤ n ∧ i = .int .i64 k ∧ bankP ks vs k ∧ wr.cell? ⟨w.heap.size, 1, none⟩ = some (.slice bo n d) ∧ Below w.heap.size w wr ∧ w.heap.size < wr.heap.size) (fun i _ => n - (intOf i).toNat)
      case atStart => exact ⟨0, Nat.zero_le _, rfl, fun i h => absurd h (by omega), by simp, (Below.refl _ _).alloc (Nat.le_refl _) _, by simp⟩
      case round =>
        obtain ⟨k, hk, rfl, hp, hbox, hb, hsz⟩ := hrel
        have HP : Hid (bankP ks vs k) := hp
        clear hp
        by_cases hlt : k < n
        · obtain ⟨b, off, rfl, hbl, hc⟩ := hx.2 (by omega)
          obtain ⟨b2, off2, rfl, hbl2, hc2⟩ := hy.2 (by omega)
          have h1 := hc k hlt
          have h2 := hc2 k hlt
          have hi : (k : Int) < (n : Int) := by omega
          obtain ⟨x, ex⟩ : ∃ x, x = ks.getD k 0 := ⟨_, rfl⟩
          obtain ⟨y, ey⟩ : ∃ y, y = vs.getD k 0 := ⟨_, rfl⟩
          rw [← ex] at h1
          rw [← ey] at h2
          have EX : Hid (x = ks.getD k 0) := ex
          have EY : Hid (y = vs.getD k 0) := ey
          have k1 : wr.cell? ⟨b, off + k, none⟩ = some (.int .i64 x) := (hb.cell (p := ⟨b, off + k, none⟩) hbl).trans h1
          have k2 : wr.cell? ⟨b2, off2 + k, none⟩ = some (.int .i64 y) := (hb.cell (p := ⟨b2, off2 + k, none⟩) hbl2).trans h2
          have q2 := cell_regrown k2
          have qb := cell_regrown hbox
          have HB : Hid (Below w.heap.size w wr) := hb
          clear ex ey hc hc2 hx hy h1 h2 hb
          by_cases hkk : 1 ≤ x ∧ x ≤ 7
          · have ht : betB x 1 7 = true := by simp [betB]; omega
            have c35 : ∀ d os, Calls Tryz.prog 31 #[.int .i64 x, .int .i64 1, .int .i64 7] (grow (redrawn wr d) os) fun e w'' => e = .returned (.bool true) ∧ ∃ p : Regrown, w'' = grow (redrawn wr p.d) p.os :=
              fun d os => Calls.regrown_same (by rw [← ht]; exact l1Between_any x 1 7 _)
            have c49 : ∀ d os, Calls Tryz.prog 93 #[.int .i64 x, .int .i64 y] (grow (redrawn wr d) os) fun e w'' => e = .returned (.int .i64 (conv x y)) ∧ ∃ p : Regrown, w'' = grow (redrawn wr p.d) p.os :=
              fun d os => Calls.regrown_of (l1Conv_any x y _ hkk.1 hkk.2)
            by_cases hcv : conv x y = y
            · have hcb : (conv x y != y) = false := by simpa using hcv
              have HCV : Hid (conv x y = y) := hcv
              clear hcv
              go_wp2
              refine wp_region_quiet_below (by kernel_rfl) (by kernel_rfl) ?_
              repeat (any_goals (first | go_big_quiet_step (first | exact c35 _ _ | exact c49 _ _) | quiet_step (first | exact c35 _ _ | exact c49 _ _)))
              refine wpQuiet_nil ?_
              intro _ hw'
              obtain ⟨⟨dq, osq⟩, hw''⟩ := hw'
              subst hw''
              go_wp2
              go_roundw
              case rel => exact ⟨k + 1, by omega, by go_num, bank_step HP.out EX.out EY.out (by simp [kOk]; omega) HCV.out, qb dq osq, HB.out.trans ((below_regrown wr dq osq).mono (by omega)), Nat.lt_of_lt_of_le hsz (below_regrown wr dq osq).size⟩
              case measure => simp [intOf]; omega
            · have hcb : (conv x y != y) = true := by simpa using hcv
              have HCV : Hid (¬ conv x y = y) := hcv
              clear hcv
              go_wp2
              refine wp_region_quiet_below (by kernel_rfl) (by kernel_rfl) ?_
              repeat (any_goals (first | go_big_quiet_step (first | exact c35 _ _ | exact c49 _ _) | quiet_step (first | exact c35 _ _ | exact c49 _ _)))
              refine wpQuiet_nil ?_
              intro _ hw'
              obtain ⟨⟨dq, osq⟩, hw''⟩ := hw'
              subst hw''
              go_wp2
              go_ret
              exact ⟨ret_bool (bank_no HL.out.1 hlt (by rw [← EX.out, ← EY.out]; exact fun h => HCV.out h.2)).symm, HB.out.trans ((below_regrown wr dq osq).mono (by omega))⟩
          · have ht : betB x 1 7 = false := by simp [betB]; omega
            have c35 : ∀ d os, Calls Tryz.prog 31 #[.int .i64 x, .int .i64 1, .int .i64 7] (grow (redrawn wr d) os) fun e w'' => e = .returned (.bool false) ∧ ∃ p : Regrown, w'' = grow (redrawn wr p.d) p.os :=
              fun d os => Calls.regrown_same (by rw [← ht]; exact l1Between_any x 1 7 _)
            go_wp2
            refine wp_region_quiet_below (by kernel_rfl) (by kernel_rfl) ?_
            repeat (any_goals (first | go_big_quiet_step (first | exact c35 _ _) | quiet_step (first | exact c35 _ _)))
            refine wpQuiet_nil ?_
            intro _ hw'
            obtain ⟨⟨dq, osq⟩, hw''⟩ := hw'
            subst hw''
            go_wp2
            go_ret
            exact ⟨ret_bool (bank_no HL.out.1 hlt (by rw [← EX.out, ← EY.out]; intro h; have h2 := h.1; simp [kOk] at h2; omega)).symm, HB.out.trans ((below_regrown wr dq osq).mono (by omega))⟩
        · have e : k = n := by omega
          subst e
          go_wp2
          go_ret
          exact ⟨ret_bool (bank_yes HL.out.1 HL.out.2 h32 HP.out).symm, hb⟩
    · have HX : Hid (bankB ks vs = false) := by unfold bankB; simp; intro _ h; rw [hy.1] at h; omega
      have hgt : (32 : Int) < (n : Int) := by omega
      clear hx hy
      go_enter Tryz.func64, Tryz.ntmps64
      go_wp2
      go_ret
      exact ⟨ret_bool HX.out.symm, (Below.refl _ _).alloc (Nat.le_refl _) _⟩
  · have HX : Hid (bankB ks vs = false) := by unfold bankB; simp; intro h; rw [hx.1, hy.1] at h; omega
    have h2 : ((n : Int) != (m : Int)) = true := by simp; omega
    clear hx hy
    go_enter Tryz.func64, Tryz.ntmps64
    go_wp2
    go_ret
    exact ⟨ret_bool HX.out.symm, (Below.refl _ _).alloc (Nat.le_refl _) _⟩

set_option maxHeartbeats 1000000 in
theorem implBankOK_any (ao bo : Option Addr) (n m c d : Nat) (ks vs : List Int) (w : World) (hn : n ≤ 9223372036854775807) (hm : m ≤ 9223372036854775807) (hx : SliceOf w ao n ks) (hy : SliceOf w bo m vs) :
    Calls Tryz.prog 100 #[.agg #[.slice ao n c, .slice bo m d]] w fun e w' => e = .returned (.bool (bankB ks vs)) ∧ Below w.heap.size w w' := by
  by_cases hnm : n = m
  · subst hnm
    by_cases h32 : n ≤ 32
    · have HL : Hid (ks.length = n ∧ vs.length = n) := ⟨hx.1, hy.1⟩
      go_enter Tryz.func100, Tryz.ntmps100
      go_wp2
      go_loopw [21] (fun i wr => ∃ k : Nat, k ≤ n ∧ i = .int .i64 k ∧ bankP ks vs k ∧ wr.cell? ⟨w.heap.size, 1, none⟩ = some (.slice bo n d) ∧ Below w.heap.size w wr ∧ w.heap.size < wr.heap.size) (fun i _ => n - (intOf i).toNat)
      case atStart => exact ⟨0, Nat.zero_le _, rfl, fun i h => absurd h (by omega), by simp, (Below.refl _ _).alloc (Nat.le_refl _) _, by simp⟩
      case round =>
        obtain ⟨k, hk, rfl, hp, hbox, hb, hsz⟩ := hrel
        have HP : Hid (bankP ks vs k) := hp
        clear hp
        by_cases hlt : k < n
        · obtain ⟨b, off, rfl, hbl, hc⟩ := hx.2 (by omega)
          obtain ⟨b2, off2, rfl, hbl2, hc2⟩ := hy.2 (by omega)
          have h1 := hc k hlt
          have h2 := hc2 k hlt
          have hi : (k : Int) < (n : Int) := by omega
          obtain ⟨x, ex⟩ : ∃ x, x = ks.getD k 0 := ⟨_, rfl⟩
          obtain ⟨y, ey⟩ : ∃ y, y = vs.getD k 0 := ⟨_, rfl⟩
          rw [← ex] at h1
          rw [← ey] at h2
          have EX : Hid (x = ks.getD k 0) := ex
          have EY : Hid (y = vs.getD k 0) := ey
          have k1 : wr.cell? ⟨b, off + k, none⟩ = some (.int .i64 x) := (hb.cell (p := ⟨b, off + k, none⟩) hbl).trans h1
          have k2 : wr.cell? ⟨b2, off2 + k, none⟩ = some (.int .i64 y) := (hb.cell (p := ⟨b2, off2 + k, none⟩) hbl2).trans h2
          have q2 := cell_regrown k2
          have qb := cell_regrown hbox
          have HB : Hid (Below w.heap.size w wr) := hb
          clear ex ey hc hc2 hx hy h1 h2 hb
          by_cases hkk : 1 ≤ x ∧ x ≤ 7
          · have ht : kOk x = true := by simp [kOk]; omega
            have c51 : ∀ d os, Calls Tryz.prog 126 #[.int .i64 x] (grow (redrawn wr d) os) fun e w'' => e = .returned (.bool true) ∧ ∃ p : Regrown, w'' = grow (redrawn wr p.d) p.os :=
              fun d os => Calls.regrown_same (by rw [← ht]; exact kindOK_any x _)
            have c52 : ∀ d os, Calls Tryz.prog 127 #[.int .i64 x] (grow (redrawn wr d) os) fun e w'' => e = .returned (.func (.func (cfn x)) #[] #[]) ∧ ∃ p : Regrown, w'' = grow (redrawn wr p.d) p.os :=
              fun d os => Calls.regrown_of (converterOf_any x _ hkk.1 hkk.2)
            have hent := enters_cfn x hkk.1 hkk.2
            have c60 : ∀ d os, Calls Tryz.prog (cfn x) #[.int .i64 y] (grow (redrawn wr d) os) fun e w'' => e = .returned (.int .i64 (conv x y)) ∧ ∃ p : Regrown, w'' = grow (redrawn wr p.d) p.os :=
              fun d os => Calls.regrown_same (to_any x y _ hkk.1 hkk.2)
            by_cases hcv : conv x y = y
            · have hcb : (conv x y != y) = false := by simpa using hcv
              have HCV : Hid (conv x y = y) := hcv
              clear hcv
              go_wp2
              refine wp_region_quiet_below (by kernel_rfl) (by kernel_rfl) ?_
              repeat (any_goals (first | go_big_quiet_step (first | exact c51 _ _ | exact c52 _ _ | exact c60 _ _) | quiet_step (first | exact c51 _ _ | exact c52 _ _ | exact c60 _ _)))
              refine wpQuiet_nil ?_
              intro _ hw'
              obtain ⟨⟨dq, osq⟩, hw''⟩ := hw'
              subst hw''
              go_wp2
              go_roundw
              case rel => exact ⟨k + 1, by omega, by go_num, bank_step HP.out EX.out EY.out (by simp [kOk]; omega) HCV.out, qb dq osq, HB.out.trans ((below_regrown wr dq osq).mono (by omega)), Nat.lt_of_lt_of_le hsz (below_regrown wr dq osq).size⟩
              case measure => simp [intOf]; omega
            · have hcb : (conv x y != y) = true := by simpa using hcv
              have HCV : Hid (¬ conv x y = y) := hcv
              clear hcv
              go_wp2
              refine wp_region_quiet_below (by kernel_rfl) (by kernel_rfl) ?_
              repeat (any_goals (first | go_big_quiet_step (first | exact c51 _ _ | exact c52 _ _ | exact c60 _ _) | quiet_step (first | exact c51 _ _ | exact c52 _ _ | exact c60 _ _)))
              refine wpQuiet_nil ?_
              intro _ hw'
              obtain ⟨⟨dq, osq⟩, hw''⟩ := hw'
              subst hw''
              go_wp2
              go_ret
              exact ⟨ret_bool (bank_no HL.out.1 hlt (by rw [← EX.out, ← EY.out]; exact fun h => HCV.out h.2)).symm, HB.out.trans ((below_regrown wr dq osq).mono (by omega))⟩
          · have ht : kOk x = false := by simp [kOk]; omega
            have c51 : ∀ d os, Calls Tryz.prog 126 #[.int .i64 x] (grow (redrawn wr d) os) fun e w'' => e = .returned (.bool false) ∧ ∃ p : Regrown, w'' = grow (redrawn wr p.d) p.os :=
              fun d os => Calls.regrown_same (by rw [← ht]; exact kindOK_any x _)
            go_wp2
            refine wp_region_quiet_below (by kernel_rfl) (by kernel_rfl) ?_
            repeat (any_goals (first | go_big_quiet_step (first | exact c51 _ _) | quiet_step (first | exact c51 _ _)))
            refine wpQuiet_nil ?_
            intro _ hw'
            obtain ⟨⟨dq, osq⟩, hw''⟩ := hw'
            subst hw''
            go_wp2
            go_ret
            exact ⟨ret_bool (bank_no HL.out.1 hlt (by rw [← EX.out, ← EY.out]; intro h; have h2 := h.1; simp [kOk] at h2; omega)).symm, HB.out.trans ((below_regrown wr dq osq).mono (by omega))⟩
        · have e : k = n := by omega
          subst e
          go_wp2
          go_ret
          exact ⟨ret_bool (bank_yes HL.out.1 HL.out.2 h32 HP.out).symm, hb⟩
    · have HX : Hid (bankB ks vs = false) := by unfold bankB; simp; intro _ h; rw [hy.1] at h; omega
      have hgt : (32 : Int) < (n : Int) := by omega
      clear hx hy
      go_enter Tryz.func100, Tryz.ntmps100
      go_wp2
      go_ret
      exact ⟨ret_bool HX.out.symm, (Below.refl _ _).alloc (Nat.le_refl _) _⟩
  · have HX : Hid (bankB ks vs = false) := by unfold bankB; simp; intro h; rw [hx.1, hy.1] at h; omega
    have h2 : ((n : Int) != (m : Int)) = true := by simp; omega
    clear hx hy
    go_enter Tryz.func100, Tryz.ntmps100
    go_wp2
    go_ret
    exact ⟨ret_bool HX.out.symm, (Below.refl _ _).alloc (Nat.le_refl _) _⟩

def szB (left : Int) (n m : Nat) : Int := if left < n then -1 else if left - n < m then -1 else left - n - m

set_option maxHeartbeats 400000 in
theorem szBank_any (ao bo : Option Addr) (n m c d : Nat) (left : Int) (w : World) (hn : n ≤ 9223372036854775807) (hm : m ≤ 9223372036854775807) (h0 : 0 ≤ left) (h1 : left ≤ 1048576) :
    Calls Tryz.prog 89 #[.agg #[.slice ao n c, .slice bo m d], .int .i64 left] w fun e w' => e = .returned (.int .i64 (szB left n m)) ∧ Below w.heap.size w w' := by
  by_cases a1 : left < n
  · have H : Hid (szB left n m = -1) := hid (by simp [szB, a1])
    go_enter Tryz.func89, Tryz.ntmps89
    go_wp2_with (go_at_call 26; refine (szIntS_any _ _ _ _ _ (by omega) (by omega) (by omega)).mono ?_; rintro e w' ⟨rfl, rfl⟩)
    go_ret
    exact ⟨ret_int H.out.symm, below1 _ _⟩
  · by_cases a2 : left - n < m
    · have H : Hid (szB left n m = -1) := hid (by simp [szB, a1, a2])
      go_enter Tryz.func89, Tryz.ntmps89
      go_wp2_with (go_at_call 26; refine (szIntS_any _ _ _ _ _ (by omega) (by omega) (by omega)).mono ?_; rintro e w' ⟨rfl, rfl⟩)
      go_ret
      exact ⟨ret_int H.out.symm, below1 _ _⟩
    · have H : Hid (szB left n m = left - n - m) := hid (by simp [szB, a1, a2])
      go_enter Tryz.func89, Tryz.ntmps89
      go_wp2_with (go_at_call 26; refine (szIntS_any _ _ _ _ _ (by omega) (by omega) (by omega)).mono ?_; rintro e w' ⟨rfl, rfl⟩)
      go_ret
      exact ⟨ret_int H.out.symm, below1 _ _⟩

set_option maxHeartbeats 400000 in
theorem eqBank_any (ao bo ao' bo' : Option Addr) (n m c d n' m' c' d' : Nat) (xs ys xs' ys' : List Int) (w : World) (hn : n ≤ 1048576) (hm : m ≤ 1048576) (hn' : n' ≤ 1048576) (hm' : m' ≤ 1048576)
    (hx : SliceOf w ao n xs) (hy : SliceOf w bo m ys) (hx' : SliceOf w ao' n' xs') (hy' : SliceOf w bo' m' ys') :
    Calls Tryz.prog 112 #[.agg #[.slice ao n c, .slice bo m d], .agg #[.slice ao' n' c', .slice bo' m' d']] w fun e w' => e = .returned (.bool (decide (xs = xs' ∧ ys = ys'))) ∧ Below w.heap.size w w' := by
  have HX : Hid (∀ w', Below w.heap.size w w' → SliceOf w' ao n xs ∧ SliceOf w' bo m ys ∧ SliceOf w' ao' n' xs' ∧ SliceOf w' bo' m' ys') := fun w' h => ⟨hx.below h, hy.below h, hx'.below h, hy'.below h⟩
  clear hx hy hx' hy'
  by_cases e1 : xs = xs'
  · have d1 : decide (xs = xs') = true := by simpa using e1
    by_cases e2 : ys = ys'
    · have d2 : decide (ys = ys') = true := by simpa using e2
      have H : Hid (decide (xs = xs' ∧ ys = ys') = true) := hid (by rw [decide_eq_true_iff]; exact ⟨e1, e2⟩)
      clear e1 e2
      go_enter Tryz.func112, Tryz.ntmps112
      go_wp2_with (first | (go_at_call_of 43 (Value.slice ao n c); refine (eqIntS_any ao ao' n n' c c' xs xs' _ hn (by omega) (HX.out _ (below2 _ _ _)).1 (HX.out _ (below2 _ _ _)).2.2.1).mono ?_; rw [d1]; rintro e w' ⟨rfl, q, rfl⟩) | (go_at_call_of 43 (Value.slice bo m d); refine (eqIntS_any bo bo' m m' d d' ys ys' _ hm (by omega) (HX.out _ (belowDraws (below2 _ _ _) _)).2.1 (HX.out _ (belowDraws (below2 _ _ _) _)).2.2.2).mono ?_; rw [d2]; rintro e w' ⟨rfl, q2, rfl⟩))
      go_ret
      exact ⟨ret_bool H.out.symm, by first | exact belowDraws (belowDraws (below2 _ _ _) _) _ | exact belowDraws (below2 _ _ _) _⟩
    · have d2 : decide (ys = ys') = false := by simpa using e2
      have H : Hid (decide (xs = xs' ∧ ys = ys') = false) := hid (by rw [decide_eq_false_iff_not]; exact fun h => e2 h.2)
      clear e1 e2
      go_enter Tryz.func112, Tryz.ntmps112
      go_wp2_with (first | (go_at_call_of 43 (Value.slice ao n c); refine (eqIntS_any ao ao' n n' c c' xs xs' _ hn (by omega) (HX.out _ (below2 _ _ _)).1 (HX.out _ (below2 _ _ _)).2.2.1).mono ?_; rw [d1]; rintro e w' ⟨rfl, q, rfl⟩) | (go_at_call_of 43 (Value.slice bo m d); refine (eqIntS_any bo bo' m m' d d' ys ys' _ hm (by omega) (HX.out _ (belowDraws (below2 _ _ _) _)).2.1 (HX.out _ (belowDraws (below2 _ _ _) _)).2.2.2).mono ?_; rw [d2]; rintro e w' ⟨rfl, q2, rfl⟩))
      go_ret
      exact ⟨ret_bool H.out.symm, by first | exact belowDraws (belowDraws (below2 _ _ _) _) _ | exact belowDraws (below2 _ _ _) _⟩
  · have d1 : decide (xs = xs') = false := by simpa using e1
    have H : Hid (decide (xs = xs' ∧ ys = ys') = false) := hid (by rw [decide_eq_false_iff_not]; exact fun h => e1 h.1)
    clear e1
    go_enter Tryz.func112, Tryz.ntmps112
    go_wp2_with (first | (go_at_call_of 43 (Value.slice ao n c); refine (eqIntS_any ao ao' n n' c c' xs xs' _ hn (by omega) (HX.out _ (below2 _ _ _)).1 (HX.out _ (below2 _ _ _)).2.2.1).mono ?_; rw [d1]; rintro e w' ⟨rfl, q, rfl⟩))
    go_ret
    exact ⟨ret_bool H.out.symm, by first | exact belowDraws (belowDraws (below2 _ _ _) _) _ | exact belowDraws (below2 _ _ _) _⟩

theorem SliceOf.cut {w : World} {b n : Nat} {zs : List Int} (hz : zs.length = n) (h : w.rowIs b 3 n (fun i => .int .i64 (zs.getD i 0))) : SliceOf w (some ⟨b, 0, none⟩) n zs := SliceOf.row hz h

end Go.Proofs.YthaklmdhkkfigaaGreat
