import Derived.Test.YthaklmdhkkfigaaGreatT7
namespace Go.Proofs.YthaklmdhkkfigaaGreat
open Go.RowKit Go.Sort
set_option linter.unusedVariables false
attribute [local go_sem ↓] Go.wp_at_zero Go.wp_at_succ

set_option maxHeartbeats 400000 in
theorem between_any (x lo hi : Int) (w : World) : Calls Tryz.prog 97 #[.int .i64 x, .int .i64 lo, .int .i64 hi] w fun e w' => e = .returned (.bool (betB x lo hi)) ∧ w' = w := by
  by_cases h1 : lo ≤ x <;> by_cases h7 : x ≤ hi
  all_goals
    go_enter Tryz.func97, Tryz.ntmps97
    go_wp2
    go_ret
    exact ⟨ret_bool (by simp [betB]; omega), rfl⟩
theorem between_of (x lo hi : Int) (b : Bool) (h : b = betB x lo hi) (w : World) : Calls Tryz.prog 97 #[.int .i64 x, .int .i64 lo, .int .i64 hi] w fun e w' => e = .returned (.bool b) ∧ w' = w := by
  rw [h]; exact between_any x lo hi w

/-- The first of n that P holds at, or -1. -/
def hitB (P : Nat → Bool) (n : Nat) : Int := match firstB P n with | some j => (j : Int) | none => -1
theorem hit_some {P : Nat → Bool} {n k : Nat} (hk : k < n) (h : P k = true) (hb : ∀ j, j < k → P j = false) : hitB P n = (k : Int) := by unfold hitB; rw [firstB_some hk h hb]
theorem hit_none {P : Nat → Bool} {n : Nat} (hb : ∀ j, j < n → P j = false) : hitB P n = -1 := by unfold hitB; rw [firstB_none hb]
theorem hit_is (P : Nat → Bool) (n : Nat) : (firstB P n).isSome = decide (0 ≤ hitB P n) := by
  unfold hitB
  cases firstB P n with
  | some j => simp
  | none => simp

set_option maxHeartbeats 800000 in
theorem index_any (b off n c : Nat) (v : Int) (zs : List Int) (w : World) (hn : n ≤ 9223372036854775807) (hc : ∀ j, j < n → w.cell? ⟨b, off + j, none⟩ = some (.int .i64 (zs.getD j 0))) :
    Calls Tryz.prog 146 #[.slice (some ⟨b, off, none⟩) n c, .int .i64 v] w fun e w' => e = .returned (.int .i64 (hitB (fun j => decide (zs.getD j 0 = v)) n)) ∧ w' = w := by
  have HC := hid hc
  clear hc
  go_enter Tryz.func146, Tryz.ntmps146
  go_wp2
  go_loopw [8] (fun i wr => ∃ k : Nat, k ≤ n ∧ i = .int .i64 k ∧ Hid (∀ j, j < k → decide (zs.getD j 0 = v) = false) ∧ wr = w) (fun i _ => n - (intOf i).toNat)
  case atStart => exact ⟨0, Nat.zero_le _, rfl, hid (fun j h => absurd h (by omega)), rfl⟩
  case round =>
    obtain ⟨k, hk, rfl, HP, rfl⟩ := hrel
    by_cases hlt : k < n
    · have hck := HC.out k hlt
      obtain ⟨x, ex⟩ : ∃ x, x = zs.getD k 0 := ⟨_, rfl⟩
      rw [← ex] at hck
      have kn : (k : Int) < (n : Int) := by omega
      by_cases hx : x = v
      · have E : Hid (hitB (fun j => decide (zs.getD j 0 = v)) n = (k : Int)) := hid (hit_some hlt (by show decide (zs.getD k 0 = v) = true; rw [← ex]; simpa using hx) HP.out)
        have hxb : (v == x) = true := by simpa using hx.symm
        clear ex
        go_wp2
        go_ret
        exact ⟨ret_int E.out.symm, rfl⟩
      · have hxb : (v == x) = false := by simpa using fun h => hx h.symm
        have EX : Hid (decide (zs.getD k 0 = v) = false) := hid (by rw [← ex]; simpa using hx)
        have hxv : ¬ v = x := fun h => hx h.symm
        clear ex
        go_wp2
        go_roundw
        case rel =>
          refine ⟨k + 1, by omega, by go_num, hid (fun j hj => ?_), by first | rfl | trivial⟩
          by_cases e : j = k
          · subst e; exact EX.out
          · exact HP.out j (by omega)
        case measure => simp [intOf]; omega
    · have e : k = n := by omega
      subst e
      have E : Hid (hitB (fun j => decide (zs.getD j 0 = v)) k = -1) := hid (hit_none HP.out)
      go_wp2
      go_ret
      exact ⟨ret_int E.out.symm, rfl⟩

set_option maxHeartbeats 400000 in
theorem contains_any (b off n c : Nat) (v : Int) (zs : List Int) (w : World) (hn : n ≤ 9223372036854775807) (hc : ∀ j, j < n → w.cell? ⟨b, off + j, none⟩ = some (.int .i64 (zs.getD j 0))) :
    Calls Tryz.prog 124 #[.slice (some ⟨b, off, none⟩) n c, .int .i64 v] w fun e w' => e = .returned (.bool (firstB (fun j => decide (zs.getD j 0 = v)) n).isSome) ∧ w' = w := by
  have C := hid (index_any b off n c v zs w hn hc)
  rw [hit_is]
  obtain ⟨r, hr⟩ : ∃ r, r = hitB (fun j => decide (zs.getD j 0 = v)) n := ⟨_, rfl⟩
  rw [← hr] at C ⊢
  clear hc hr
  by_cases h0 : 0 ≤ r
  all_goals
    go_enter Tryz.func124, Tryz.ntmps124
    go_wp2_with (go_at_call 146; refine C.out.mono ?_; rintro e w1 ⟨rfl, hw⟩; obtain rfl := hw.symm)
    go_ret
    exact ⟨ret_bool (by simp; try omega), rfl⟩

theorem ents68 : ∀ (args : Array Value) (w : World), (callFunc 145 args).run Tryz.prog w = .ok (.enter 145 args) w := enter_of (f := 145) Tryz.func145 (by kernel_rfl) rfl

set_option maxRecDepth 100000 in
set_option maxHeartbeats 800000 in
theorem prioIs_any (p q d v : Int) (h : ObS) (P : Nat) (w : World) (hP : w.cell? ⟨P, 0, none⟩ = some (.int .i64 v)) (hl : P < w.heap.size) :
    Calls Tryz.prog 145 #[obV p q d h, .pointer (some ⟨P, 0, none⟩)] w fun e w' => e = .returned (.bool (decide (p = v))) ∧ Below w.heap.size w w' := by
  obtain ⟨ko, kn, kc, vo, vn, vc, uo, un, uc, so, sn, sc, tt, tn, tc⟩ := h
  unfold obV
  dsimp only
  by_cases hp : p = v
  · have hpb : (p == v) = true := by simpa using hp
    go_enter Tryz.func145, Tryz.ntmps145
    go_wp2
    go_ret
    exact ⟨ret_bool (by simpa using hp), below1 _ _⟩
  · have hpb : (p == v) = false := by simpa using hp
    go_enter Tryz.func145, Tryz.ntmps145
    go_wp2
    go_ret
    exact ⟨ret_bool (by simpa using hp), below1 _ _⟩

set_option maxRecDepth 100000 in
set_option maxHeartbeats 1600000 in
theorem indexFunc_any (b off n c P : Nat) (v : Int) (os : List ObD) (w : World) (hn : n ≤ 9223372036854775807) (hbl : b < w.heap.size) (hc : ∀ j, j < n → ObAt w b (off + j * 8) (os.getD j ob0)) (hP : w.cell? ⟨P, 0, none⟩ = some (.int .i64 v)) (hl : P < w.heap.size) :
    Calls Tryz.prog 185 #[.slice (some ⟨b, off, none⟩) n c, .func (.func 145) #[] #[.pointer (some ⟨P, 0, none⟩)]] w fun e w' => e = .returned (.int .i64 (hitB (fun j => decide ((os.getD j ob0).prio = v)) n)) ∧ Below w.heap.size w w' := by
  have HC := hid hc
  have hent := ents68
  clear hc
  go_enter Tryz.func185, Tryz.ntmps185
  go_wp2
  go_loopw [8] (fun i wr => ∃ k : Nat, k ≤ n ∧ i = .int .i64 k ∧ Hid (∀ j, j < k → decide ((os.getD j ob0).prio = v) = false) ∧ Below w.heap.size w wr) (fun i _ => n - (intOf i).toNat)
  case atStart => exact ⟨0, Nat.zero_le _, rfl, hid (fun j h => absurd h (by omega)), Below.refl _ _⟩
  case round =>
    obtain ⟨k, hk, rfl, HP, hb⟩ := hrel
    have HB := hid hb
    by_cases hlt : k < n
    · obtain ⟨g, hcs, hmx, hof⟩ := HC.out k hlt
      obtain ⟨k0, k1, k2, k3, k4, k5, k6, k7⟩ := hcs.below hbl hb
      obtain ⟨pj, hpj⟩ : ∃ pj, pj = (os.getD k ob0).prio := ⟨_, rfl⟩
      obtain ⟨qj, hqj⟩ : ∃ qj, qj = (os.getD k ob0).qcap := ⟨_, rfl⟩
      obtain ⟨dj, hdj⟩ : ∃ dj, dj = (os.getD k ob0).dcap := ⟨_, rfl⟩
      rw [← hpj] at k0
      rw [← hqj] at k1
      rw [← hdj] at k2
      have hz := hb.size
      have C := hid (prioIs_any pj qj dj v g P wr ((hb.cell (p := ⟨P, 0, none⟩) hl).trans hP) (by omega))
      obtain ⟨ko2, kn2, kc2, vo2, vn2, vc2, uo2, un2, uc2, so2, sn2, sc2, tt2, tn2, tc2⟩ := g
      unfold obV at C
      dsimp only at k3 k4 k5 k6 k7 C
      have kn' : (k : Int) < (n : Int) := by omega
      clear hcs hmx hof hb hqj hdj hP
      by_cases hp : pj = v
      · have hd : decide (pj = v) = true := by simpa using hp
        rw [hd] at C
        have E : Hid (hitB (fun j => decide ((os.getD j ob0).prio = v)) n = (k : Int)) := hid (hit_some hlt (by show decide ((os.getD k ob0).prio = v) = true; rw [← hpj]; exact hd) HP.out)
        clear hp hd hpj
        go_wp2_with (go_at_call 145; refine C.out.mono ?_; rintro e w1 ⟨rfl, hb1⟩; have B1 := hid (HB.out.trans (hb1.mono HB.out.size)); clear hb1)
        go_ret
        exact ⟨ret_int E.out.symm, B1.out⟩
      · have hd : decide (pj = v) = false := by simpa using hp
        rw [hd] at C
        have E : Hid (decide ((os.getD k ob0).prio = v) = false) := hid (by rw [← hpj]; exact hd)
        clear hp hd hpj
        go_wp2_with (go_at_call 145; refine C.out.mono ?_; rintro e w1 ⟨rfl, hb1⟩; have B1 := hid (HB.out.trans (hb1.mono HB.out.size)); clear hb1)
        go_roundw
        case rel =>
          refine ⟨k + 1, by omega, by go_num, hid (fun j hj => ?_), B1.out⟩
          by_cases e : j = k
          · subst e; exact E.out
          · exact HP.out j (by omega)
        case measure => simp [intOf]; omega
    · have e : k = n := by omega
      subst e
      have E : Hid (hitB (fun j => decide ((os.getD j ob0).prio = v)) k = -1) := hid (hit_none HP.out)
      clear hb
      go_wp2
      go_ret
      exact ⟨ret_int E.out.symm, HB.out⟩

set_option maxHeartbeats 400000 in
theorem containsFunc_any (b off n c P : Nat) (v : Int) (os : List ObD) (w : World) (hn : n ≤ 9223372036854775807) (hbl : b < w.heap.size) (hc : ∀ j, j < n → ObAt w b (off + j * 8) (os.getD j ob0)) (hP : w.cell? ⟨P, 0, none⟩ = some (.int .i64 v)) (hl : P < w.heap.size) :
    Calls Tryz.prog 144 #[.slice (some ⟨b, off, none⟩) n c, .func (.func 145) #[] #[.pointer (some ⟨P, 0, none⟩)]] w fun e w' => e = .returned (.bool (firstB (fun j => decide ((os.getD j ob0).prio = v)) n).isSome) ∧ Below w.heap.size w w' := by
  have C := hid (indexFunc_any b off n c P v os w hn hbl hc hP hl)
  rw [hit_is]
  obtain ⟨r, hr⟩ : ∃ r, r = hitB (fun j => decide ((os.getD j ob0).prio = v)) n := ⟨_, rfl⟩
  rw [← hr] at C ⊢
  clear hc hr hP
  by_cases h0 : 0 ≤ r
  all_goals
    go_enter Tryz.func144, Tryz.ntmps144
    go_wp2_with (go_at_call 185; refine C.out.mono ?_; rintro e w1 ⟨rfl, hb1⟩; have B1 := hid hb1; clear hb1)
    go_ret
    exact ⟨ret_bool (by simp; try omega), B1.out⟩

set_option maxHeartbeats 400000 in
theorem hasPrio_any (b off n c : Nat) (v : Int) (os : List ObD) (w : World) (hn : n ≤ 9223372036854775807) (hbl : b < w.heap.size) (hc : ∀ j, j < n → ObAt w b (off + j * 8) (os.getD j ob0)) :
    Calls Tryz.prog 123 #[.slice (some ⟨b, off, none⟩) n c, .int .i64 v] w fun e w' => e = .returned (.bool (firstB (fun j => decide ((os.getD j ob0).prio = v)) n).isSome) ∧ Below w.heap.size w w' := by
  have hmf : ∀ (fn : Fn) (first cap : Array Value) (w : World), (Instr.makeFunc fn first cap).run Tryz.prog w = .ok (.func fn first cap) w := fun _ _ _ _ => rfl
  have C := hid (containsFunc_any b off n c w.heap.size v os (w.alloc (.cells #[.int .i64 v] 3)) hn (by simp; omega) (fun j hj => (hc j hj).below hbl (below1 _ _)) (by simp) (by simp))
  clear hc
  go_enter Tryz.func123, Tryz.ntmps123
  go_wp2_with (go_at_call 144; refine C.out.mono ?_; rintro e w1 ⟨rfl, hb1⟩; have B1 := hid ((below1 _ _).trans (hb1.mono (by simp))); clear hb1)
  go_ret
  exact ⟨rfl, B1.out⟩

set_option maxRecDepth 100000 in
set_option maxHeartbeats 1600000 in
theorem objectOK_any (h : ObS) (x : ObD) (w : World) (hm : ObMax h) (ho : ObOf w h x) :
    Calls Tryz.prog 122 #[obV x.prio x.qcap x.dcap h] w fun e w' => e = .returned (.bool (objOK x)) ∧ Below w.heap.size w w' := by
  obtain ⟨ko, kn, kc, vo, vn, vc, uo, un, uc, so, sn, sc, tt, tn, tc⟩ := h
  obtain ⟨mk, mv, mu, ms, mt, mc⟩ := hm
  have HS : Hid (∀ w', Below w.heap.size w w' → SliceOf w' ko kn x.kinds ∧ SliceOf w' vo vn x.vals) := fun w' h => ⟨ho.hk.below h, ho.hv.below h⟩
  obtain ⟨pv, hpv⟩ : ∃ pv, pv = x.prio := ⟨_, rfl⟩
  obtain ⟨qv, hqv⟩ : ∃ qv, qv = x.qcap := ⟨_, rfl⟩
  obtain ⟨dv, hdv⟩ : ∃ dv, dv = x.dcap := ⟨_, rfl⟩
  obtain ⟨b1, h1⟩ : ∃ b, b = betB pv 1 1000 := ⟨_, rfl⟩
  obtain ⟨b2, h2⟩ : ∃ b, b = betB qv 1 1000 := ⟨_, rfl⟩
  obtain ⟨b3, h3⟩ : ∃ b, b = betB dv 0 1000 := ⟨_, rfl⟩
  obtain ⟨b4, h4⟩ : ∃ b, b = bankB x.kinds x.vals := ⟨_, rfl⟩
  have C1 := hid (between_of pv 1 1000 b1 h1)
  have C2 := hid (between_of qv 1 1000 b2 h2)
  have C3 := hid (between_of dv 0 1000 b3 h3)
  have C4 := hid (fun w a b => implBankOK_any ko vo kn vn kc vc x.kinds x.vals w mk mv a b)
  rw [← h4] at C4
  have EOK : Hid (objOK x = (b1 && (b2 && (b3 && b4)))) := hid (by unfold objOK; rw [← hpv, ← hqv, ← hdv, h1, h2, h3, h4])
  rw [EOK.out]
  unfold obV
  dsimp only
  rw [← hpv, ← hqv, ← hdv]
  have B0 := hid (below1 w (.cells #[.int .i64 pv, .int .i64 qv, .int .i64 dv, .slice ko kn kc, .slice vo vn vc, .slice uo un uc, .slice so sn sc, .slice tt tn tc] 134))
  clear ho hpv hqv hdv h1 h2 h3 h4 mk mv mu ms mt mc
  cases b1 <;> (try cases b2) <;> (try cases b3) <;> (try cases b4)
  all_goals
    go_enter Tryz.func122, Tryz.ntmps122
    go_wp2_with (first
      | (go_at_call_of 97 (Value.int .i64 pv); refine (C1.out _).mono ?_; rintro e wa ⟨rfl, hw⟩; obtain rfl := hw.symm)
      | (go_at_call_of 97 (Value.int .i64 qv); refine (C2.out _).mono ?_; rintro e wa ⟨rfl, hw⟩; obtain rfl := hw.symm)
      | (go_at_call_of 97 (Value.int .i64 dv); refine (C3.out _).mono ?_; rintro e wa ⟨rfl, hw⟩; obtain rfl := hw.symm)
      | (go_at_call 100; refine (C4.out _ (HS.out _ B0.out).1 (HS.out _ B0.out).2).mono ?_; rintro e w1 ⟨rfl, hb1⟩; have B0 := hid (B0.out.trans (hb1.mono B0.out.size)); clear hb1))
    go_ret
    exact ⟨rfl, B0.out⟩
end Go.Proofs.YthaklmdhkkfigaaGreat
