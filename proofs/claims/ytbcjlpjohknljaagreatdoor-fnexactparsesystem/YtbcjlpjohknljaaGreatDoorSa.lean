import Derived.Test.YtbcjlpjohknljaaGreatDoorKa
import Derived.Deep.RegionHeld3
import Derived.Deep.AppendLies
import Derived.Test.YtbcjlpjohknljaaGreatDoorOa
namespace Go.Proofs.YtbcjlpjohknljaaGreatDoor

def par (ss : List StD) (k : Nat) : Int := (ss.getD k st0).parent
def ini (ss : List StD) (k : Nat) : Int := (ss.getD k st0).initial
def upF (p : Nat → Int) : Nat → Nat → List Nat
  | 0, _ => []
  | f + 1, k => if k = 0 then [0] else k :: upF p f (p k).toNat
/-- The state and its ancestors, outwards. -/
def up (ss : List StD) (k : Nat) : List Nat := upF (par ss) (k + 1) k

def downF (i : Nat → Int) : Nat → Nat → List Nat
  | 0, _ => []
  | f + 1, k => if i k < 0 then [] else (i k).toNat :: downF i f (i k).toNat
/-- The way inwards to a leaf, without the state itself. -/
def down (ss : List StD) (k : Nat) : List Nat := downF (ini ss) (ss.length - k) k
end Go.Proofs.YtbcjlpjohknljaaGreatDoor
namespace Go.Proofs.YtbcjlpjohknljaaGreatDoor
open Go.RowKit Go.Sort
attribute [local go_sem ↓] Go.wp_at_zero Go.wp_at_succ

end Go.Proofs.YtbcjlpjohknljaaGreatDoor
namespace Go.Proofs.YtbcjlpjohknljaaGreatDoor
open Go.RowKit Go.Sort
attribute [local go_sem ↓] Go.wp_at_zero Go.wp_at_succ

end Go.Proofs.YtbcjlpjohknljaaGreatDoor
namespace Go.Proofs.YtbcjlpjohknljaaGreatDoor
open Go.RowKit Go.Sort
attribute [local go_sem ↓] Go.wp_at_zero Go.wp_at_succ

end Go.Proofs.YtbcjlpjohknljaaGreatDoor
namespace Go.Proofs.YtbcjlpjohknljaaGreatDoor
open Go.RowKit Go.Sort
attribute [local go_sem ↓] Go.wp_at_zero Go.wp_at_succ

end Go.Proofs.YtbcjlpjohknljaaGreatDoor
namespace Go.Proofs.YtbcjlpjohknljaaGreatDoor
open Go.RowKit Go.Sort
attribute [local go_sem ↓] Go.wp_at_zero Go.wp_at_succ

end Go.Proofs.YtbcjlpjohknljaaGreatDoor
namespace Go.Proofs.YtbcjlpjohknljaaGreatDoor
open Go.RowKit Go.Sort
attribute [local go_sem ↓] Go.wp_at_zero Go.wp_at_succ

end Go.Proofs.YtbcjlpjohknljaaGreatDoor
namespace Go.Proofs.YtbcjlpjohknljaaGreatDoor
open Go.RowKit Go.Sort
attribute [local go_sem ↓] Go.wp_at_zero Go.wp_at_succ

set_option maxHeartbeats 400000 in
theorem eqTimer_any (x y x' y' : Int) (w : World) : Calls Tryz.prog 31 #[.agg #[.int .i64 x, .int .i64 y], .agg #[.int .i64 x', .int .i64 y']] w fun e w' => e = .returned (.bool (decide (x = x' ∧ y = y'))) ∧ Below w.heap.size w w' := by
  by_cases h1 : x = x'
  · by_cases h2 : y = y'
    · subst h1 h2
      go_enter Tryz.func31, Tryz.ntmps31
      go_wp2
      go_ret
      exact ⟨ret_bool (by simp), below2 _ _ _⟩
    · subst h1
      have hb : (y != y') = true := by simpa using h2
      have H : Hid (¬ y = y') := h2
      clear h2
      go_enter Tryz.func31, Tryz.ntmps31
      go_wp2
      go_ret
      exact ⟨ret_bool (by simp [H.out]), below2 _ _ _⟩
  · have hb : (x != x') = true := by simpa using h1
    have H : Hid (¬ x = x') := h1
    clear h1
    go_enter Tryz.func31, Tryz.ntmps31
    go_wp2
    go_ret
    exact ⟨ret_bool (by simp [H.out]), below2 _ _ _⟩

set_option maxHeartbeats 800000 in
theorem eqTimerS_any (ao bo : Option Addr) (n m c d : Nat) (xs ys : List (Int × Int)) (w : World) (hn : n ≤ 1048576) (hm : m ≤ 9223372036854775807) (hx : ItemsOf w ao n xs) (hy : ItemsOf w bo m ys) :
    Calls Tryz.prog 14 #[.slice ao n c, .slice bo m d] w fun e w' => e = .returned (.bool (decide (xs = ys))) ∧ Below w.heap.size w w' := by
  by_cases hnm : n = m
  · subst hnm
    have HL : Hid (xs.length = n ∧ ys.length = n) := ⟨hx.1, hy.1⟩
    go_enter Tryz.func14, Tryz.ntmps14
    go_wp2
    go_loopw [5] (fun i wr => ∃ k : Nat, k ≤ n ∧ i = .int .i64 k ∧ (∀ j, j < k → xs.getD j (0, 0) = ys.getD j (0, 0)) ∧ Below w.heap.size w wr) (fun i _ => n - (intOf i).toNat)
    case atStart => exact ⟨0, Nat.zero_le _, rfl, fun j h => absurd h (by omega), Below.refl _ _⟩
    case round =>
      obtain ⟨k, hk, rfl, he, hb⟩ := hrel
      have HE : Hid (∀ j, j < k → xs.getD j (0, 0) = ys.getD j (0, 0)) := he
      have HB := hid hb
      clear he
      by_cases hlt : k < n
      · obtain ⟨b, off, rfl, hbl, hc⟩ := hx.2 (by omega)
        obtain ⟨b2, off2, rfl, hbl2, hc2⟩ := hy.2 (by omega)
        have hi : (k : Int) < (n : Int) := by omega
        obtain ⟨x, ex⟩ : ∃ x, x = xs.getD k (0, 0) := ⟨_, rfl⟩
        obtain ⟨y, ey⟩ : ∃ y, y = ys.getD k (0, 0) := ⟨_, rfl⟩
        obtain ⟨x1, x2⟩ := x
        obtain ⟨y1, y2⟩ := y
        have k1 : wr.cell? ⟨b, off + k * 2, none⟩ = some (.int .i64 x1) := (hb.cell (p := ⟨b, off + k * 2, none⟩) hbl).trans (by rw [(hc k hlt).1, ← ex])
        have k2 : wr.cell? ⟨b, off + k * 2 + 1, none⟩ = some (.int .i64 x2) := (hb.cell (p := ⟨b, off + k * 2 + 1, none⟩) hbl).trans (by rw [(hc k hlt).2, ← ex])
        have l1 : wr.cell? ⟨b2, off2 + k * 2, none⟩ = some (.int .i64 y1) := (hb.cell (p := ⟨b2, off2 + k * 2, none⟩) hbl2).trans (by rw [(hc2 k hlt).1, ← ey])
        have l2 : wr.cell? ⟨b2, off2 + k * 2 + 1, none⟩ = some (.int .i64 y2) := (hb.cell (p := ⟨b2, off2 + k * 2 + 1, none⟩) hbl2).trans (by rw [(hc2 k hlt).2, ← ey])
        have q1 := cell_regrown k1
        have q2 := cell_regrown k2
        have r1 := cell_regrown l1
        have r2 := cell_regrown l2
        have EX : Hid ((x1, x2) = xs.getD k (0, 0)) := ex
        have EY : Hid ((y1, y2) = ys.getD k (0, 0)) := ey
        have hsz : Hid (w.heap.size ≤ wr.heap.size) := hb.size
        clear ex ey hc hc2 hx hy hb k1 k2 l1 l2
        by_cases hxy : x1 = y1 ∧ x2 = y2
        · have hd : decide (x1 = y1 ∧ x2 = y2) = true := by simpa using hxy
          have HXY := hid hxy
          have c40 : ∀ d os, Calls Tryz.prog 31 #[.agg #[.int .i64 x1, .int .i64 x2], .agg #[.int .i64 y1, .int .i64 y2]] (grow (redrawn wr d) os) fun e w'' => e = .returned (.bool true) ∧ ∃ p : Regrown, w'' = grow (redrawn wr p.d) p.os :=
            fun d os => Calls.regrown_of (by rw [← hd]; exact eqTimer_any x1 x2 y1 y2 _)
          clear hxy hd
          go_wp2
          refine wp_region_quiet_below (by kernel_rfl) (by kernel_rfl) ?_
          repeat (any_goals (first | go_big_quiet_step (first | exact c40 _ _) | quiet_step (first | exact c40 _ _)))
          refine wpQuiet_nil ?_
          intro _ hw'
          obtain ⟨⟨dq, osq⟩, hw''⟩ := hw'
          subst hw''
          go_wp2
          go_roundw
          case rel =>
            refine ⟨k + 1, by omega, by go_num, fun j hj => ?_, HB.out.trans ((below_regrown wr dq osq).mono hsz.out)⟩
            by_cases e : j = k
            · subst e; rw [← EX.out, ← EY.out, HXY.out.1, HXY.out.2]
            · exact HE.out j (by omega)
          case measure => simp [intOf]; omega
        · have hd : decide (x1 = y1 ∧ x2 = y2) = false := by simpa using hxy
          have HXY := hid hxy
          have c40 : ∀ d os, Calls Tryz.prog 31 #[.agg #[.int .i64 x1, .int .i64 x2], .agg #[.int .i64 y1, .int .i64 y2]] (grow (redrawn wr d) os) fun e w'' => e = .returned (.bool false) ∧ ∃ p : Regrown, w'' = grow (redrawn wr p.d) p.os :=
            fun d os => Calls.regrown_of (by rw [← hd]; exact eqTimer_any x1 x2 y1 y2 _)
          clear hxy hd
          go_wp2
          refine wp_region_quiet_below (by kernel_rfl) (by kernel_rfl) ?_
          repeat (any_goals (first | go_big_quiet_step (first | exact c40 _ _) | quiet_step (first | exact c40 _ _)))
          refine wpQuiet_nil ?_
          intro _ hw'
          obtain ⟨⟨dq, osq⟩, hw''⟩ := hw'
          subst hw''
          go_wp2
          go_ret
          refine ⟨ret_bool ?_, HB.out.trans ((below_regrown wr dq osq).mono hsz.out)⟩
          symm
          rw [decide_eq_false_iff_not]
          intro e
          have := EX.out.trans ((congrArg (fun l => l.getD k (0, 0)) e).trans EY.out.symm)
          exact HXY.out ⟨congrArg Prod.fst this, congrArg Prod.snd this⟩
      · have e : k = n := by omega
        subst e
        have HX : Hid (xs = ys) := getD_ext HL.out.1 HL.out.2 HE.out
        clear hx hy
        go_wp2
        go_ret
        exact ⟨ret_bool (by simp [HX.out]), HB.out⟩
  · have HX : Hid (¬ xs = ys) := hid fun e => hnm (by rw [← hx.1, ← hy.1, e])
    have h2 : ((n : Int) != (m : Int)) = true := by simp; omega
    clear hx hy
    go_enter Tryz.func14, Tryz.ntmps14
    go_wp2
    go_ret
    exact ⟨ret_bool (by simp [HX.out]), Below.refl _ _⟩

theorem eqTimerS_same (ao bo : Option Addr) (n c d : Nat) (xs : List (Int × Int)) (w : World) (hn : n ≤ 1048576) (hx : ItemsOf w ao n xs) (hy : ItemsOf w bo n xs) :
    Calls Tryz.prog 14 #[.slice ao n c, .slice bo n d] w fun e w' => e = .returned (.bool true) ∧ Below w.heap.size w w' :=
  (eqTimerS_any ao bo n n c d xs xs w hn (by omega) hx hy).mono fun e w' ⟨h1, h2⟩ => ⟨by rw [h1]; simp, h2⟩
end Go.Proofs.YtbcjlpjohknljaaGreatDoor
namespace Go.Proofs.YtbcjlpjohknljaaGreatDoor
open Go.RowKit Go.Sort

structure FitsOb (x : ObD) : Prop where
  fk : x.kinds.length ≤ 1048576
  fv : x.vals.length ≤ 1048576
  fu : x.subs.length ≤ 1048576
  fs : FitsSt x.sts
  ft : FitsTr x.trs
def FitsObs (os : List ObD) : Prop := os.length ≤ 1048576 ∧ ∀ i, i < os.length → FitsOb (os.getD i ob0)
end Go.Proofs.YtbcjlpjohknljaaGreatDoor
namespace Go.Proofs.YtbcjlpjohknljaaGreatDoor
open Go.RowKit Go.Sort
attribute [local go_sem ↓] Go.wp_at_zero Go.wp_at_succ

theorem eqBank_same (ao bo ao' bo' : Option Addr) (n m c d c' d' : Nat) (xs ys : List Int) (w : World) (hn : n ≤ 1048576) (hm : m ≤ 1048576) (hx : SliceOf w ao n xs) (hy : SliceOf w bo m ys) (hx' : SliceOf w ao' n xs) (hy' : SliceOf w bo' m ys) :
    Calls Tryz.prog 60 #[.agg #[.slice ao n c, .slice bo m d], .agg #[.slice ao' n c', .slice bo' m d']] w fun e w' => e = .returned (.bool true) ∧ Below w.heap.size w w' :=
  (eqBank_any ao bo ao' bo' n m c d n m c' d' xs ys xs ys w hn hm hn hm hx hy hx' hy').mono fun e w' ⟨h1, h2⟩ => ⟨by rw [h1]; simp, h2⟩
theorem eqIntS_same (ao bo : Option Addr) (n c d : Nat) (xs : List Int) (w : World) (hn : n ≤ 1048576) (hx : SliceOf w ao n xs) (hy : SliceOf w bo n xs) :
    Calls Tryz.prog 61 #[.slice ao n c, .slice bo n d] w fun e w' => e = .returned (.bool true) ∧ Below w.heap.size w w' :=
  (eqIntS_any ao bo n n c d xs xs w hn (by omega) hx hy).mono fun e w' ⟨h1, q, h2⟩ => ⟨by rw [h1]; simp, by rw [h2]; exact belowDraws (Below.refl _ _) q⟩

set_option maxRecDepth 100000 in
set_option maxHeartbeats 1600000 in
theorem eqObject_same (p q d : Int) (h h' : ObS) (x : ObD) (w : World) (hf : FitsOb x) (ho : ObOf w h x) (ho' : ObOf w h' x) :
    Calls Tryz.prog 30 #[obV p q d h, obV p q d h'] w fun e w' => e = .returned (.bool true) ∧ Below w.heap.size w w' := by
  obtain ⟨ko, kn, kc, vo, vn, vc, uo, un, uc, so, sn, sc, to, tn, tc⟩ := h
  obtain ⟨ko', kn', kc', vo', vn', vc', uo', un', uc', so', sn', sc', to', tn', tc'⟩ := h'
  obtain rfl : kn = kn' := ho.hk.1.symm.trans ho'.hk.1
  obtain rfl : vn = vn' := ho.hv.1.symm.trans ho'.hv.1
  obtain rfl : un = un' := ho.hu.1.symm.trans ho'.hu.1
  obtain rfl : sn = sn' := ho.hs.1.symm.trans ho'.hs.1
  obtain rfl : tn = tn' := ho.ht.1.symm.trans ho'.ht.1
  have fk : kn ≤ 1048576 := by have := hf.fk; rw [ho.hk.1] at this; exact this
  have fv : vn ≤ 1048576 := by have := hf.fv; rw [ho.hv.1] at this; exact this
  have fu : un ≤ 1048576 := by have := hf.fu; rw [ho.hu.1] at this; exact this
  have HS : Hid (∀ w', Below w.heap.size w w' → ObOf w' ⟨ko, kn, kc, vo, vn, vc, uo, un, uc, so, sn, sc, to, tn, tc⟩ x ∧ ObOf w' ⟨ko', kn, kc', vo', vn, vc', uo', un, uc', so', sn, sc', to', tn, tc'⟩ x) := fun w' h => ⟨ho.below h, ho'.below h⟩
  have CB := hid (fun w a b c d => eqBank_same ko vo ko' vo' kn vn kc vc kc' vc' x.kinds x.vals w fk fv a b c d)
  have CU := hid (fun w a b => eqIntS_same uo uo' un uc uc' x.subs w fu a b)
  have CC := hid (fun w a b c d => eqChart_same so to so' to' sn sc tn tc sc' tc' x.sts x.trs w hf.fs hf.ft a b c d)
  clear ho ho' hf fk fv fu
  unfold obV
  dsimp only
  go_enter Tryz.func30, Tryz.ntmps30
  go_wp2_with (first
    | (go_at_call 60; refine (CB.out _ (HS.out _ (below2 _ _ _)).1.hk (HS.out _ (below2 _ _ _)).1.hv (HS.out _ (below2 _ _ _)).2.hk (HS.out _ (below2 _ _ _)).2.hv).mono ?_; rintro e w1 ⟨rfl, hb1⟩; have B1 := hid ((below2 _ _ _).trans (hb1.mono (by simp; omega))); obtain ⟨q0, q1, q2, q3, q4, q5, q6, q7⟩ := eight_cells (block_below (block_below (heap_alloc_new w _) (below1 _ _)) hb1); have hp := block_below (heap_alloc_new (w.alloc _) _) hb1; simp only [World.size_alloc] at hp; obtain ⟨p0, p1, p2, p3, p4, p5, p6, p7⟩ := eight_cells hp; have P1 := hid hp; have Q1 := hid (block_below (block_below (heap_alloc_new w _) (below1 _ _)) hb1); clear hb1 hp)
    | (go_at_call 61; refine (CU.out _ (HS.out _ B1.out).1.hu (HS.out _ B1.out).2.hu).mono ?_; rintro e w2 ⟨rfl, hb2⟩; have B2 := hid (B1.out.trans (hb2.mono B1.out.size)); obtain ⟨q20, q21, q22, q23, q24, q25, q26, q27⟩ := eight_cells (block_below Q1.out hb2); obtain ⟨p20, p21, p22, p23, p24, p25, p26, p27⟩ := eight_cells (block_below P1.out hb2); clear hb2)
    | (go_at_call 62; refine (CC.out _ (HS.out _ B2.out).1.hs (HS.out _ B2.out).1.ht (HS.out _ B2.out).2.hs (HS.out _ B2.out).2.ht).mono ?_; rintro e w3 ⟨rfl, hb3⟩; have B3 := hid (B2.out.trans (hb3.mono B2.out.size)); clear hb3))
  go_ret
  exact ⟨rfl, B3.out⟩

set_option maxRecDepth 100000 in
set_option maxHeartbeats 1600000 in
theorem eqObjectS_same (ao bo : Option Addr) (n c d : Nat) (ss : List ObD) (w : World) (hf : FitsObs ss) (hx : ObsOf w ao n ss) (hy : ObsOf w bo n ss) :
    Calls Tryz.prog 13 #[.slice ao n c, .slice bo n d] w fun e w' => e = .returned (.bool true) ∧ Below w.heap.size w w' := by
  have hn : n ≤ 1048576 := by rw [← hx.1]; exact hf.1
  have HF : Hid (∀ i, i < n → FitsOb (ss.getD i ob0)) := by have := hf.2; rw [hx.1] at this; exact this
  clear hf
  go_enter Tryz.func13, Tryz.ntmps13
  go_wp2
  go_loopw [5] (fun i wr => ∃ k : Nat, k ≤ n ∧ i = .int .i64 k ∧ Below w.heap.size w wr) (fun i _ => n - (intOf i).toNat)
  case atStart => exact ⟨0, Nat.zero_le _, rfl, Below.refl _ _⟩
  case round =>
    obtain ⟨k, hk, rfl, hb⟩ := hrel
    have HB := hid hb
    by_cases hlt : k < n
    · obtain ⟨b, off, rfl, hbl, hc⟩ := hx.2 (by omega)
      obtain ⟨b2, off2, rfl, hbl2, hc2⟩ := hy.2 (by omega)
      have hi : (k : Int) < (n : Int) := by omega
      have hff := HF.out k hlt
      obtain ⟨h, hcs, hmx, hof⟩ := hc k hlt
      obtain ⟨h', hcs', hmx', hof'⟩ := hc2 k hlt
      obtain ⟨x0, x1, x2, x3, x4, x5, x6, x7⟩ := hcs.below hbl hb
      obtain ⟨y0, y1, y2, y3, y4, y5, y6, y7⟩ := hcs'.below hbl2 hb
      have k0 := cell_regrown x0
      have k1 := cell_regrown x1
      have k2 := cell_regrown x2
      have k3 := cell_regrown x3
      have k4 := cell_regrown x4
      have k5 := cell_regrown x5
      have k6 := cell_regrown x6
      have k7 := cell_regrown x7
      have l0 := cell_regrown y0
      have l1 := cell_regrown y1
      have l2 := cell_regrown y2
      have l3 := cell_regrown y3
      have l4 := cell_regrown y4
      have l5 := cell_regrown y5
      have l6 := cell_regrown y6
      have l7 := cell_regrown y7
      obtain ⟨s, es⟩ : ∃ s, s = ss.getD k ob0 := ⟨_, rfl⟩
      rw [← es] at k0 k1 k2 l0 l1 l2 hof hof' hff
      have cE : ∀ d os, Calls Tryz.prog 30 #[obV s.prio s.qcap s.dcap h, obV s.prio s.qcap s.dcap h'] (grow (redrawn wr d) os) fun e w'' => e = .returned (.bool true) ∧ ∃ p : Regrown, w'' = grow (redrawn wr p.d) p.os :=
        fun d os => Calls.regrown_of (eqObject_same s.prio s.qcap s.dcap h h' s _ hff (hof.below (hb.trans ((below_regrown wr d os).mono hb.size))) (hof'.below (hb.trans ((below_regrown wr d os).mono hb.size))))
      obtain ⟨pv, hpv⟩ : ∃ pv, pv = s.prio := ⟨_, rfl⟩
      obtain ⟨qv, hqv⟩ : ∃ qv, qv = s.qcap := ⟨_, rfl⟩
      obtain ⟨dv, hdv⟩ : ∃ dv, dv = s.dcap := ⟨_, rfl⟩
      rw [← hpv] at k0 l0 cE
      rw [← hqv] at k1 l1 cE
      rw [← hdv] at k2 l2 cE
      obtain ⟨ko, kn, kc, vo, vn, vc, uo, un, uc, so, sn, sc, to, tn, tc⟩ := h
      obtain ⟨ko', kn', kc', vo', vn', vc', uo', un', uc', so', sn', sc', to', tn', tc'⟩ := h'
      unfold obV at cE
      dsimp only at cE k3 k4 k5 k6 k7 l3 l4 l5 l6 l7
      clear hx hy hc hc2 x0 x1 x2 x3 x4 x5 x6 x7 y0 y1 y2 y3 y4 y5 y6 y7 hcs hcs' hof hof' es hb hpv hqv hdv hmx hmx' hff
      go_wp2
      refine wp_region_quiet_below (by kernel_rfl) (by kernel_rfl) ?_
      repeat (any_goals (first | go_big_quiet_step (first | exact cE _ _) | quiet_step (first | exact cE _ _)))
      refine wpQuiet_nil ?_
      intro _ hw'
      obtain ⟨⟨dq, osq⟩, hw''⟩ := hw'
      subst hw''
      go_wp2
      go_roundw
      case rel => exact ⟨k + 1, by omega, by go_num, HB.out.trans ((below_regrown wr dq osq).mono HB.out.size)⟩
      case measure => simp [intOf]; omega
    · have e : k = n := by omega
      subst e
      clear hx hy hb
      go_wp2
      go_ret
      exact ⟨rfl, HB.out⟩

set_option maxHeartbeats 800000 in
theorem eqSystem_same (sg : Int) (eo xo eo' xo' : Option Addr) (en ec xn xc ec' xc' : Nat) (es : List ObD) (xs : List (Int × Int)) (w : World) (fe : FitsObs es) (fx : xn ≤ 1048576) (he : ObsOf w eo en es) (hx : ItemsOf w xo xn xs) (he' : ObsOf w eo' en es) (hx' : ItemsOf w xo' xn xs) :
    Calls Tryz.prog 6 #[.agg #[.int .i64 sg, .slice eo en ec, .slice xo xn xc], .agg #[.int .i64 sg, .slice eo' en ec', .slice xo' xn xc']] w fun e w' => e = .returned (.bool true) ∧ Below w.heap.size w w' := by
  have HS : Hid (∀ w', Below w.heap.size w w' → (ObsOf w' eo en es ∧ ObsOf w' eo' en es) ∧ ItemsOf w' xo xn xs ∧ ItemsOf w' xo' xn xs) := fun w' h => ⟨⟨he.below h, he'.below h⟩, hx.below h, hx'.below h⟩
  clear he hx he' hx'
  go_enter Tryz.func6, Tryz.ntmps6
  go_wp2_with (first
    | (go_at_call 13; refine (eqObjectS_same eo eo' en ec ec' es _ fe (HS.out _ (below2 _ _ _)).1.1 (HS.out _ (below2 _ _ _)).1.2).mono ?_; rintro e w1 ⟨rfl, hb1⟩; have B1 := hid ((below2 _ _ _).trans (hb1.mono (by simp; omega))); obtain ⟨q0, q1, q2⟩ := three_cells (block_below (block_below (heap_alloc_new w _) (below1 _ _)) hb1); obtain ⟨p0, p1, p2⟩ := three_cells (block_below (heap_alloc_new (w.alloc _) _) hb1); simp only [World.size_alloc] at p0 p1 p2; clear hb1)
    | (go_at_call 14; refine (eqTimerS_same xo xo' xn xc xc' xs _ fx (HS.out _ B1.out).2.1 (HS.out _ B1.out).2.2).mono ?_; rintro e w2 ⟨rfl, hb2⟩; have B2 := hid (B1.out.trans (hb2.mono B1.out.size)); clear hb2))
  go_ret
  exact ⟨rfl, B2.out⟩
end Go.Proofs.YtbcjlpjohknljaaGreatDoor
