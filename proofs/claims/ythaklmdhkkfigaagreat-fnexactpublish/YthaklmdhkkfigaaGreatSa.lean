import Derived.Test.YthaklmdhkkfigaaGreatM1
import Derived.Deep.RegionHeld3
import Derived.Deep.AppendLies
namespace Go.Proofs.YthaklmdhkkfigaaGreat
open Go.RowKit Go.Sort
attribute [local go_sem ↓] Go.wp_at_zero Go.wp_at_succ

set_option maxHeartbeats 800000 in
theorem l2HasChild_any (so to : Option Addr) (n sc tn tc : Nat) (ss : List StD) (s : Nat) (w : World) (hn : n ≤ 9223372036854775807) (hs : StatesOf w so n ss) :
    Calls Tryz.prog 92 #[.agg #[.slice so n sc, .slice to tn tc], .int .i64 s] w fun e w' => e = .returned (.bool (decide (¬ kids ss ss.length s = []))) ∧ Below w.heap.size w w' := by
  have HL := hid hs.1
  go_enter Tryz.func92, Tryz.ntmps92
  go_wp2
  go_loopw [10] (fun i wr => ∃ k : Nat, k ≤ n ∧ i = .int .i64 k ∧ Hid (∀ j, j < k → ¬ par ss j = s) ∧ Below w.heap.size w wr) (fun i _ => n - (intOf i).toNat)
  case atStart => exact ⟨0, Nat.zero_le _, rfl, hid (fun j h => absurd h (by omega)), below1 _ _⟩
  case round =>
    obtain ⟨k, hk, rfl, HP, hb⟩ := hrel
    have HB := hid hb
    by_cases hlt : k < n
    · obtain ⟨b, off, rfl, hbl, hc⟩ := hs.2 (by omega)
      obtain ⟨k1, k2, ⟨co, cn, cc, k3, _, _⟩, ⟨do_, dn, dc, k4, _, _⟩⟩ := hc k hlt
      have k1 := (hb.cell (p := ⟨b, off + k * 4, none⟩) hbl).trans k1
      have k2 := (hb.cell (p := ⟨b, off + k * 4 + 1, none⟩) hbl).trans k2
      have k3 := (hb.cell (p := ⟨b, off + k * 4 + 2, none⟩) hbl).trans k3
      have k4 := (hb.cell (p := ⟨b, off + k * 4 + 3, none⟩) hbl).trans k4
      obtain ⟨pv, hpv⟩ : ∃ pv, pv = par ss k := ⟨_, rfl⟩
      have hpv' : (ss.getD k st0).parent = pv := hpv.symm
      rw [hpv'] at k1
      have EP := hid hpv
      have hz : w.heap.size ≤ wr.heap.size := hb.size
      clear hc hs hb hpv hpv'
      by_cases e : pv = (s : Int)
      · subst e
        go_wp2
        go_ret
        refine ⟨ret_bool ?_, HB.out.alloc hz _⟩
        symm
        rw [decide_eq_true_iff]
        intro h0
        have : k ∈ kids ss ss.length s := mem_kids.2 ⟨by rw [HL.out]; exact hlt, EP.out.symm⟩
        rw [h0] at this
        cases this
      · have e' : (pv == (s : Int)) = false := by simpa using e
        go_wp2
        go_roundw
        case rel =>
          refine ⟨k + 1, by omega, by go_num, hid (fun j hj => ?_), HB.out.alloc hz _⟩
          by_cases ej : j = k
          · subst ej; rw [← EP.out]; exact e
          · exact HP.out j (by omega)
        case measure => simp [intOf]; omega
    · have e : k = n := by omega
      subst e
      clear hs hb
      go_wp2
      go_ret
      refine ⟨ret_bool ?_, HB.out⟩
      symm
      rw [decide_eq_false_iff_not, Classical.not_not]
      rw [List.eq_nil_iff_forall_not_mem]
      intro x hx
      obtain ⟨h1, h2⟩ := mem_kids.1 hx
      exact HP.out x (by rw [← HL.out]; exact h1) h2

set_option maxHeartbeats 800000 in
theorem l2Depth_any (so to : Option Addr) (n sc tn tc : Nat) (ss : List StD) (T : TreeOK ss) (hn : n ≤ 200) : ∀ k : Nat, k < n → ∀ w, StatesOf w so n ss →
    Calls Tryz.prog 210 #[.agg #[.slice so n sc, .slice to tn tc], .int .i64 k] w fun e w' => e = .returned (.int .i64 (((up ss k).length : Int) - 1)) ∧ Below w.heap.size w w' := by
  intro k
  induction k using Nat.strongRecOn with
  | ind k ih =>
    intro hk w hs
    by_cases h0 : k = 0
    · subst h0
      clear ih hs
      go_enter Tryz.func210, Tryz.ntmps210
      go_wp2
      go_ret
      exact ⟨ret_int (by simp [up_zero]), below1 _ _⟩
    · have hl := hs.1
      have ht := T.2 k (by omega) (by omega)
      obtain ⟨p, hp⟩ : ∃ p : Nat, par ss k = p := ⟨(par ss k).toNat, by omega⟩
      have hpk : p < k := by omega
      have hlen := up_len T p (by omega)
      have E : Hid (((up ss k).length : Int) - 1 = ((up ss p).length : Int)) := hid (by
        rw [up_pos T (by omega) (by omega), hp, List.length_cons, Int.toNat_natCast]; omega)
      obtain ⟨b, off, rfl, hbl, hc⟩ := hs.2 (by omega)
      have k1 : w.cell? ⟨b, off + k * 4, none⟩ = some (.int .i64 (p : Int)) := by rw [← hp]; exact (hc k hk).1
      have k0 : (k : Int) < (n : Int) := by omega
      have kz : ((k : Int) == 0) = false := by simpa using h0
      obtain ⟨ob, hob⟩ : ∃ ob : Obj, ob = .cells #[.slice (some ⟨b, off, none⟩) n sc, .slice to tn tc] 132 := ⟨_, rfl⟩
      have hcell := cell_regrown (((below1 w ob).cell (p := ⟨b, off + k * 4, none⟩) hbl).trans k1)
      obtain ⟨c0, c1⟩ := two_cells (w := w.alloc (.cells #[.slice (some ⟨b, off, none⟩) n sc, .slice to tn tc] 132)) (H := w.heap.size) (heap_alloc_new w _)
      have q0 := cell_regrown c0
      have q1 := cell_regrown c1
      have cE : ∀ d os, Calls Tryz.prog 210 #[.agg #[.slice (some ⟨b, off, none⟩) n sc, .slice to tn tc], .int .i64 (p : Int)] (grow (redrawn (w.alloc ob) d) os) fun e w'' => e = .returned (.int .i64 (((up ss p).length : Int) - 1)) ∧ ∃ p : Regrown, w'' = grow (redrawn (w.alloc ob) p.d) p.os :=
        fun d os => Calls.regrown_of (ih p hpk (by omega) _ (hs.below ((below1 w ob).trans ((below_regrown _ d os).mono (by simp)))))
      subst hob
      obtain ⟨m, hm⟩ : ∃ m, m = ((up ss p).length : Int) := ⟨_, rfl⟩
      rw [← hm] at cE E
      have hm' : 0 ≤ m ∧ m ≤ 200 := by omega
      obtain ⟨m0, m1⟩ := hm'
      rw [E.out]
      clear ih hs hc k1 ht hp hlen hl c0 c1 hm
      go_enter Tryz.func210, Tryz.ntmps210
      go_wp2
      refine wp_region_quiet_below (by kernel_rfl) (by kernel_rfl) ?_
      repeat (any_goals (first | go_big_quiet_step (first | exact cE _ _) | quiet_step (first | exact cE _ _)))
      refine wpQuiet_nil ?_
      intro _ hw'
      obtain ⟨⟨dq, osq⟩, hw''⟩ := hw'
      subst hw''
      go_wp2
      go_ret
      exact ⟨ret_int (by omega), (below1 w _).trans ((below_regrown _ dq osq).mono (by simp))⟩
end Go.Proofs.YthaklmdhkkfigaaGreat
namespace Go.Proofs.YthaklmdhkkfigaaGreat
open Go.RowKit Go.Sort
attribute [local go_sem ↓] Go.wp_at_zero Go.wp_at_succ

end Go.Proofs.YthaklmdhkkfigaaGreat
namespace Go.Proofs.YthaklmdhkkfigaaGreat
open Go.RowKit Go.Sort
attribute [local go_sem ↓] Go.wp_at_zero Go.wp_at_succ

end Go.Proofs.YthaklmdhkkfigaaGreat
namespace Go.Proofs.YthaklmdhkkfigaaGreat
open Go.RowKit Go.Sort
attribute [local go_sem ↓] Go.wp_at_zero Go.wp_at_succ

end Go.Proofs.YthaklmdhkkfigaaGreat
namespace Go.Proofs.YthaklmdhkkfigaaGreat
open Go.RowKit Go.Sort
attribute [local go_sem ↓] Go.wp_at_zero Go.wp_at_succ

theorem badP_pos {ss : List StD} {k : Nat} (h0 : ¬ k = 0) : badP ss k = !(betB (par ss k) 0 ((k : Int) - 1)) := by
  unfold badP betB
  rw [if_neg h0, Bool.eq_iff_iff]
  simp
  omega

def CntOK (ss : List StD) (tn : Nat) (lim : Bool) : Prop := 1 ≤ ss.length ∧ ss.length ≤ 200 ∧ tn ≤ 500 ∧ lim = true
theorem after_state {w wr w1 : World} {ob cb : Obj} (HB : Below w.heap.size w wr) (HQ : wr.heap[w.heap.size]? = some cb) (hb1 : Below (wr.alloc ob).heap.size (wr.alloc ob) w1) :
    Below w.heap.size w w1 ∧ w1.heap[w.heap.size]? = some cb ∧ w1.heap[wr.heap.size]? = some ob :=
  ⟨(HB.alloc HB.size ob).trans (hb1.mono (by simp; have := HB.size; omega)), block_below ((heap_alloc_old _ _ (lt_of_block HQ)).trans HQ) hb1, block_below (heap_alloc_new wr ob) hb1⟩
theorem badI_no {ss : List StD} {i : Nat} (h : kids ss ss.length i = []) : badI ss i = !(decide (ini ss i = -1)) := by unfold badI; rw [if_pos h]
theorem badI_yes {ss : List StD} {i : Nat} (h : ¬ kids ss ss.length i = []) : badI ss i = !(decide (0 ≤ ini ss i ∧ ini ss i < ss.length ∧ par ss (ini ss i).toNat = i)) := by unfold badI; rw [if_neg h]

set_option maxHeartbeats 3200000 in
theorem l2TreeFault_any (so to : Option Addr) (n sc tn tc : Nat) (ss : List StD) (o s t v : Int) (w : World) (hn : n ≤ 9223372036854775807) (htn : tn ≤ 9223372036854775807) (hs : StatesOf w so n ss) :
    Calls Tryz.prog 180 #[.agg #[.slice so n sc, .slice to tn tc], .agg #[.int .i64 o, .int .i64 s, .int .i64 t, .int .i64 v]] w fun e w' => e = .returned (.tuple #[.int .i64 (faultOf ss tn (limB ⟨o, s, t, v⟩)).1, .int .i64 (faultOf ss tn (limB ⟨o, s, t, v⟩)).2]) ∧ Below w.heap.size w w' := by
  have HL := hid hs.1
  have HS : Hid (∀ w', Below w.heap.size w w' → StatesOf w' so n ss) := fun w' h => hs.below h
  obtain ⟨b1, hb1⟩ : ∃ b, b = betB n 1 200 := ⟨_, rfl⟩
  obtain ⟨b3, hb3⟩ : ∃ b, b = limB ⟨o, s, t, v⟩ := ⟨_, rfl⟩
  have C1 := hid (l1Between_of n 1 200 b1 hb1)
  have C3 : Hid (∀ w, Calls Tryz.prog 209 #[.agg #[.int .i64 o, .int .i64 s, .int .i64 t, .int .i64 v]] w fun e w' => e = .returned (.bool b3) ∧ Below w.heap.size w w') := hid (by rw [hb3]; exact l1LimOK_any o s t v)
  rw [← hb3]
  have H1 : Hid (b1 = true ↔ 1 ≤ n ∧ n ≤ 200) := hid (by rw [hb1]; unfold betB; rw [decide_eq_true_iff]; omega)
  clear hb1 hb3
  cases b1 with
  | false =>
    have E : Hid (faultOf ss tn b3 = (1, 0)) := hid (fault_count (by intro h; have := H1.out.2 (by rw [HL.out] at h; exact ⟨h.1, h.2.1⟩); cases this))
    rw [E.out]
    clear hs
    go_enter Tryz.func180, Tryz.ntmps180
    go_wp2_with (go_at_call 31; refine (C1.out _).mono ?_; rintro e w1 ⟨rfl, hw⟩; obtain rfl := hw.symm)
    go_ret2
    exact ⟨rfl, below2 _ _ _⟩
  | true =>
    obtain ⟨n1, n2⟩ := H1.out.1 rfl
    by_cases h500 : tn ≤ 500
    case neg =>
      have g5 : (500 : Int) < (tn : Int) := by omega
      have E : Hid (faultOf ss tn b3 = (1, 0)) := hid (fault_count (by intro h; omega))
      rw [E.out]
      clear hs
      go_enter Tryz.func180, Tryz.ntmps180
      go_wp2_with (go_at_call 31; refine (C1.out _).mono ?_; rintro e w1 ⟨rfl, hw⟩; obtain rfl := hw.symm)
      go_ret2
      exact ⟨rfl, below2 _ _ _⟩
    have g5 : ¬ (500 : Int) < (tn : Int) := by omega
    have g5' : decide ((500 : Int) < (tn : Int)) = false := by simpa using g5
    cases b3 with
    | false =>
      have E : Hid (faultOf ss tn false = (1, 0)) := hid (fault_count (by intro h; cases h.2.2.2))
      rw [E.out]
      clear hs
      go_enter Tryz.func180, Tryz.ntmps180
      go_wp2_with (first | (go_at_call 31; refine (C1.out _).mono ?_; rintro e w1 ⟨rfl, hw⟩; obtain rfl := hw.symm) | (go_at_call 209; refine (C3.out _).mono ?_; rintro e w1 ⟨rfl, hb⟩; have HB := hid hb; clear hb))
      go_ret2
      exact ⟨rfl, (below2 _ _ _).trans (HB.out.mono (by simp; omega))⟩
    | true =>
      have HC : Hid (CntOK ss tn true) := hid (by unfold CntOK; rw [HL.out]; exact ⟨n1, n2, h500, rfl⟩)
      obtain ⟨b, off, rfl, hbl, hc⟩ := hs.2 (by omega)
      have HA := hid hc
      clear hs hc
      go_enter Tryz.func180, Tryz.ntmps180
      go_wp2_with (first | (go_at_call 31; refine (C1.out _).mono ?_; rintro e w1 ⟨rfl, hw⟩; obtain rfl := hw.symm) | (go_at_call 209; refine (C3.out _).mono ?_; rintro e w1 ⟨rfl, hb⟩; have Q0 := hid (block_below (block_below (heap_alloc_new w _) (below1 _ _)) hb); have B0 := hid ((below2 _ _ _).trans (hb.mono (by simp; omega))); obtain ⟨q0, q1⟩ := two_cells Q0.out; clear hb))
      -- the parents
      go_loopw [31] (fun i wr => ∃ k : Nat, k ≤ n ∧ i = .int .i64 k ∧ Hid (∀ j, j < k → badP ss j = false) ∧ wr.heap[w.heap.size]? = some (.cells #[.slice (some ⟨b, off, none⟩) n sc, .slice to tn tc] 132 (0, 0)) ∧ Below w.heap.size w wr) (fun i _ => n - (intOf i).toNat)
      case atStart => exact ⟨0, Nat.zero_le _, rfl, hid (fun j h => absurd h (by omega)), Q0.out, B0.out⟩
      case round =>
        obtain ⟨k, hk, rfl, HP, hq, hb⟩ := hrel
        have HB := hid hb
        have HQ := hid hq
        have hz : w.heap.size ≤ wr.heap.size := hb.size
        have hzl : w.heap.size < wr.heap.size := lt_of_block hq
        obtain ⟨r0, r1⟩ := two_cells hq
        clear hq
        by_cases hlt : k < n
        · obtain ⟨k1, k2, ⟨co, cn, cc, k3, _, _⟩, ⟨do_, dn, dc, k4, _, _⟩⟩ := HA.out k hlt
          have k1 : wr.cell? ⟨b, off + k * 4, none⟩ = some (.int .i64 (par ss k)) := (hb.cell (p := ⟨b, off + k * 4, none⟩) hbl).trans k1
          have k2 := (hb.cell (p := ⟨b, off + k * 4 + 1, none⟩) hbl).trans k2
          have k3 := (hb.cell (p := ⟨b, off + k * 4 + 2, none⟩) hbl).trans k3
          have k4 := (hb.cell (p := ⟨b, off + k * 4 + 3, none⟩) hbl).trans k4
          obtain ⟨pv, hpv⟩ : ∃ pv, pv = par ss k := ⟨_, rfl⟩
          rw [← hpv] at k1
          have kn : (k : Int) < (n : Int) := by omega
          clear hb
          by_cases h0 : k = 0
          · subst h0
            simp only [Nat.zero_mul, Nat.add_zero] at k1 k2 k3 k4
            by_cases hp : pv = -1
            · have BG : Hid (badP ss 0 = false) := hid (by simp [badP, ← hpv, hp])
              subst hp
              clear hpv
              go_wp2_with fail
              go_roundw
              case rel =>
                refine ⟨0 + 1, by omega, by go_num, hid (fun j hj => ?_), (heap_alloc_old _ _ hzl).trans HQ.out, HB.out.alloc hz _⟩
                have : j = 0 := by omega
                subst this
                exact BG.out
              case measure => simp [intOf]; omega
            · have BG : Hid (badP ss 0 = true) := hid (by simp [badP, ← hpv, hp])
              have hp' : (pv != -1) = true := by simpa using hp
              have E : Hid (faultOf ss tn true = (2, ((0 : Nat) : Int))) := hid (fault_tree HC.out (by rw [HL.out]; exact hlt) BG.out (fun j h => absurd h (by omega)))
              clear hpv
              go_wp2_with fail
              go_ret2
              rw [E.out]
              exact ⟨rfl, HB.out.alloc hz _⟩
          · have kz : ((k : Int) == 0) = false := by simpa using h0
            have kp : (0 : Int) < (k : Int) := by omega
            have BE : Hid (badP ss k = !(betB pv 0 ((k : Int) - 1))) := hid (by rw [hpv]; exact badP_pos h0)
            obtain ⟨bb, hbb⟩ : ∃ bb, bb = betB pv 0 ((k : Int) - 1) := ⟨_, rfl⟩
            have CB := hid (l1Between_of pv 0 ((k : Int) - 1) bb hbb)
            rw [← hbb] at BE
            clear hpv hbb
            cases bb with
            | true =>
              go_wp2_with (go_at_call 31; refine (CB.out _).mono ?_; rintro e w1 ⟨rfl, hw⟩; obtain rfl := hw.symm)
              go_roundw
              case rel =>
                refine ⟨k + 1, by omega, by go_num, hid (fun j hj => ?_), (heap_alloc_old _ _ hzl).trans HQ.out, HB.out.alloc hz _⟩
                by_cases e : j = k
                · subst e; rw [BE.out]; rfl
                · exact HP.out j (by omega)
              case measure => simp [intOf]; omega
            | false =>
              have E : Hid (faultOf ss tn true = (2, (k : Int))) := hid (fault_tree HC.out (by rw [HL.out]; exact hlt) (by rw [BE.out]; rfl) HP.out)
              go_wp2_with (go_at_call 31; refine (CB.out _).mono ?_; rintro e w1 ⟨rfl, hw⟩; obtain rfl := hw.symm)
              go_ret2
              rw [E.out]
              exact ⟨rfl, HB.out.alloc hz _⟩
        · have e : k = n := by omega
          subst e
          have HP' : Hid (∀ j, j < ss.length → badP ss j = false) := hid (by rw [HL.out]; exact HP.out)
          have T : TreeOK ss := tree_of (by rw [HL.out]; omega) HP'.out
          clear hb HP
          go_wp2
          -- the depths
          go_loopw [60] (fun i wr => ∃ q : Nat, q ≤ k ∧ i = .int .i64 q ∧ Hid (∀ j, j < q → badD ss j = false) ∧ wr.heap[w.heap.size]? = some (.cells #[.slice (some ⟨b, off, none⟩) k sc, .slice to tn tc] 132 (0, 0)) ∧ Below w.heap.size w wr) (fun i _ => k - (intOf i).toNat)
          case atStart => exact ⟨0, Nat.zero_le _, rfl, hid (fun j h => absurd h (by omega)), HQ.out, HB.out⟩
          case round =>
            obtain ⟨q, hqk, rfl, HD, hq, hb⟩ := hrel
            have HB := hid hb
            have HQ := hid hq
            have hz : w.heap.size ≤ wr.heap.size := hb.size
            have hzl : w.heap.size < wr.heap.size := lt_of_block hq
            obtain ⟨r0, r1⟩ := two_cells hq
            clear hq
            by_cases hlt : q < k
            · have CD := hid (l2Depth_any (some ⟨b, off, none⟩) to k sc tn tc ss T n2 q hlt wr (HS.out _ hb))
              obtain ⟨m, hm⟩ : ∃ m, m = ((up ss q).length : Int) := ⟨_, rfl⟩
              have BD : Hid (badD ss q = decide (17 ≤ m)) := hid (by rw [hm, Bool.eq_iff_iff]; simp [badD]; omega)
              have hmb : m ≤ 200 := by have := up_len T q (by rw [HL.out]; omega); omega
              have hm0 : 0 ≤ m := by omega
              rw [← hm] at CD
              clear hb hm
              by_cases h17 : 17 ≤ m
              · have t1 : (16 : Int) ≤ m - 1 := by omega
                have E : Hid (faultOf ss tn true = (3, (q : Int))) := hid (fault_depth HC.out HP'.out (by rw [HL.out]; exact hlt) (by rw [BD.out]; simpa using h17) HD.out)
                go_wp2_with (go_at_call 210; refine CD.out.mono ?_; rintro e w1 ⟨rfl, hb1⟩; have B1 := hid hb1; clear hb1)
                go_ret2
                rw [E.out]
                exact ⟨rfl, HB.out.trans (B1.out.mono HB.out.size)⟩
              · have t1 : ¬ (16 : Int) ≤ m - 1 := by omega
                go_wp2_with (go_at_call 210; refine CD.out.mono ?_; rintro e w1 ⟨rfl, hb1⟩; have B1 := hid hb1; clear hb1)
                go_roundw
                case rel =>
                  refine ⟨q + 1, by omega, by go_num, hid (fun j hj => ?_), block_below HQ.out B1.out, HB.out.trans (B1.out.mono HB.out.size)⟩
                  by_cases e : j = q
                  · subst e; rw [BD.out]; simpa using h17
                  · exact HD.out j (by omega)
                case measure => simp [intOf]; omega
            · have e : q = k := by omega
              subst e
              have HD' : Hid (∀ j, j < ss.length → badD ss j = false) := hid (by rw [HL.out]; exact HD.out)
              clear hb HD
              go_wp2
              -- the initial states
              go_loopw [72] (fun i wr => ∃ p : Nat, p ≤ q ∧ i = .int .i64 p ∧ Hid (∀ j, j < p → badI ss j = false) ∧ wr.heap[w.heap.size]? = some (.cells #[.slice (some ⟨b, off, none⟩) q sc, .slice to tn tc] 132 (0, 0)) ∧ Below w.heap.size w wr) (fun i _ => q - (intOf i).toNat)
              case atStart => exact ⟨0, Nat.zero_le _, rfl, hid (fun j h => absurd h (by omega)), HQ.out, HB.out⟩
              case round =>
                obtain ⟨p, hpq, rfl, HI, hq, hb⟩ := hrel
                have HB := hid hb
                have HQ := hid hq
                have hz : w.heap.size ≤ wr.heap.size := hb.size
                have hzl : w.heap.size < wr.heap.size := lt_of_block hq
                obtain ⟨r0, r1⟩ := two_cells hq
                clear hq
                by_cases hlt : p < q
                · obtain ⟨k1, k2, ⟨co, cn, cc, k3, _, _⟩, ⟨do_, dn, dc, k4, _, _⟩⟩ := HA.out p hlt
                  have k1 := (hb.cell (p := ⟨b, off + p * 4, none⟩) hbl).trans k1
                  have k2 : wr.cell? ⟨b, off + p * 4 + 1, none⟩ = some (.int .i64 (ini ss p)) := (hb.cell (p := ⟨b, off + p * 4 + 1, none⟩) hbl).trans k2
                  have k3 := (hb.cell (p := ⟨b, off + p * 4 + 2, none⟩) hbl).trans k3
                  have k4 := (hb.cell (p := ⟨b, off + p * 4 + 3, none⟩) hbl).trans k4
                  obtain ⟨pv, hpv⟩ : ∃ pv, pv = (ss.getD p st0).parent := ⟨_, rfl⟩
                  rw [← hpv] at k1
                  have kn : (p : Int) < (q : Int) := by omega
                  obtain ⟨ob, hob⟩ : ∃ ob : Obj, ob = .cells #[.int .i64 pv, .int .i64 (ini ss p), .slice co cn cc, .slice do_ dn dc] 196 := ⟨_, rfl⟩
                  have CH := hid (l2HasChild_any (some ⟨b, off, none⟩) to q sc tn tc ss p (wr.alloc ob) (by omega) (HS.out _ (hb.alloc hz _)))
                  rw [hob] at CH
                  clear hpv hob
                  by_cases hkd : kids ss ss.length p = []
                  · have BI := hid (badI_no hkd)
                    have ED : Hid (decide (¬ kids ss ss.length p = []) = false) := hid (by simp [hkd])
                    rw [ED.out] at CH
                    obtain ⟨iv, hiv⟩ : ∃ iv, iv = ini ss p := ⟨_, rfl⟩
                    rw [← hiv] at k2 CH BI
                    clear hb hkd hiv
                    by_cases h1 : iv = -1
                    · subst h1
                      go_wp2_with (go_at_call 92; refine CH.out.mono ?_; rintro e w1 ⟨rfl, hb1⟩; have V1 := hid (after_state HB.out HQ.out hb1); clear hb1)
                      go_roundw
                      case rel =>
                        refine ⟨p + 1, by omega, by go_num, hid (fun j hj => ?_), V1.out.2.1, V1.out.1⟩
                        by_cases e : j = p
                        · subst e; rw [BI.out]; rfl
                        · exact HI.out j (by omega)
                      case measure => simp [intOf]; omega
                    · have h1' : (iv == -1) = false := by simpa using h1
                      have E : Hid (faultOf ss tn true = (4, (p : Int))) := hid (fault_initial HC.out HP'.out HD'.out (by rw [HL.out]; exact hlt) (by rw [BI.out]; simpa using h1) HI.out)
                      go_wp2_with (go_at_call 92; refine CH.out.mono ?_; rintro e w1 ⟨rfl, hb1⟩; have V1 := hid (after_state HB.out HQ.out hb1); clear hb1)
                      go_ret2
                      rw [E.out]
                      exact ⟨rfl, V1.out.1⟩
                  · have BI := hid (badI_yes hkd)
                    have ED : Hid (decide (¬ kids ss ss.length p = []) = true) := hid (by simp [hkd])
                    rw [ED.out] at CH
                    obtain ⟨iv, hiv⟩ : ∃ iv, iv = ini ss p := ⟨_, rfl⟩
                    rw [← hiv] at k2 CH BI
                    obtain ⟨bb, hbb⟩ : ∃ bb, bb = betB iv 0 ((q : Int) - 1) := ⟨_, rfl⟩
                    have CB := hid (l1Between_of iv 0 ((q : Int) - 1) bb hbb)
                    have HBB := hid hbb
                    clear hkd hiv hbb
                    cases bb with
                    | false =>
                      have E : Hid (faultOf ss tn true = (4, (p : Int))) := hid (fault_initial HC.out HP'.out HD'.out (by rw [HL.out]; exact hlt) (by
                        rw [BI.out]
                        have := HBB.out
                        unfold betB at this
                        have := of_decide_eq_false this.symm
                        rw [HL.out]
                        simp only [Bool.not_eq_true', decide_eq_false_iff_not]
                        omega) HI.out)
                      clear hb
                      go_wp2_with (first | (go_at_call 92; refine CH.out.mono ?_; rintro e w1 ⟨rfl, hb1⟩; have V1 := hid (after_state HB.out HQ.out hb1); obtain ⟨x0, x1⟩ := two_cells V1.out.2.1; obtain ⟨y0, y1, y2, y3⟩ := quad_cells V1.out.2.2; clear hb1) | (go_at_call 31; refine (CB.out _).mono ?_; rintro e w2 ⟨rfl, hw⟩; obtain rfl := hw.symm))
                      go_ret2
                      rw [E.out]
                      exact ⟨rfl, V1.out.1⟩
                    | true =>
                      obtain ⟨hi0, hi1⟩ : 0 ≤ iv ∧ iv ≤ (q : Int) - 1 := by have := HBB.out; unfold betB at this; exact of_decide_eq_true this.symm
                      obtain ⟨j, rfl⟩ : ∃ j : Nat, iv = j := ⟨iv.toNat, by omega⟩
                      have hjq : j < q := by omega
                      have jn : (j : Int) < (q : Int) := by omega
                      obtain ⟨fv, hfv⟩ : ∃ fv, fv = par ss j := ⟨_, rfl⟩
                      have c1 : w.cell? ⟨b, off + j * 4, none⟩ = some (.int .i64 fv) := by rw [hfv]; exact (HA.out j hjq).1
                      have BI2 : Hid (badI ss p = !(decide (fv = p))) := hid (by
                        rw [BI.out, HL.out, Int.toNat_natCast, ← hfv, Bool.eq_iff_iff]
                        simp
                        omega)
                      clear hfv hb
                      by_cases hf : fv = (p : Int)
                      · subst hf
                        go_wp2_with (first | (go_at_call 92; refine CH.out.mono ?_; rintro e w1 ⟨rfl, hb1⟩; have V1 := hid (after_state HB.out HQ.out hb1); obtain ⟨x0, x1⟩ := two_cells V1.out.2.1; obtain ⟨y0, y1, y2, y3⟩ := quad_cells V1.out.2.2; have z1 := (V1.out.1.cell (p := ⟨b, off + j * 4, none⟩) hbl).trans c1; clear hb1) | (go_at_call 31; refine (CB.out _).mono ?_; rintro e w2 ⟨rfl, hw⟩; obtain rfl := hw.symm))
                        go_roundw
                        case rel =>
                          refine ⟨p + 1, by omega, by go_num, hid (fun j' hj => ?_), V1.out.2.1, V1.out.1⟩
                          by_cases e : j' = p
                          · subst e; rw [BI2.out]; simp
                          · exact HI.out j' (by omega)
                        case measure => simp [intOf]; omega
                      · have hf' : (fv == (p : Int)) = false := by simpa using hf
                        have E : Hid (faultOf ss tn true = (4, (p : Int))) := hid (fault_initial HC.out HP'.out HD'.out (by rw [HL.out]; exact hlt) (by rw [BI2.out]; simpa using hf) HI.out)
                        go_wp2_with (first | (go_at_call 92; refine CH.out.mono ?_; rintro e w1 ⟨rfl, hb1⟩; have V1 := hid (after_state HB.out HQ.out hb1); obtain ⟨x0, x1⟩ := two_cells V1.out.2.1; obtain ⟨y0, y1, y2, y3⟩ := quad_cells V1.out.2.2; have z1 := (V1.out.1.cell (p := ⟨b, off + j * 4, none⟩) hbl).trans c1; clear hb1) | (go_at_call 31; refine (CB.out _).mono ?_; rintro e w2 ⟨rfl, hw⟩; obtain rfl := hw.symm))
                        go_ret2
                        rw [E.out]
                        exact ⟨rfl, V1.out.1⟩
                · have e : p = q := by omega
                  subst e
                  have E : Hid (faultOf ss tn true = (0, 0)) := hid (fault_none HC.out HP'.out HD'.out (by rw [HL.out]; exact HI.out))
                  clear hb
                  go_wp2
                  go_ret2
                  rw [E.out]
                  exact ⟨rfl, HB.out⟩
end Go.Proofs.YthaklmdhkkfigaaGreat
namespace Go.Proofs.YthaklmdhkkfigaaGreat
open Go.RowKit Go.Sort
attribute [local go_sem ↓] Go.wp_at_zero Go.wp_at_succ

end Go.Proofs.YthaklmdhkkfigaaGreat
