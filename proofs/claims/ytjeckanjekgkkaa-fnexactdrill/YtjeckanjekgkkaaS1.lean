import Derived.Test.YtjeckanjekgkkaaM1
import Derived.Deep.RegionHeld3
import Derived.Deep.AppendLies
namespace Go.Proofs.Ytjeckanjekgkkaa
open Go.RowKit Go.Sort
attribute [local go_sem ↓] Go.wp_at_zero Go.wp_at_succ

/-- Numbers as cells. -/
def ints (l : List Nat) : List Value := l.map fun (x : Nat) => .int .i64 (x : Int)
theorem ints_len (l : List Nat) : (ints l).length = l.length := by simp [ints]
theorem ints_one (l : List Nat) : ∀ u ∈ ints l, u.oneCell' = true := by
  intro u hu
  simp only [ints, List.mem_map] at hu
  obtain ⟨x, _, rfl⟩ := hu
  rfl
theorem Try.info3 : (Try.prog.info? 3).map (fun i => (i.zero, i.size, i.bytes)) = some (some (.int .i64 0), 1, 8) := by kernel_rfl
/-- A list of numbers that the call made. -/
def OwnI (w w' : World) (v : Value) (l : List Nat) : Prop := w'.ownsRow w.heap.size 3 1 v l.length (ints l)

set_option maxHeartbeats 800000 in
theorem l2HasChild_any (so to : Option Addr) (n sc tn tc : Nat) (ss : List StD) (s : Nat) (w : World) (hn : n ≤ 9223372036854775807) (hs : StatesOf w so n ss) :
    Calls Try.prog 54 #[.agg #[.slice so n sc, .slice to tn tc], .int .i64 s] w fun e w' => e = .returned (.bool (decide (¬ kids ss ss.length s = []))) ∧ Below w.heap.size w w' := by
  have HL := hid hs.1
  go_enter Try.func54, Try.ntmps54
  go_wp2
  go_loopw [10] (fun i wr => ∃ k : Nat, k ≤ n ∧ i = .int .i64 k ∧ Hid (∀ j, j < k → ¬ par ss j = s) ∧ Below w.heap.size w wr) (fun i _ => n - (intOf i).toNat)
  case atStart => exact ⟨0, Nat.zero_le _, rfl, hid (fun j h => absurd h (by omega)), below1 _ _⟩
  case round =>
    obtain ⟨k, hk, rfl, HP, hb⟩ := hrel
    have HB := hid hb
    by_cases hlt : k < n
    · obtain ⟨b, off, rfl, hbl, hc⟩ := hs.2 (by omega)
      obtain ⟨k1, k2, ⟨co, cn, cc, k3, _, _⟩, ⟨do_, dn, dc, k4, _, _⟩⟩ := hc k hlt
      have k1 := (hb.cell (p := ⟨b, off + k * 4, none⟩) hbl).trans k1
      have k2 := (hb.cell (p := ⟨b, off + k * 4 + 1, none⟩) hbl).trans k2
      have k3 := (hb.cell (p := ⟨b, off + k * 4 + 2, none⟩) hbl).trans k3
      have k4 := (hb.cell (p := ⟨b, off + k * 4 + 3, none⟩) hbl).trans k4
      obtain ⟨pv, hpv⟩ : ∃ pv, pv = par ss k := ⟨_, rfl⟩
      have hpv' : (ss.getD k st0).parent = pv := hpv.symm
      rw [hpv'] at k1
      have EP := hid hpv
      have hz : w.heap.size ≤ wr.heap.size := hb.size
      clear hc hs hb hpv hpv'
      by_cases e : pv = (s : Int)
      · subst e
        go_wp2
        go_ret
        refine ⟨ret_bool ?_, HB.out.alloc hz _⟩
        symm
        rw [decide_eq_true_iff]
        intro h0
        have : k ∈ kids ss ss.length s := mem_kids.2 ⟨by rw [HL.out]; exact hlt, EP.out.symm⟩
        rw [h0] at this
        cases this
      · have e' : (pv == (s : Int)) = false := by simpa using e
        go_wp2
        go_roundw
        case rel =>
          refine ⟨k + 1, by omega, by go_num, hid (fun j hj => ?_), HB.out.alloc hz _⟩
          by_cases ej : j = k
          · subst ej; rw [← EP.out]; exact e
          · exact HP.out j (by omega)
        case measure => simp [intOf]; omega
    · have e : k = n := by omega
      subst e
      clear hs hb
      go_wp2
      go_ret
      refine ⟨ret_bool ?_, HB.out⟩
      symm
      rw [decide_eq_false_iff_not, Classical.not_not]
      rw [List.eq_nil_iff_forall_not_mem]
      intro x hx
      obtain ⟨h1, h2⟩ := mem_kids.1 hx
      exact HP.out x (by rw [← HL.out]; exact h1) h2

set_option maxHeartbeats 800000 in
theorem l2Depth_any (so to : Option Addr) (n sc tn tc : Nat) (ss : List StD) (T : TreeOK ss) (hn : n ≤ 200) : ∀ k : Nat, k < n → ∀ w, StatesOf w so n ss →
    Calls Try.prog 53 #[.agg #[.slice so n sc, .slice to tn tc], .int .i64 k] w fun e w' => e = .returned (.int .i64 (((up ss k).length : Int) - 1)) ∧ Below w.heap.size w w' := by
  intro k
  induction k using Nat.strongRecOn with
  | ind k ih =>
    intro hk w hs
    by_cases h0 : k = 0
    · subst h0
      clear ih hs
      go_enter Try.func53, Try.ntmps53
      go_wp2
      go_ret
      exact ⟨ret_int (by simp [up_zero]), below1 _ _⟩
    · have hl := hs.1
      have ht := T.2 k (by omega) (by omega)
      obtain ⟨p, hp⟩ : ∃ p : Nat, par ss k = p := ⟨(par ss k).toNat, by omega⟩
      have hpk : p < k := by omega
      have hlen := up_len T p (by omega)
      have E : Hid (((up ss k).length : Int) - 1 = ((up ss p).length : Int)) := hid (by
        rw [up_pos T (by omega) (by omega), hp, List.length_cons, Int.toNat_natCast]; omega)
      obtain ⟨b, off, rfl, hbl, hc⟩ := hs.2 (by omega)
      have k1 : w.cell? ⟨b, off + k * 4, none⟩ = some (.int .i64 (p : Int)) := by rw [← hp]; exact (hc k hk).1
      have k0 : (k : Int) < (n : Int) := by omega
      have kz : ((k : Int) == 0) = false := by simpa using h0
      obtain ⟨ob, hob⟩ : ∃ ob : Obj, ob = .cells #[.slice (some ⟨b, off, none⟩) n sc, .slice to tn tc] 32 := ⟨_, rfl⟩
      have hcell := cell_regrown (((below1 w ob).cell (p := ⟨b, off + k * 4, none⟩) hbl).trans k1)
      obtain ⟨c0, c1⟩ := two_cells (w := w.alloc (.cells #[.slice (some ⟨b, off, none⟩) n sc, .slice to tn tc] 32)) (H := w.heap.size) (heap_alloc_new w _)
      have q0 := cell_regrown c0
      have q1 := cell_regrown c1
      have cE : ∀ d os, Calls Try.prog 53 #[.agg #[.slice (some ⟨b, off, none⟩) n sc, .slice to tn tc], .int .i64 (p : Int)] (grow (redrawn (w.alloc ob) d) os) fun e w'' => e = .returned (.int .i64 (((up ss p).length : Int) - 1)) ∧ ∃ p : Regrown, w'' = grow (redrawn (w.alloc ob) p.d) p.os :=
        fun d os => Calls.regrown_of (ih p hpk (by omega) _ (hs.below ((below1 w ob).trans ((below_regrown _ d os).mono (by simp)))))
      subst hob
      obtain ⟨m, hm⟩ : ∃ m, m = ((up ss p).length : Int) := ⟨_, rfl⟩
      rw [← hm] at cE E
      have hm' : 0 ≤ m ∧ m ≤ 200 := by omega
      obtain ⟨m0, m1⟩ := hm'
      rw [E.out]
      clear ih hs hc k1 ht hp hlen hl c0 c1 hm
      go_enter Try.func53, Try.ntmps53
      go_wp2
      refine wp_region_quiet_below (by kernel_rfl) (by kernel_rfl) ?_
      repeat (any_goals (first | go_big_quiet_step (first | exact cE _ _) | quiet_step (first | exact cE _ _)))
      refine wpQuiet_nil ?_
      intro _ hw'
      obtain ⟨⟨dq, osq⟩, hw''⟩ := hw'
      subst hw''
      go_wp2
      go_ret
      exact ⟨ret_int (by omega), (below1 w _).trans ((below_regrown _ dq osq).mono (by simp))⟩
end Go.Proofs.Ytjeckanjekgkkaa
