import Derived.Test.YtiimkhepplkocaaGreatM1
import Derived.Deep.RegionHeld3
import Derived.Deep.AppendLies
namespace Go.Proofs.YtiimkhepplkocaaGreat
open Go.RowKit Go.Sort
attribute [local go_sem ↓] Go.wp_at_zero Go.wp_at_succ
def ints (l : List Nat) : List Value := l.map fun (x : Nat) => .int .i64 (x : Int)
theorem ints_len (l : List Nat) : (ints l).length = l.length := by simp [ints]
theorem ints_one (l : List Nat) : ∀ u ∈ ints l, u.oneCell' = true := by
 intro u hu
 simp only [ints, List.mem_map] at hu
 obtain ⟨x, _, rfl⟩ := hu
 rfl
theorem Tryz.info3 : (Tryz.prog.info? 3).map (fun i => (i.zero, i.size, i.bytes)) = some (some (.int .i64 0), 1, 8) := by kernel_rfl
def OwnI (w w' : World) (v : Value) (l : List Nat) : Prop := w'.ownsRow w.heap.size 3 1 v l.length (ints l)
set_option maxHeartbeats 800000 in
theorem l2HasChild_any (so to : Option Addr) (n sc tn tc : Nat) (ss : List StD) (s : Nat) (w : World) (hn : n ≤ 9223372036854775807) (hs : StatesOf w so n ss) :
  Calls Tryz.prog 49 #[.agg #[.slice so n sc, .slice to tn tc], .int .i64 s] w fun e w' => e = .returned (.bool (decide (¬ kids ss ss.length s = []))) ∧ Below w.heap.size w w' := by
 have HL := hid hs.1
 go_enter Tryz.func49, Tryz.ntmps49
 go_wp2
 go_loopw [10] (fun i wr => ∃ k : Nat, k ≤ n ∧ i = .int .i64 k ∧ Hid (∀ j, j < k → ¬ par ss j = s) ∧ Below w.heap.size w wr) (fun i _ => n - (intOf i).toNat)
 case atStart => exact ⟨0, Nat.zero_le _, rfl, hid (fun j h => absurd h (by omega)), below1 _ _⟩
 case round =>
  obtain ⟨k, hk, rfl, HP, hb⟩ := hrel
  have HB := hid hb
  by_cases hlt : k < n
  ·obtain ⟨b, off, rfl, hbl, hc⟩ := hs.2 (by omega)
   obtain ⟨k1, k2, ⟨co, cn, cc, k3, _, _⟩, ⟨do_, dn, dc, k4, _, _⟩⟩ := hc k hlt
   have k1 := (hb.cell (p := ⟨b, off + k * 4, none⟩) hbl).trans k1
   have k2 := (hb.cell (p := ⟨b, off + k * 4 + 1, none⟩) hbl).trans k2
   have k3 := (hb.cell (p := ⟨b, off + k * 4 + 2, none⟩) hbl).trans k3
   have k4 := (hb.cell (p := ⟨b, off + k * 4 + 3, none⟩) hbl).trans k4
   obtain ⟨pv, hpv⟩ : ∃ pv, pv = par ss k := ⟨_, rfl⟩
   have hpv' : (ss.getD k st0).parent = pv := hpv.symm
   rw [hpv'] at k1
   have EP := hid hpv
   have hz : w.heap.size ≤ wr.heap.size := hb.size
   clear hc hs hb hpv hpv'
   by_cases e : pv = (s : Int)
   ·subst e
    go_wp2
    go_ret
    refine ⟨ret_bool ?_, HB.out.alloc hz _⟩
    symm
    rw [decide_eq_true_iff]
    intro h0
    have : k ∈ kids ss ss.length s := mem_kids.2 ⟨by rw [HL.out]; exact hlt, EP.out.symm⟩
    rw [h0] at this
    cases this
   ·have e' : (pv == (s : Int)) = false := by simpa using e
    go_wp2
    go_roundw
    case rel =>
     refine ⟨k + 1, by omega, by go_num, hid (fun j hj => ?_), HB.out.alloc hz _⟩
     by_cases ej : j = k
     ·subst ej; rw [← EP.out]; exact e
     ·exact HP.out j (by omega)
    case measure => simp [intOf]; omega
  ·have e : k = n := by omega
   subst e
   clear hs hb
   go_wp2
   go_ret
   refine ⟨ret_bool ?_, HB.out⟩
   symm
   rw [decide_eq_false_iff_not, Classical.not_not]
   rw [List.eq_nil_iff_forall_not_mem]
   intro x hx
   obtain ⟨h1, h2⟩ := mem_kids.1 hx
   exact HP.out x (by rw [← HL.out]; exact h1) h2
set_option maxHeartbeats 800000 in
theorem l2Depth_any (so to : Option Addr) (n sc tn tc : Nat) (ss : List StD) (T : TreeOK ss) (hn : n ≤ 200) : ∀ k : Nat, k < n → ∀ w, StatesOf w so n ss →
  Calls Tryz.prog 145 #[.agg #[.slice so n sc, .slice to tn tc], .int .i64 k] w fun e w' => e = .returned (.int .i64 (((up ss k).length : Int) - 1)) ∧ Below w.heap.size w w' := by
 intro k
 induction k using Nat.strongRecOn with
 | ind k ih =>
  intro hk w hs
  by_cases h0 : k = 0
  ·subst h0
   clear ih hs
   go_enter Tryz.func145, Tryz.ntmps145
   go_wp2
   go_ret
   exact ⟨ret_int (by simp [up_zero]), below1 _ _⟩
  ·have hl := hs.1
   have ht := T.2 k (by omega) (by omega)
   obtain ⟨p, hp⟩ : ∃ p : Nat, par ss k = p := ⟨(par ss k).toNat, by omega⟩
   have hpk : p < k := by omega
   have hlen := up_len T p (by omega)
   have E : Hid (((up ss k).length : Int) - 1 = ((up ss p).length : Int)) := hid (by
    rw [up_pos T (by omega) (by omega), hp, List.length_cons, Int.toNat_natCast]; omega)
   obtain ⟨b, off, rfl, hbl, hc⟩ := hs.2 (by omega)
   have k1 : w.cell? ⟨b, off + k * 4, none⟩ = some (.int .i64 (p : Int)) := by rw [← hp]; exact (hc k hk).1
   have k0 : (k : Int) < (n : Int) := by omega
   have kz : ((k : Int) == 0) = false := by simpa using h0
   obtain ⟨ob, hob⟩ : ∃ ob : Obj, ob = .cells #[.slice (some ⟨b, off, none⟩) n sc, .slice to tn tc] 36 := ⟨_, rfl⟩
   have hcell := cell_regrown (((below1 w ob).cell (p := ⟨b, off + k * 4, none⟩) hbl).trans k1)
   obtain ⟨c0, c1⟩ := two_cells (w := w.alloc (.cells #[.slice (some ⟨b, off, none⟩) n sc, .slice to tn tc] 36)) (H := w.heap.size) (heap_alloc_new w _)
   have q0 := cell_regrown c0
   have q1 := cell_regrown c1
   have cE : ∀ d os, Calls Tryz.prog 145 #[.agg #[.slice (some ⟨b, off, none⟩) n sc, .slice to tn tc], .int .i64 (p : Int)] (grow (redrawn (w.alloc ob) d) os) fun e w'' => e = .returned (.int .i64 (((up ss p).length : Int) - 1)) ∧ ∃ p : Regrown, w'' = grow (redrawn (w.alloc ob) p.d) p.os :=
    fun d os => Calls.regrown_of (ih p hpk (by omega) _ (hs.below ((below1 w ob).trans ((below_regrown _ d os).mono (by simp)))))
   subst hob
   obtain ⟨m, hm⟩ : ∃ m, m = ((up ss p).length : Int) := ⟨_, rfl⟩
   rw [← hm] at cE E
   have hm' : 0 ≤ m ∧ m ≤ 200 := by omega
   obtain ⟨m0, m1⟩ := hm'
   rw [E.out]
   clear ih hs hc k1 ht hp hlen hl c0 c1 hm
   go_enter Tryz.func145, Tryz.ntmps145
   go_wp2
   refine wp_region_quiet_below (by kernel_rfl) (by kernel_rfl) ?_
   repeat (any_goals (first | go_big_quiet_step (first | exact cE _ _) | quiet_step (first | exact cE _ _)))
   refine wpQuiet_nil ?_
   intro _ hw'
   obtain ⟨⟨dq, osq⟩, hw''⟩ := hw'
   subst hw''
   go_wp2
   go_ret
   exact ⟨ret_int (by omega), (below1 w _).trans ((below_regrown _ dq osq).mono (by simp))⟩
end Go.Proofs.YtiimkhepplkocaaGreat
namespace Go.Proofs.YtiimkhepplkocaaGreat
open Go.RowKit Go.Sort
attribute [local go_sem ↓] Go.wp_at_zero Go.wp_at_succ
theorem lt_alloc (w : World) (o : Obj) : w.heap.size < (w.alloc o).heap.size := by simp
theorem ownI_alloc {w w' : World} {v : Value} {l : List Nat} (h : OwnI w w' v l) (o : Obj) : OwnI w (w'.alloc o) v l := World.ownsRow.alloc h o
theorem own_lit (w w1 : World) (x : Nat) (h : w.heap.size ≤ w1.heap.size) : (w1.alloc (.cells #[.int .i64 (x : Int)] 3)).ownsRow w.heap.size 3 1 (.slice (some ⟨w1.heap.size, 0, none⟩) 1 1) 1 [.int .i64 (x : Int)] :=
 World.ownsRow_lit w1 #[.int .i64 (x : Int)] 1 h (by unfold maxLen; omega) rfl
theorem undrew {B : Nat} {w w' : World} (h : Below B w.drew w') : Below B w w' := ⟨h.os, h.tape, h.output, h.size, h.block⟩
theorem grown_cell {w w' : World} {row : Option Nat} (h : w.grownBy w' row) {b o : Nat} (hb : b < w.heap.size) (hr : row ≠ some b) : w'.cell? ⟨b, o, none⟩ = w.cell? ⟨b, o, none⟩ := World.cell?_of_block (a := ⟨b, o, none⟩) (grown_block h hb hr)
theorem after_lit {w w1 : World} {lit : Obj} {a c : Value} {t : TypeId} (hb1 : Below ((w.alloc (.cells #[a, c] t)).alloc lit).drew.heap.size ((w.alloc (.cells #[a, c] t)).alloc lit).drew w1) :
  Below w.heap.size w w1 ∧ (w1.cell? ⟨w.heap.size, 0, none⟩ = some a ∧ w1.cell? ⟨w.heap.size, 1, none⟩ = some c) ∧ w.heap.size + 1 < w1.heap.size := by
 have h := (undrew hb1)
 have h2 : Below (w.alloc (.cells #[a, c] t)).heap.size (w.alloc (.cells #[a, c] t)) w1 := (below1 _ lit).trans (h.mono (by simp))
 exact ⟨(below1 _ _).trans (h2.mono (by simp)), two_cells (block_below (heap_alloc_new w _) h2), by have h := h.size; simp at h; omega⟩
theorem after_app {w w1 w2 : World} {H : Nat} (hgrow : w1.grownBy w2 (some H)) (hH : H = w.heap.size + 1) (Z1 : w.heap.size + 1 < w1.heap.size) {b o : Nat} (hbl : b < w.heap.size) {a c d : Value}
  (SX : w1.cell? ⟨w.heap.size, 0, none⟩ = some a ∧ w1.cell? ⟨w.heap.size, 1, none⟩ = some c ∧ w1.cell? ⟨b, o, none⟩ = some d) (B1 : Below w.heap.size w w1) :
  (w2.cell? ⟨w.heap.size, 0, none⟩ = some a ∧ w2.cell? ⟨w.heap.size, 1, none⟩ = some c ∧ w2.cell? ⟨b, o, none⟩ = some d) ∧ Below w.heap.size w w2 := by
 subst hH
 have h1 : ∀ q, q < w.heap.size + 1 → ∀ o, w2.cell? ⟨q, o, none⟩ = w1.cell? ⟨q, o, none⟩ := fun q hq o => grown_cell hgrow (by omega) (by simp; omega)
 exact ⟨⟨(h1 _ (by omega) _).trans SX.1, (h1 _ (by omega) _).trans SX.2.1, (h1 _ (by omega) _).trans SX.2.2⟩, B1.grown hgrow B1.size (fun kk e => by simp at e; omega)⟩
theorem after_box {w w1 : World} {a c : Value} {t : TypeId} (hb1 : Below (w.alloc (.cells #[a, c] t)).drew.heap.size (w.alloc (.cells #[a, c] t)).drew w1) :
  Below w.heap.size w w1 ∧ (w1.cell? ⟨w.heap.size, 0, none⟩ = some a ∧ w1.cell? ⟨w.heap.size, 1, none⟩ = some c) ∧ w.heap.size < w1.heap.size := by
 have h2 := undrew hb1
 exact ⟨(below1 _ _).trans (h2.mono (by simp)), two_cells (block_below (heap_alloc_new w _) h2), by have h := h2.size; simp at h; omega⟩
theorem after_app2 {w w1 w2 : World} {lit : Obj} (hgrow : (w1.alloc lit).grownBy w2 (some w1.heap.size)) (Z1 : w.heap.size < w1.heap.size) {b o : Nat} (hbl : b < w.heap.size) {a c d : Value}
  (SX : w1.cell? ⟨w.heap.size, 0, none⟩ = some a ∧ w1.cell? ⟨w.heap.size, 1, none⟩ = some c ∧ w1.cell? ⟨b, o, none⟩ = some d) (B1 : Below w.heap.size w w1) :
  (w2.cell? ⟨w.heap.size, 0, none⟩ = some a ∧ w2.cell? ⟨w.heap.size, 1, none⟩ = some c ∧ w2.cell? ⟨b, o, none⟩ = some d) ∧ Below w.heap.size w w2 := by
 have h1 : ∀ q, q < w.heap.size + 1 → ∀ o, w2.cell? ⟨q, o, none⟩ = w1.cell? ⟨q, o, none⟩ := fun q hq o => (grown_cell hgrow (by simp; omega) (by simp; omega)).trans ((below1 w1 lit).cell (p := ⟨q, o, none⟩) (show q < w1.heap.size by omega))
 have B2 : Below w.heap.size w (w1.alloc lit) := B1.alloc (by omega) _
 exact ⟨⟨(h1 _ (by omega) _).trans SX.1, (h1 _ (by omega) _).trans SX.2.1, (h1 _ (by omega) _).trans SX.2.2⟩, B2.grown hgrow B2.size (fun kk e => by simp at e; omega)⟩
set_option maxRecDepth 100000 in
set_option maxHeartbeats 3200000 in
theorem l2Up_any (so to : Option Addr) (n sc tn tc : Nat) (ss : List StD) (T : TreeOK ss) (hn : n ≤ 200) : ∀ k : Nat, k < n → ∀ w, StatesOf w so n ss →
  Calls Tryz.prog 109 #[.agg #[.slice so n sc, .slice to tn tc], .int .i64 k] w fun e w' => ∃ g cap, e = .returned (.slice (some ⟨g, 0, none⟩) (up ss k).length cap) ∧ OwnI w w' (.slice (some ⟨g, 0, none⟩) (up ss k).length cap) (up ss k) ∧ (k = 0 → cap = 1) ∧ Below w.heap.size w w' := by
 intro k
 induction k using Nat.strongRecOn with
 | ind k ih =>
  intro hk w hs
  by_cases h0 : k = 0
  ·subst h0
   clear ih hs
   rw [up_zero]
   go_enter Tryz.func109, Tryz.ntmps109
   go_wp2
   go_ret
   exact ⟨_, _, rfl, by simpa [OwnI, ints] using own_lit w (w.alloc (.cells #[.slice so n sc, .slice to tn tc] 36)) 0 (by simp), fun _ => rfl, below2 _ _ _⟩
  ·have hl := hs.1
   have ht := T.2 k (by omega) (by omega)
   obtain ⟨p, hp⟩ : ∃ p : Nat, par ss k = p := ⟨(par ss k).toNat, by omega⟩
   have hpk : p < k := by omega
   have hlen := up_len T p (by omega)
   have hpos : 0 < (up ss p).length := by rw [up_form T (k := p) (by omega)]; simp
   have E : Hid (up ss k = [k] ++ up ss p) := hid (by rw [up_pos T (by omega) (by omega), hp, Int.toNat_natCast]; rfl)
   obtain ⟨b, off, rfl, hbl, hc⟩ := hs.2 (by omega)
   have k1 : w.cell? ⟨b, off + k * 4, none⟩ = some (.int .i64 (p : Int)) := by rw [← hp]; exact (hc k hk).1
   have k00 : (0 : Int) ≤ (k : Int) := by omega
   have k0 : (k : Int) < (n : Int) := by omega
   have kz : ((k : Int) == 0) = false := by simpa using h0
   have C := hid (fun w hw => ih p hpk (by omega) w hw)
   have HS : Hid (∀ w', Below w.heap.size w w' → StatesOf w' (some ⟨b, off, none⟩) n ss) := fun w' h => hs.below h
   have m0 : 0 < (up ss p).length := hpos
   have NL : Hid ((ints (up ss p)).length = (up ss p).length * 1) := hid (by rw [ints_len]; omega)
   have NO := hid (ints_one (up ss p))
   have m1 : (up ss p).length ≤ 200 := by omega
   have F63 : Hid (1 + (up ss p).length ≤ maxLen ∧ (1 + (up ss p).length) * 8 ≤ 140737488355328) := hid (by unfold maxLen; omega)
   have E2 : Hid ((up ss k).length = 1 + (up ss p).length ∧ ints (up ss k) = [.int .i64 (k : Int)] ++ ints (up ss p)) := hid (by rw [E.out]; constructor <;> simp [ints]; omega)
   have nb := World.new_ne w ⟨b, off + k * 4, none⟩ k1
   obtain ⟨i0, hi0, hz0, hz1, hz2⟩ := info_parts Tryz.info3
   obtain ⟨ob, hob⟩ : ∃ ob : Obj, ob = .cells #[.slice (some ⟨b, off, none⟩) n sc, .slice to tn tc] 36 := ⟨_, rfl⟩
   have OL := hid (own_lit w (w.alloc ob) k (by simp))
   rw [hob] at OL
   clear ih hs hc ht hp hlen hl hpk hob
   go_enter Tryz.func109, Tryz.ntmps109
   go_wp2_with fail
   go_region_held3 (fun w' => w'.cell? ⟨w.heap.size, 0, none⟩ = some (.slice (some ⟨b, off, none⟩) n sc) ∧ w'.cell? ⟨w.heap.size, 1, none⟩ = some (.slice to tn tc) ∧ w'.cell? ⟨b, off + k * 4, none⟩ = some (.int .i64 (p : Int))) (first | go_keep | exact SY.out | exact SX.out)
    (first
     | (go_at_call 109; refine (C.out _ (HS.out _ (below2 _ _ _).drew)).mono ?_; rintro e w1 ⟨g, cap, rfl, ho, _, hb1⟩; have O1 := hid ho; have O9 := hid (ownsRow_below OL.out (undrew hb1)); have AF := after_lit hb1; have Z1 := hid AF.2.2; have B1 := hid AF.1; have SX := hid (And.intro AF.2.1.1 (And.intro AF.2.1.2 ((AF.1.cell (p := ⟨b, off + k * 4, none⟩) hbl).trans k1))); clear ho hb1 AF)
     | (go_at_call 109; refine (C.out _ (HS.out _ (below1 _ _).drew)).mono ?_; rintro e w1 ⟨g, cap, rfl, ho, _, hb1⟩; have O1 := hid ho; have AF := after_box hb1; have Z1 := hid AF.2.2; have B1 := hid AF.1; have SX := hid (And.intro AF.2.1.1 (And.intro AF.2.1.2 ((AF.1.cell (p := ⟨b, off + k * 4, none⟩) hbl).trans k1))); clear ho hb1 AF)
     | (refine step_append_lies _ (by rfl) _ _ _ (by rfl) w.heap.size 3 i0 _ 1 8 Tryz.underlying30 hi0 hz0 hz1 hz2 rfl (by omega) (.slice (some ⟨(w.alloc (.cells #[.slice (some ⟨b, off, none⟩) n sc, .slice to tn tc] 36)).heap.size, 0, none⟩) 1 1) 1 [.int .i64 (k : Int)] (by simp [Act.eval]) O9.out ⟨g, 0, none⟩ (up ss p).length cap (ints (up ss p)) (by simp [Act.eval]) NL.out (World.ownsRow.cells O1.out rfl) NO.out m0 F63.out.1 F63.out.2 B1.out.size w1.heap.size rfl ?_; intro gg cap' w2 hown1 hgrow hat hlt; have AP := after_app (H := (w.alloc (.cells #[.slice (some ⟨b, off, none⟩) n sc, .slice to tn tc] 36)).heap.size) hgrow (World.size_alloc _ _) Z1.out hbl SX.out B1.out; have SY := hid AP.1; have B2 := hid AP.2; have O2 := hid hown1; clear AP hown1 hgrow hat)
     | (refine step_append_lies _ (by rfl) _ _ _ (by rfl) w.heap.size 3 i0 _ 1 8 Tryz.underlying30 hi0 hz0 hz1 hz2 rfl (by omega) (.slice (some ⟨w1.heap.size, 0, none⟩) 1 1) 1 [.int .i64 (k : Int)] (by simp [Act.eval]) (own_lit w w1 k B1.out.size) ⟨g, 0, none⟩ (up ss p).length cap (ints (up ss p)) (by simp [Act.eval]) NL.out (World.ownsRow.cells (ownI_alloc O1.out _) rfl) NO.out m0 F63.out.1 F63.out.2 (Nat.le_trans B1.out.size (Nat.le_of_lt (lt_alloc _ _))) (w1.heap.size + 1) (World.size_alloc _ _) ?_; intro gg cap' w2 hown1 hgrow hat hlt; have AP := after_app2 hgrow Z1.out hbl SX.out B1.out; have SY := hid AP.1; have B2 := hid AP.2; have O2 := hid hown1; clear AP hown1 hgrow hat)
     )
   all_goals
    go_wp2
    go_ret
    refine ⟨gg, cap', by rw [E2.out.1]; rfl, ?_, fun h => absurd h h0, B2.out⟩
    unfold OwnI
    rw [E2.out.1, E2.out.2]
    exact O2.out
end Go.Proofs.YtiimkhepplkocaaGreat
namespace Go.Proofs.YtiimkhepplkocaaGreat
open Go.RowKit Go.Sort
attribute [local go_sem ↓] Go.wp_at_zero Go.wp_at_succ
theorem ownI_cells {w w' : World} {g n cap : Nat} {l : List Nat} (h : OwnI w w' (.slice (some ⟨g, 0, none⟩) n cap) l) (hn : n = l.length) : g < w'.heap.size ∧ n ≤ cap ∧ ∀ j, j < n → w'.cell? ⟨g, j, none⟩ = some (.int .i64 ((l.getD j 0 : Nat) : Int)) := by
 subst hn
 unfold OwnI at h
 rcases h.2 with ⟨h0, _⟩ | ⟨g', cap', cur, e, _, hb, hcap, _⟩
 ·simp at h0
 ·simp at e
  obtain ⟨rfl, rfl⟩ := e
  refine ⟨lt_of_block hb, hcap, fun j hj => ?_⟩
  rw [h.cellAt j (by omega)]
  simp [ints, List.getD_eq_getElem?_getD, hj]
theorem below_two {w w1 : World} {a c : Value} {t : TypeId} (hb1 : Below (w.alloc (.cells #[a, c] t)).heap.size (w.alloc (.cells #[a, c] t)) w1) :
  Below w.heap.size w w1 ∧ w1.heap[w.heap.size]? = some (.cells #[a, c] t (0, 0)) :=
 ⟨(below1 _ _).trans (hb1.mono (by simp)), block_below (heap_alloc_new w _) hb1⟩
set_option maxHeartbeats 800000 in
theorem l2Above_any (so to : Option Addr) (n sc tn tc : Nat) (ss : List StD) (T : TreeOK ss) (hn : n ≤ 200) (a k : Nat) (hk : k < n) (w : World) (hs : StatesOf w so n ss) :
  Calls Tryz.prog 111 #[.agg #[.slice so n sc, .slice to tn tc], .int .i64 a, .int .i64 k] w fun e w' => e = .returned (.bool (aboveB ss a k)) ∧ Below w.heap.size w w' := by
 have C := hid (l2Up_any so to n sc tn tc ss T hn k hk (w.alloc (.cells #[.slice so n sc, .slice to tn tc] 36)) (hs.below (below1 _ _)))
 have hl := hs.1
 by_cases h0 : k = 0
 ·subst h0
  have E : Hid (aboveB ss a 0 = false) := hid (by simp [aboveB, up_zero])
  rw [E.out]
  rw [up_zero] at C
  clear hs hl
  go_enter Tryz.func111, Tryz.ntmps111
  go_wp2_with (go_at_call 109; refine C.out.mono ?_; rintro e w1 ⟨g, cap, rfl, ho, hcap, hb1⟩; obtain rfl := hcap rfl; have B1 := hid (below_two hb1); clear ho hb1)
  go_loopw [14] (fun i wr => i = .int .i64 0 ∧ wr = w1) (fun _ _ => 0)
  case atStart => exact ⟨rfl, rfl⟩
  case round =>
   obtain ⟨rfl, rfl⟩ := hrel
   go_wp2
   go_ret
   exact ⟨rfl, B1.out.1⟩
 ·obtain ⟨l, hll⟩ : ∃ l, (up ss k).length = l + 1 := ⟨(up ss k).length - 1, by rw [up_form T (k := k) (by omega)]; simp⟩
  have htl : (up ss k).tail.length = l := by simp [hll]
  have hl1 : 1 ≤ l := by
   rw [up_tail T (by omega) (by omega)] at htl
   have ht := T.2 k (by omega) (by omega)
   rw [up_form T (by omega)] at htl
   simp at htl
   omega
  have hl2 : l ≤ 200 := by have := up_len T k (by omega); omega
  have htg : ∀ j, (up ss k).tail.getD j 0 = (up ss k).getD (1 + j) 0 := by
   intro j
   rw [up_form T (k := k) (by omega)]
   simp [List.getD_eq_getElem?_getD, Nat.add_comm]
  have C2 : Hid (Calls Tryz.prog 109 #[.agg #[.slice so n sc, .slice to tn tc], .int .i64 k] (w.alloc (.cells #[.slice so n sc, .slice to tn tc] 36)) fun e w' => ∃ g cap, e = .returned (.slice (some ⟨g, 0, none⟩) (l + 1) cap) ∧ l + 1 ≤ cap ∧ (∀ j, j < l → w'.cell? ⟨g, 1 + j, none⟩ = some (.int .i64 (((up ss k).tail.getD j 0 : Nat) : Int))) ∧ Below w.heap.size w w') := by
   refine hid (C.out.mono ?_)
   rintro e w1 ⟨g, cap, rfl, ho, _, hb1⟩
   obtain ⟨_, h2, h3⟩ := ownI_cells ho rfl
   rw [hll] at h2 h3
   exact ⟨g, cap, by rw [hll], h2, fun j hj => by rw [h3 (1 + j) (by omega), htg], (below_two hb1).1⟩
  have HT := hid htl
  clear C hs hl hll htl htg
  go_enter Tryz.func111, Tryz.ntmps111
  go_wp2_with (go_at_call 109; refine C2.out.mono ?_; rintro e w1 ⟨g, cap, rfl, hcap, hc, hb1⟩; have B1 := hid hb1; have CC := hid hc; have hcap1 : ¬ cap = 1 := (by omega); have hci : (1 : Int) ≤ (cap : Int) := (by omega); clear hc hb1)
  go_loopw [14] (fun i wr => (∃ j : Nat, j ≤ l ∧ i = .int .i64 j ∧ Hid (∀ q, q < j → ¬ (up ss k).tail.getD q 0 = a)) ∧ wr = w1) (fun i _ => l - (intOf i).toNat)
  case atStart => exact ⟨⟨0, Nat.zero_le _, rfl, hid (fun q h => absurd h (by omega))⟩, rfl⟩
  case round =>
   obtain ⟨⟨j, hj, rfl, HP⟩, rfl⟩ := hrel
   by_cases hlt : j < l
   ·obtain ⟨x, hx⟩ : ∃ x, x = (up ss k).tail.getD j 0 := ⟨_, rfl⟩
    have hc := CC.out j hlt
    rw [← hx] at hc
    have HX := hid hx
    clear hx
    by_cases e : x = a
    ·subst e
     go_wp2
     go_ret
     refine ⟨ret_bool ?_, B1.out⟩
     symm
     unfold aboveB
     rw [decide_eq_true_iff]
     rw [HX.out, List.getD_eq_getElem?_getD, List.getElem?_eq_getElem (by rw [HT.out]; exact hlt)]
     exact List.getElem_mem _
    ·have e' : ((x : Int) == (a : Int)) = false := by simp; omega
     go_wp2
     go_roundw
     case rel =>
      refine ⟨⟨j + 1, by omega, by go_num, hid (fun q hq => ?_)⟩, by first | rfl | trivial⟩
      by_cases ej : q = j
      ·subst ej; rw [← HX.out]; exact e
      ·exact HP.out q (by omega)
     case measure => simp [intOf]; omega
   ·have e : j = l := by omega
    subst e
    go_wp2
    go_ret
    refine ⟨ret_bool ?_, B1.out⟩
    symm
    unfold aboveB
    rw [decide_eq_false_iff_not]
    intro hm
    obtain ⟨q, hq, e⟩ := List.getElem_of_mem hm
    exact HP.out q (by rw [← HT.out]; exact hq) (by rw [List.getD_eq_getElem?_getD, List.getElem?_eq_getElem hq]; exact e)
set_option maxHeartbeats 800000 in
theorem l2Domain_any (so to : Option Addr) (n sc tn tc : Nat) (ss : List StD) (T : TreeOK ss) (hn : n ≤ 200) (f t : Nat) (hf : f < n) (ht : t < n) (w : World) (hs : StatesOf w so n ss) :
  Calls Tryz.prog 110 #[.agg #[.slice so n sc, .slice to tn tc], .int .i64 f, .int .i64 t] w fun e w' => e = .returned (.int .i64 (dom ss f t)) ∧ Below w.heap.size w w' := by
 have HS : Hid (∀ w', Below w.heap.size w w' → StatesOf w' so n ss) := fun w' h => hs.below h
 have HL := hid hs.1
 clear hs
 go_enter Tryz.func110, Tryz.ntmps110
 go_wp2
 go_loopw [7, 12] (fun bv i wr => ∃ k : Nat, k ≤ n ∧ i = .int .i64 k ∧ bv = .int .i64 (lastB (fun s => aboveB ss s f && aboveB ss s t) k) ∧ wr.heap[w.heap.size]? = some (.cells #[.slice so n sc, .slice to tn tc] 36 (0, 0)) ∧ Below w.heap.size w wr) (fun _ i _ => n - (intOf i).toNat)
 case atStart => exact ⟨0, Nat.zero_le _, rfl, rfl, heap_alloc_new _ _, below1 _ _⟩
 case round =>
  obtain ⟨k, hk, rfl, rfl, hq, hb⟩ := hrel
  have HB := hid hb
  have HQ := hid hq
  obtain ⟨q0, q1⟩ := two_cells hq
  clear hq
  by_cases hlt : k < n
  ·have C1 := hid (fun w hw => l2Above_any so to n sc tn tc ss T hn k f hf w hw)
   have C2 := hid (fun w hw => l2Above_any so to n sc tn tc ss T hn k t ht w hw)
   obtain ⟨b1, hb1⟩ : ∃ b1, b1 = aboveB ss k f := ⟨_, rfl⟩
   obtain ⟨b2, hb2⟩ : ∃ b2, b2 = aboveB ss k t := ⟨_, rfl⟩
   obtain ⟨lb, hlb⟩ : ∃ lb, lb = lastB (fun s => aboveB ss s f && aboveB ss s t) k := ⟨_, rfl⟩
   have E : Hid (lastB (fun s => aboveB ss s f && aboveB ss s t) (k + 1) = if (b1 && b2) = true then (k : Int) else lb) := hid (by rw [hb1, hb2, hlb]; rfl)
   rw [← hb1] at C1
   rw [← hb2] at C2
   rw [← hlb]
   have S1 := hid (HS.out _ hb)
   have W1 : Hid (∀ w1, Below wr.heap.size wr w1 → Below w.heap.size w w1 ∧ w1.heap[w.heap.size]? = some (.cells #[.slice so n sc, .slice to tn tc] 36 (0, 0))) := hid (fun w1 h => ⟨HB.out.trans (h.mono HB.out.size), block_below HQ.out h⟩)
   clear hb hb1 hb2 hlb
   cases b1 with
   | false =>
    go_wp2_with (go_at_call_of 111 (Value.int .i64 (f : Int)); refine (C1.out _ S1.out).mono ?_; rintro e w1 ⟨rfl, hb1⟩; have V1 := hid (W1.out _ hb1); obtain ⟨p0, p1⟩ := two_cells V1.out.2; clear hb1)
    go_roundw
    case rel => exact ⟨k + 1, by omega, by go_num, by rw [E.out]; rfl, V1.out.2, V1.out.1⟩
    case measure => simp [intOf]; omega
   | true =>
    cases b2 with
    | false =>
     go_wp2_with (first | (go_at_call_of 111 (Value.int .i64 (f : Int)); refine (C1.out _ S1.out).mono ?_; rintro e w1 ⟨rfl, hb1⟩; have V1 := hid (W1.out _ hb1); obtain ⟨p0, p1⟩ := two_cells V1.out.2; have Y1 := hid hb1; clear hb1) | (go_at_call_of 111 (Value.int .i64 (t : Int)); refine (C2.out _ (HS.out _ V1.out.1)).mono ?_; rintro e w2 ⟨rfl, hb2⟩; have V2 := hid (W1.out _ (Y1.out.trans (hb2.mono Y1.out.size))); obtain ⟨r0, r1⟩ := two_cells V2.out.2; clear hb2))
     go_roundw
     case rel => exact ⟨k + 1, by omega, by go_num, by rw [E.out]; rfl, V2.out.2, V2.out.1⟩
     case measure => simp [intOf]; omega
    | true =>
     go_wp2_with (first | (go_at_call_of 111 (Value.int .i64 (f : Int)); refine (C1.out _ S1.out).mono ?_; rintro e w1 ⟨rfl, hb1⟩; have V1 := hid (W1.out _ hb1); obtain ⟨p0, p1⟩ := two_cells V1.out.2; have Y1 := hid hb1; clear hb1) | (go_at_call_of 111 (Value.int .i64 (t : Int)); refine (C2.out _ (HS.out _ V1.out.1)).mono ?_; rintro e w2 ⟨rfl, hb2⟩; have V2 := hid (W1.out _ (Y1.out.trans (hb2.mono Y1.out.size))); obtain ⟨r0, r1⟩ := two_cells V2.out.2; clear hb2))
     go_roundw
     case rel => exact ⟨k + 1, by omega, by go_num, by rw [E.out]; rfl, V2.out.2, V2.out.1⟩
     case measure => simp [intOf]; omega
  ·have e : k = n := by omega
   subst e
   clear hb
   go_wp2
   go_ret
   exact ⟨ret_int (by unfold dom; rw [HL.out]), HB.out⟩
end Go.Proofs.YtiimkhepplkocaaGreat
namespace Go.Proofs.YtiimkhepplkocaaGreat
open Go.RowKit Go.Sort
attribute [local go_sem ↓] Go.wp_at_zero Go.wp_at_succ
set_option maxHeartbeats 800000 in
theorem l2Down_any (so to : Option Addr) (n sc tn tc : Nat) (ss : List StD) (G : GoodT ss tn) : ∀ d k : Nat, k < n → n - k = d → ∀ w, StatesOf w so n ss →
  Calls Tryz.prog 52 #[.agg #[.slice so n sc, .slice to tn tc], .int .i64 k] w fun e w' => ∃ g cap, e = .returned (.slice (some ⟨g, 0, none⟩) (down ss k).length cap) ∧ OwnI w w' (.slice (some ⟨g, 0, none⟩) (down ss k).length cap) (down ss k) ∧ Below w.heap.size w w' := by
 intro d
 induction d using Nat.strongRecOn with
 | ind d ih =>
  intro k hk hd w hs
  have hl := hs.1
  have hn : n ≤ 200 := by have := G.n2; omega
  obtain ⟨b, off, rfl, hbl, hc⟩ := hs.2 (by omega)
  have k2 : w.cell? ⟨b, off + k * 4 + 1, none⟩ = some (.int .i64 (ini ss k)) := (hc k hk).2.1
  have k0 : (k : Int) < (n : Int) := by omega
  by_cases h0 : ini ss k < 0
  ·have E : Hid (down ss k = []) := hid (down_leaf h0)
   rw [E.out]
   obtain ⟨iv, hiv⟩ : ∃ iv, iv = ini ss k := ⟨_, rfl⟩
   rw [← hiv] at k2 h0
   clear ih hs hc hiv
   go_enter Tryz.func52, Tryz.ntmps52
   go_wp2
   go_ret
   refine ⟨_, _, rfl, ?_, below2 _ _ _⟩
   have := World.ownsRow_lit (base := w.heap.size) (e := 3) (size := 1) (w.alloc (.cells #[.slice (some ⟨b, off, none⟩) n sc, .slice to tn tc] 36)) #[] 0 (by simp) (by unfold maxLen; omega) rfl
   simpa [OwnI, ints] using this
  ·rcases ini_good G (k := k) (by omega) with e | ⟨h1, h2⟩
   ·omega
   obtain ⟨p, hp⟩ : ∃ p : Nat, ini ss k = p := ⟨(ini ss k).toNat, by omega⟩
   have hlen := down_len G (n - p) p (by omega) (by omega)
   have E : Hid (down ss k = [p] ++ down ss p) := hid (by rw [down_in G (by omega) h0, hp, Int.toNat_natCast]; rfl)
   have E2 : Hid ((down ss k).length = 1 + (down ss p).length ∧ ints (down ss k) = [.int .i64 (p : Int)] ++ ints (down ss p)) := hid (by rw [E.out]; constructor <;> simp [ints]; omega)
   have NL : Hid ((ints (down ss p)).length = (down ss p).length * 1) := hid (by rw [ints_len]; omega)
   have NO := hid (ints_one (down ss p))
   have F63 : Hid (1 + (down ss p).length ≤ maxLen ∧ (1 + (down ss p).length) * 8 ≤ 140737488355328) := hid (by unfold maxLen; omega)
   have HS : Hid (∀ w', Below w.heap.size w w' → StatesOf w' (some ⟨b, off, none⟩) n ss) := fun w' h => hs.below h
   have C := hid (fun w hw => ih (n - p) (by omega) p (by omega) rfl w hw)
   have OL := hid (own_lit w (w.alloc (.cells #[.slice (some ⟨b, off, none⟩) n sc, .slice to tn tc] 36)) p (by simp))
   obtain ⟨i0, hi0, hz0, hz1, hz2⟩ := info_parts Tryz.info3
   have hnn : ¬ (p : Int) < 0 := by omega
   rw [hp] at k2
   clear ih hs hc h0 h1 h2 hp hlen
   go_enter Tryz.func52, Tryz.ntmps52
   go_wp2_with (first | (go_at_call 52; refine (C.out _ (HS.out _ (below2 _ _ _))).mono ?_; rintro e w1 ⟨g, cap, rfl, ho, hb1⟩; have O1 := hid ho; have O9 := hid (ownsRow_below OL.out hb1); have B1 := hid ((below2 _ _ _).trans (hb1.mono (by simp; omega))); clear ho hb1) | (at_builtin; refine wpList_append_own _ rfl (.tmp 16) (.tmp 19) 30 rfl w.heap.size 3 i0 _ 1 8 Tryz.underlying30 hi0 hz0 hz1 hz2 rfl (by decide) (.slice (some ⟨w.heap.size + 1, 0, none⟩) 1 1) 1 [.int .i64 (p : Int)] rfl (by simpa using O9.out) ⟨g, 0, none⟩ (down ss p).length cap (ints (down ss p)) rfl NL.out (World.ownsRow.cells O1.out rfl) NO.out F63.out.1 F63.out.2 B1.out.size ?_))
   intro v' w2 hown hgrow _
   obtain ⟨gg, cap', rfl, _, _⟩ := World.ownsRow.form hown (by omega)
   have O2 := hid hown
   have B2 := hid (B1.out.grown hgrow B1.out.size (fun kk e => by simp [Value.ownBlock] at e; omega))
   clear hown hgrow
   go_wp2
   go_ret
   refine ⟨gg, cap', by rw [E2.out.1]; rfl, ?_, B2.out⟩
   unfold OwnI
   rw [E2.out.1, E2.out.2]
   exact O2.out
end Go.Proofs.YtiimkhepplkocaaGreat
namespace Go.Proofs.YtiimkhepplkocaaGreat
open Go.RowKit Go.Sort
attribute [local go_sem ↓] Go.wp_at_zero Go.wp_at_succ
theorem badP_pos {ss : List StD} {k : Nat} (h0 : ¬ k = 0) : badP ss k = !(betB (par ss k) 0 ((k : Int) - 1)) := by
 unfold badP betB
 rw [if_neg h0, Bool.eq_iff_iff]
 simp
 omega
def CntOK (ss : List StD) (tn : Nat) (lim : Bool) : Prop := 1 ≤ ss.length ∧ ss.length ≤ 200 ∧ tn ≤ 500 ∧ lim = true
theorem after_state {w wr w1 : World} {ob cb : Obj} (HB : Below w.heap.size w wr) (HQ : wr.heap[w.heap.size]? = some cb) (hb1 : Below (wr.alloc ob).heap.size (wr.alloc ob) w1) :
  Below w.heap.size w w1 ∧ w1.heap[w.heap.size]? = some cb ∧ w1.heap[wr.heap.size]? = some ob :=
 ⟨(HB.alloc HB.size ob).trans (hb1.mono (by simp; have := HB.size; omega)), block_below ((heap_alloc_old _ _ (lt_of_block HQ)).trans HQ) hb1, block_below (heap_alloc_new wr ob) hb1⟩
theorem badI_no {ss : List StD} {i : Nat} (h : kids ss ss.length i = []) : badI ss i = !(decide (ini ss i = -1)) := by unfold badI; rw [if_pos h]
theorem badI_yes {ss : List StD} {i : Nat} (h : ¬ kids ss ss.length i = []) : badI ss i = !(decide (0 ≤ ini ss i ∧ ini ss i < ss.length ∧ par ss (ini ss i).toNat = i)) := by unfold badI; rw [if_neg h]
set_option maxHeartbeats 3200000 in
theorem l2TreeFault_any (so to : Option Addr) (n sc tn tc : Nat) (ss : List StD) (o s t v : Int) (w : World) (hn : n ≤ 9223372036854775807) (htn : tn ≤ 9223372036854775807) (hs : StatesOf w so n ss) :
  Calls Tryz.prog 106 #[.agg #[.slice so n sc, .slice to tn tc], .agg #[.int .i64 o, .int .i64 s, .int .i64 t, .int .i64 v]] w fun e w' => e = .returned (.tuple #[.int .i64 (faultOf ss tn (limB ⟨o, s, t, v⟩)).1, .int .i64 (faultOf ss tn (limB ⟨o, s, t, v⟩)).2]) ∧ Below w.heap.size w w' := by
 have HL := hid hs.1
 have HS : Hid (∀ w', Below w.heap.size w w' → StatesOf w' so n ss) := fun w' h => hs.below h
 obtain ⟨b1, hb1⟩ : ∃ b, b = betB n 1 200 := ⟨_, rfl⟩
 obtain ⟨b3, hb3⟩ : ∃ b, b = limB ⟨o, s, t, v⟩ := ⟨_, rfl⟩
 have C1 := hid (l1Between_of n 1 200 b1 hb1)
 have C3 : Hid (∀ w, Calls Tryz.prog 144 #[.agg #[.int .i64 o, .int .i64 s, .int .i64 t, .int .i64 v]] w fun e w' => e = .returned (.bool b3) ∧ Below w.heap.size w w') := hid (by rw [hb3]; exact l1LimOK_any o s t v)
 rw [← hb3]
 have H1 : Hid (b1 = true ↔ 1 ≤ n ∧ n ≤ 200) := hid (by rw [hb1]; unfold betB; rw [decide_eq_true_iff]; omega)
 clear hb1 hb3
 cases b1 with
 | false =>
  have E : Hid (faultOf ss tn b3 = (1, 0)) := hid (fault_count (by intro h; have := H1.out.2 (by rw [HL.out] at h; exact ⟨h.1, h.2.1⟩); cases this))
  rw [E.out]
  clear hs
  go_enter Tryz.func106, Tryz.ntmps106
  go_wp2_with (go_at_call 55; refine (C1.out _).mono ?_; rintro e w1 ⟨rfl, hw⟩; obtain rfl := hw.symm)
  go_ret2
  exact ⟨rfl, below2 _ _ _⟩
 | true =>
  obtain ⟨n1, n2⟩ := H1.out.1 rfl
  by_cases h500 : tn ≤ 500
  case neg =>
   have g5 : (500 : Int) < (tn : Int) := by omega
   have E : Hid (faultOf ss tn b3 = (1, 0)) := hid (fault_count (by intro h; omega))
   rw [E.out]
   clear hs
   go_enter Tryz.func106, Tryz.ntmps106
   go_wp2_with (go_at_call 55; refine (C1.out _).mono ?_; rintro e w1 ⟨rfl, hw⟩; obtain rfl := hw.symm)
   go_ret2
   exact ⟨rfl, below2 _ _ _⟩
  have g5 : ¬ (500 : Int) < (tn : Int) := by omega
  have g5' : decide ((500 : Int) < (tn : Int)) = false := by simpa using g5
  cases b3 with
  | false =>
   have E : Hid (faultOf ss tn false = (1, 0)) := hid (fault_count (by intro h; cases h.2.2.2))
   rw [E.out]
   clear hs
   go_enter Tryz.func106, Tryz.ntmps106
   go_wp2_with (first | (go_at_call 55; refine (C1.out _).mono ?_; rintro e w1 ⟨rfl, hw⟩; obtain rfl := hw.symm) | (go_at_call 144; refine (C3.out _).mono ?_; rintro e w1 ⟨rfl, hb⟩; have HB := hid hb; clear hb))
   go_ret2
   exact ⟨rfl, (below2 _ _ _).trans (HB.out.mono (by simp; omega))⟩
  | true =>
   have HC : Hid (CntOK ss tn true) := hid (by unfold CntOK; rw [HL.out]; exact ⟨n1, n2, h500, rfl⟩)
   obtain ⟨b, off, rfl, hbl, hc⟩ := hs.2 (by omega)
   have HA := hid hc
   clear hs hc
   go_enter Tryz.func106, Tryz.ntmps106
   go_wp2_with (first | (go_at_call 55; refine (C1.out _).mono ?_; rintro e w1 ⟨rfl, hw⟩; obtain rfl := hw.symm) | (go_at_call 144; refine (C3.out _).mono ?_; rintro e w1 ⟨rfl, hb⟩; have Q0 := hid (block_below (block_below (heap_alloc_new w _) (below1 _ _)) hb); have B0 := hid ((below2 _ _ _).trans (hb.mono (by simp; omega))); obtain ⟨q0, q1⟩ := two_cells Q0.out; clear hb))
   -- the parents
   go_loopw [31] (fun i wr => ∃ k : Nat, k ≤ n ∧ i = .int .i64 k ∧ Hid (∀ j, j < k → badP ss j = false) ∧ wr.heap[w.heap.size]? = some (.cells #[.slice (some ⟨b, off, none⟩) n sc, .slice to tn tc] 36 (0, 0)) ∧ Below w.heap.size w wr) (fun i _ => n - (intOf i).toNat)
   case atStart => exact ⟨0, Nat.zero_le _, rfl, hid (fun j h => absurd h (by omega)), Q0.out, B0.out⟩
   case round =>
    obtain ⟨k, hk, rfl, HP, hq, hb⟩ := hrel
    have HB := hid hb
    have HQ := hid hq
    have hz : w.heap.size ≤ wr.heap.size := hb.size
    have hzl : w.heap.size < wr.heap.size := lt_of_block hq
    obtain ⟨r0, r1⟩ := two_cells hq
    clear hq
    by_cases hlt : k < n
    ·obtain ⟨k1, k2, ⟨co, cn, cc, k3, _, _⟩, ⟨do_, dn, dc, k4, _, _⟩⟩ := HA.out k hlt
     have k1 : wr.cell? ⟨b, off + k * 4, none⟩ = some (.int .i64 (par ss k)) := (hb.cell (p := ⟨b, off + k * 4, none⟩) hbl).trans k1
     have k2 := (hb.cell (p := ⟨b, off + k * 4 + 1, none⟩) hbl).trans k2
     have k3 := (hb.cell (p := ⟨b, off + k * 4 + 2, none⟩) hbl).trans k3
     have k4 := (hb.cell (p := ⟨b, off + k * 4 + 3, none⟩) hbl).trans k4
     obtain ⟨pv, hpv⟩ : ∃ pv, pv = par ss k := ⟨_, rfl⟩
     rw [← hpv] at k1
     have kn : (k : Int) < (n : Int) := by omega
     clear hb
     by_cases h0 : k = 0
     ·subst h0
      simp only [Nat.zero_mul, Nat.add_zero] at k1 k2 k3 k4
      by_cases hp : pv = -1
      ·have BG : Hid (badP ss 0 = false) := hid (by simp [badP, ← hpv, hp])
       subst hp
       clear hpv
       go_wp2_with fail
       go_roundw
       case rel =>
        refine ⟨0 + 1, by omega, by go_num, hid (fun j hj => ?_), (heap_alloc_old _ _ hzl).trans HQ.out, HB.out.alloc hz _⟩
        have : j = 0 := by omega
        subst this
        exact BG.out
       case measure => simp [intOf]; omega
      ·have BG : Hid (badP ss 0 = true) := hid (by simp [badP, ← hpv, hp])
       have hp' : (pv != -1) = true := by simpa using hp
       have E : Hid (faultOf ss tn true = (2, ((0 : Nat) : Int))) := hid (fault_tree HC.out (by rw [HL.out]; exact hlt) BG.out (fun j h => absurd h (by omega)))
       clear hpv
       go_wp2_with fail
       go_ret2
       rw [E.out]
       exact ⟨rfl, HB.out.alloc hz _⟩
     ·have kz : ((k : Int) == 0) = false := by simpa using h0
      have kp : (0 : Int) < (k : Int) := by omega
      have BE : Hid (badP ss k = !(betB pv 0 ((k : Int) - 1))) := hid (by rw [hpv]; exact badP_pos h0)
      obtain ⟨bb, hbb⟩ : ∃ bb, bb = betB pv 0 ((k : Int) - 1) := ⟨_, rfl⟩
      have CB := hid (l1Between_of pv 0 ((k : Int) - 1) bb hbb)
      rw [← hbb] at BE
      clear hpv hbb
      cases bb with
      | true =>
       go_wp2_with (go_at_call 55; refine (CB.out _).mono ?_; rintro e w1 ⟨rfl, hw⟩; obtain rfl := hw.symm)
       go_roundw
       case rel =>
        refine ⟨k + 1, by omega, by go_num, hid (fun j hj => ?_), (heap_alloc_old _ _ hzl).trans HQ.out, HB.out.alloc hz _⟩
        by_cases e : j = k
        ·subst e; rw [BE.out]; rfl
        ·exact HP.out j (by omega)
       case measure => simp [intOf]; omega
      | false =>
       have E : Hid (faultOf ss tn true = (2, (k : Int))) := hid (fault_tree HC.out (by rw [HL.out]; exact hlt) (by rw [BE.out]; rfl) HP.out)
       go_wp2_with (go_at_call 55; refine (CB.out _).mono ?_; rintro e w1 ⟨rfl, hw⟩; obtain rfl := hw.symm)
       go_ret2
       rw [E.out]
       exact ⟨rfl, HB.out.alloc hz _⟩
    ·have e : k = n := by omega
     subst e
     have HP' : Hid (∀ j, j < ss.length → badP ss j = false) := hid (by rw [HL.out]; exact HP.out)
     have T : TreeOK ss := tree_of (by rw [HL.out]; omega) HP'.out
     clear hb HP
     go_wp2
     -- the depths
     go_loopw [60] (fun i wr => ∃ q : Nat, q ≤ k ∧ i = .int .i64 q ∧ Hid (∀ j, j < q → badD ss j = false) ∧ wr.heap[w.heap.size]? = some (.cells #[.slice (some ⟨b, off, none⟩) k sc, .slice to tn tc] 36 (0, 0)) ∧ Below w.heap.size w wr) (fun i _ => k - (intOf i).toNat)
     case atStart => exact ⟨0, Nat.zero_le _, rfl, hid (fun j h => absurd h (by omega)), HQ.out, HB.out⟩
     case round =>
      obtain ⟨q, hqk, rfl, HD, hq, hb⟩ := hrel
      have HB := hid hb
      have HQ := hid hq
      have hz : w.heap.size ≤ wr.heap.size := hb.size
      have hzl : w.heap.size < wr.heap.size := lt_of_block hq
      obtain ⟨r0, r1⟩ := two_cells hq
      clear hq
      by_cases hlt : q < k
      ·have CD := hid (l2Depth_any (some ⟨b, off, none⟩) to k sc tn tc ss T n2 q hlt wr (HS.out _ hb))
       obtain ⟨m, hm⟩ : ∃ m, m = ((up ss q).length : Int) := ⟨_, rfl⟩
       have BD : Hid (badD ss q = decide (17 ≤ m)) := hid (by rw [hm, Bool.eq_iff_iff]; simp [badD]; omega)
       have hmb : m ≤ 200 := by have := up_len T q (by rw [HL.out]; omega); omega
       have hm0 : 0 ≤ m := by omega
       rw [← hm] at CD
       clear hb hm
       by_cases h17 : 17 ≤ m
       ·have t1 : (16 : Int) ≤ m - 1 := by omega
        have E : Hid (faultOf ss tn true = (3, (q : Int))) := hid (fault_depth HC.out HP'.out (by rw [HL.out]; exact hlt) (by rw [BD.out]; simpa using h17) HD.out)
        go_wp2_with (go_at_call 145; refine CD.out.mono ?_; rintro e w1 ⟨rfl, hb1⟩; have B1 := hid hb1; clear hb1)
        go_ret2
        rw [E.out]
        exact ⟨rfl, HB.out.trans (B1.out.mono HB.out.size)⟩
       ·have t1 : ¬ (16 : Int) ≤ m - 1 := by omega
        go_wp2_with (go_at_call 145; refine CD.out.mono ?_; rintro e w1 ⟨rfl, hb1⟩; have B1 := hid hb1; clear hb1)
        go_roundw
        case rel =>
         refine ⟨q + 1, by omega, by go_num, hid (fun j hj => ?_), block_below HQ.out B1.out, HB.out.trans (B1.out.mono HB.out.size)⟩
         by_cases e : j = q
         ·subst e; rw [BD.out]; simpa using h17
         ·exact HD.out j (by omega)
        case measure => simp [intOf]; omega
      ·have e : q = k := by omega
       subst e
       have HD' : Hid (∀ j, j < ss.length → badD ss j = false) := hid (by rw [HL.out]; exact HD.out)
       clear hb HD
       go_wp2
       -- the initial states
       go_loopw [72] (fun i wr => ∃ p : Nat, p ≤ q ∧ i = .int .i64 p ∧ Hid (∀ j, j < p → badI ss j = false) ∧ wr.heap[w.heap.size]? = some (.cells #[.slice (some ⟨b, off, none⟩) q sc, .slice to tn tc] 36 (0, 0)) ∧ Below w.heap.size w wr) (fun i _ => q - (intOf i).toNat)
       case atStart => exact ⟨0, Nat.zero_le _, rfl, hid (fun j h => absurd h (by omega)), HQ.out, HB.out⟩
       case round =>
        obtain ⟨p, hpq, rfl, HI, hq, hb⟩ := hrel
        have HB := hid hb
        have HQ := hid hq
        have hz : w.heap.size ≤ wr.heap.size := hb.size
        have hzl : w.heap.size < wr.heap.size := lt_of_block hq
        obtain ⟨r0, r1⟩ := two_cells hq
        clear hq
        by_cases hlt : p < q
        ·obtain ⟨k1, k2, ⟨co, cn, cc, k3, _, _⟩, ⟨do_, dn, dc, k4, _, _⟩⟩ := HA.out p hlt
         have k1 := (hb.cell (p := ⟨b, off + p * 4, none⟩) hbl).trans k1
         have k2 : wr.cell? ⟨b, off + p * 4 + 1, none⟩ = some (.int .i64 (ini ss p)) := (hb.cell (p := ⟨b, off + p * 4 + 1, none⟩) hbl).trans k2
         have k3 := (hb.cell (p := ⟨b, off + p * 4 + 2, none⟩) hbl).trans k3
         have k4 := (hb.cell (p := ⟨b, off + p * 4 + 3, none⟩) hbl).trans k4
         obtain ⟨pv, hpv⟩ : ∃ pv, pv = (ss.getD p st0).parent := ⟨_, rfl⟩
         rw [← hpv] at k1
         have kn : (p : Int) < (q : Int) := by omega
         obtain ⟨ob, hob⟩ : ∃ ob : Obj, ob = .cells #[.int .i64 pv, .int .i64 (ini ss p), .slice co cn cc, .slice do_ dn dc] 65 := ⟨_, rfl⟩
         have CH := hid (l2HasChild_any (some ⟨b, off, none⟩) to q sc tn tc ss p (wr.alloc ob) (by omega) (HS.out _ (hb.alloc hz _)))
         rw [hob] at CH
         clear hpv hob
         by_cases hkd : kids ss ss.length p = []
         ·have BI := hid (badI_no hkd)
          have ED : Hid (decide (¬ kids ss ss.length p = []) = false) := hid (by simp [hkd])
          rw [ED.out] at CH
          obtain ⟨iv, hiv⟩ : ∃ iv, iv = ini ss p := ⟨_, rfl⟩
          rw [← hiv] at k2 CH BI
          clear hb hkd hiv
          by_cases h1 : iv = -1
          ·subst h1
           go_wp2_with (go_at_call 49; refine CH.out.mono ?_; rintro e w1 ⟨rfl, hb1⟩; have V1 := hid (after_state HB.out HQ.out hb1); clear hb1)
           go_roundw
           case rel =>
            refine ⟨p + 1, by omega, by go_num, hid (fun j hj => ?_), V1.out.2.1, V1.out.1⟩
            by_cases e : j = p
            ·subst e; rw [BI.out]; rfl
            ·exact HI.out j (by omega)
           case measure => simp [intOf]; omega
          ·have h1' : (iv == -1) = false := by simpa using h1
           have E : Hid (faultOf ss tn true = (4, (p : Int))) := hid (fault_initial HC.out HP'.out HD'.out (by rw [HL.out]; exact hlt) (by rw [BI.out]; simpa using h1) HI.out)
           go_wp2_with (go_at_call 49; refine CH.out.mono ?_; rintro e w1 ⟨rfl, hb1⟩; have V1 := hid (after_state HB.out HQ.out hb1); clear hb1)
           go_ret2
           rw [E.out]
           exact ⟨rfl, V1.out.1⟩
         ·have BI := hid (badI_yes hkd)
          have ED : Hid (decide (¬ kids ss ss.length p = []) = true) := hid (by simp [hkd])
          rw [ED.out] at CH
          obtain ⟨iv, hiv⟩ : ∃ iv, iv = ini ss p := ⟨_, rfl⟩
          rw [← hiv] at k2 CH BI
          obtain ⟨bb, hbb⟩ : ∃ bb, bb = betB iv 0 ((q : Int) - 1) := ⟨_, rfl⟩
          have CB := hid (l1Between_of iv 0 ((q : Int) - 1) bb hbb)
          have HBB := hid hbb
          clear hkd hiv hbb
          cases bb with
          | false =>
           have E : Hid (faultOf ss tn true = (4, (p : Int))) := hid (fault_initial HC.out HP'.out HD'.out (by rw [HL.out]; exact hlt) (by
            rw [BI.out]
            have := HBB.out
            unfold betB at this
            have := of_decide_eq_false this.symm
            rw [HL.out]
            simp only [Bool.not_eq_true', decide_eq_false_iff_not]
            omega) HI.out)
           clear hb
           go_wp2_with (first | (go_at_call 49; refine CH.out.mono ?_; rintro e w1 ⟨rfl, hb1⟩; have V1 := hid (after_state HB.out HQ.out hb1); obtain ⟨x0, x1⟩ := two_cells V1.out.2.1; obtain ⟨y0, y1, y2, y3⟩ := quad_cells V1.out.2.2; clear hb1) | (go_at_call 55; refine (CB.out _).mono ?_; rintro e w2 ⟨rfl, hw⟩; obtain rfl := hw.symm))
           go_ret2
           rw [E.out]
           exact ⟨rfl, V1.out.1⟩
          | true =>
           obtain ⟨hi0, hi1⟩ : 0 ≤ iv ∧ iv ≤ (q : Int) - 1 := by have := HBB.out; unfold betB at this; exact of_decide_eq_true this.symm
           obtain ⟨j, rfl⟩ : ∃ j : Nat, iv = j := ⟨iv.toNat, by omega⟩
           have hjq : j < q := by omega
           have jn : (j : Int) < (q : Int) := by omega
           obtain ⟨fv, hfv⟩ : ∃ fv, fv = par ss j := ⟨_, rfl⟩
           have c1 : w.cell? ⟨b, off + j * 4, none⟩ = some (.int .i64 fv) := by rw [hfv]; exact (HA.out j hjq).1
           have BI2 : Hid (badI ss p = !(decide (fv = p))) := hid (by
            rw [BI.out, HL.out, Int.toNat_natCast, ← hfv, Bool.eq_iff_iff]
            simp
            omega)
           clear hfv hb
           by_cases hf : fv = (p : Int)
           ·subst hf
            go_wp2_with (first | (go_at_call 49; refine CH.out.mono ?_; rintro e w1 ⟨rfl, hb1⟩; have V1 := hid (after_state HB.out HQ.out hb1); obtain ⟨x0, x1⟩ := two_cells V1.out.2.1; obtain ⟨y0, y1, y2, y3⟩ := quad_cells V1.out.2.2; have z1 := (V1.out.1.cell (p := ⟨b, off + j * 4, none⟩) hbl).trans c1; clear hb1) | (go_at_call 55; refine (CB.out _).mono ?_; rintro e w2 ⟨rfl, hw⟩; obtain rfl := hw.symm))
            go_roundw
            case rel =>
             refine ⟨p + 1, by omega, by go_num, hid (fun j' hj => ?_), V1.out.2.1, V1.out.1⟩
             by_cases e : j' = p
             ·subst e; rw [BI2.out]; simp
             ·exact HI.out j' (by omega)
            case measure => simp [intOf]; omega
           ·have hf' : (fv == (p : Int)) = false := by simpa using hf
            have E : Hid (faultOf ss tn true = (4, (p : Int))) := hid (fault_initial HC.out HP'.out HD'.out (by rw [HL.out]; exact hlt) (by rw [BI2.out]; simpa using hf) HI.out)
            go_wp2_with (first | (go_at_call 49; refine CH.out.mono ?_; rintro e w1 ⟨rfl, hb1⟩; have V1 := hid (after_state HB.out HQ.out hb1); obtain ⟨x0, x1⟩ := two_cells V1.out.2.1; obtain ⟨y0, y1, y2, y3⟩ := quad_cells V1.out.2.2; have z1 := (V1.out.1.cell (p := ⟨b, off + j * 4, none⟩) hbl).trans c1; clear hb1) | (go_at_call 55; refine (CB.out _).mono ?_; rintro e w2 ⟨rfl, hw⟩; obtain rfl := hw.symm))
            go_ret2
            rw [E.out]
            exact ⟨rfl, V1.out.1⟩
        ·have e : p = q := by omega
         subst e
         have E : Hid (faultOf ss tn true = (0, 0)) := hid (fault_none HC.out HP'.out HD'.out (by rw [HL.out]; exact HI.out))
         clear hb
         go_wp2
         go_ret2
         rw [E.out]
         exact ⟨rfl, HB.out⟩
end Go.Proofs.YtiimkhepplkocaaGreat
namespace Go.Proofs.YtiimkhepplkocaaGreat
open Go.RowKit Go.Sort
attribute [local go_sem ↓] Go.wp_at_zero Go.wp_at_succ
def askB (ss : List StD) (tn : Nat) (x : Int) : Bool := decide ((faultOf ss tn true).1 = 0) && betB x 0 ((ss.length : Int) - 1)
def ansD (ss : List StD) (tn : Nat) (x : Int) : List Nat := if askB ss tn x = true then down ss x.toNat else []
theorem ask_good {ss : List StD} {tn : Nat} {x : Int} (h : askB ss tn x = true) : GoodT ss tn ∧ ∃ k : Nat, x = k ∧ k < ss.length := by
 unfold askB betB at h
 rw [Bool.and_eq_true, decide_eq_true_iff, decide_eq_true_iff] at h
 refine ⟨good_of h.1, x.toNat, by omega, by omega⟩
theorem lim_zero : limB ⟨0, 0, 0, 0⟩ = true := by simp [limB, limP]
set_option maxHeartbeats 800000 in
theorem l2Asked_any (so to : Option Addr) (n sc tn tc : Nat) (ss : List StD) (x : Int) (w : World) (hn : n ≤ 9223372036854775807) (htn : tn ≤ 9223372036854775807) (hs : StatesOf w so n ss) :
  Calls Tryz.prog 72 #[.agg #[.slice so n sc, .slice to tn tc], .int .i64 x] w fun e w' => e = .returned (.bool (askB ss tn x)) ∧ Below w.heap.size w w' := by
 have C := hid (l2TreeFault_any so to n sc tn tc ss 0 0 0 0 (w.alloc (.cells #[.slice so n sc, .slice to tn tc] 36)) hn htn (hs.below (below1 _ _)))
 rw [lim_zero] at C
 obtain ⟨fc, hfc⟩ : ∃ fc, fc = (faultOf ss tn true).1 := ⟨_, rfl⟩
 obtain ⟨fp, hfp⟩ : ∃ fp, fp = (faultOf ss tn true).2 := ⟨_, rfl⟩
 have hl := hs.1
 by_cases h0 : fc = 0
 ·have hg : GoodT ss tn := good_of (lim := true) (by rw [← hfc]; exact h0)
  have hn1 := hg.n1
  have hn2 := hg.n2
  obtain ⟨bb, hbb⟩ : ∃ bb, bb = betB x 0 ((n : Int) - 1) := ⟨_, rfl⟩
  have CB := hid (l1Between_of x 0 ((n : Int) - 1) bb hbb)
  have E : Hid (askB ss tn x = bb) := hid (by unfold askB; rw [hl, ← hfc, h0, ← hbb]; simp)
  rw [E.out]
  rw [← hfc, ← hfp, h0] at C
  have hn3 : 1 ≤ n := by omega
  have hn4 : n ≤ 200 := by omega
  clear hs hfc hfp hbb hl h0 hg hn1 hn2
  go_enter Tryz.func72, Tryz.ntmps72
  go_wp2_with (first | (go_at_call 106; refine C.out.mono ?_; rintro e w1 ⟨rfl, hb1⟩; have B1 := hid (below_two hb1); obtain ⟨q0, q1⟩ := two_cells B1.out.2; clear hb1) | (go_at_call 55; refine (CB.out _).mono ?_; rintro e w2 ⟨rfl, hw⟩; obtain rfl := hw.symm))
  go_ret
  exact ⟨rfl, B1.out.1⟩
 ·have E : Hid (askB ss tn x = false) := hid (by unfold askB; rw [← hfc]; simp [h0])
  have h0' : (fc == 0) = false := by simpa using h0
  rw [E.out]
  rw [← hfc, ← hfp] at C
  clear hs hfc hfp
  go_enter Tryz.func72, Tryz.ntmps72
  go_wp2_with (go_at_call 106; refine C.out.mono ?_; rintro e w1 ⟨rfl, hb1⟩; have B1 := hid (below_two hb1); obtain ⟨q0, q1⟩ := two_cells B1.out.2; clear hb1)
  go_ret
  exact ⟨rfl, B1.out.1⟩
theorem own_nil (w w1 : World) (h : w.heap.size ≤ w1.heap.size) : OwnI w (w1.alloc (.cells #[] 3)) (.slice (some ⟨w1.heap.size, 0, none⟩) 0 0) [] :=
 World.ownsRow_lit w1 #[] 0 h (by unfold maxLen; omega) rfl
theorem ownI_mono {w w0 w' : World} {v : Value} {l : List Nat} (h : OwnI w0 w' v l) (hs : w.heap.size ≤ w0.heap.size) : OwnI w w' v l :=
 ⟨h.1, h.2.imp id fun ⟨g, cap, cur, h1, h2, h3⟩ => ⟨g, cap, cur, h1, Nat.le_trans hs h2, h3⟩⟩
set_option maxHeartbeats 800000 in
theorem specDrill_any (so to : Option Addr) (n sc tn tc : Nat) (ss : List StD) (x : Int) (w : World) (hn : n ≤ 9223372036854775807) (htn : tn ≤ 9223372036854775807) (hs : StatesOf w so n ss) :
  Calls Tryz.prog 22 #[.agg #[.slice so n sc, .slice to tn tc], .int .i64 x] w fun e w' => ∃ g cap, e = .returned (.slice (some ⟨g, 0, none⟩) (ansD ss tn x).length cap) ∧ OwnI w w' (.slice (some ⟨g, 0, none⟩) (ansD ss tn x).length cap) (ansD ss tn x) ∧ Below w.heap.size w w' := by
 have C := hid (l2Asked_any so to n sc tn tc ss x (w.alloc (.cells #[.slice so n sc, .slice to tn tc] 36)) hn htn (hs.below (below1 _ _)))
 have HS : Hid (∀ w', Below w.heap.size w w' → StatesOf w' so n ss) := fun w' h => hs.below h
 cases h0 : askB ss tn x with
 | false =>
  have E : Hid (ansD ss tn x = []) := hid (by unfold ansD; rw [h0]; rfl)
  rw [E.out]
  rw [h0] at C
  clear hs h0
  go_enter Tryz.func22, Tryz.ntmps22
  go_wp2_with (go_at_call 72; refine C.out.mono ?_; rintro e w1 ⟨rfl, hb1⟩; have B1 := hid (below_two hb1); clear hb1)
  go_ret
  exact ⟨_, _, rfl, own_nil w w1 B1.out.1.size, B1.out.1.alloc B1.out.1.size _⟩
 | true =>
  obtain ⟨G, k, rfl, hk⟩ := ask_good h0
  have E : Hid (ansD ss tn k = down ss k) := hid (by unfold ansD; rw [h0]; rfl)
  have U := hid (fun w hw => l2Down_any so to n sc tn tc ss G (n - k) k (by rw [← hs.1]; exact hk) rfl w hw)
  rw [E.out]
  rw [h0] at C
  clear hs h0 hk
  go_enter Tryz.func22, Tryz.ntmps22
  go_wp2_with (first | (go_at_call 72; refine C.out.mono ?_; rintro e w1 ⟨rfl, hb1⟩; have B1 := hid (below_two hb1); obtain ⟨q0, q1⟩ := two_cells B1.out.2; clear hb1) | (go_at_call 52; refine (U.out _ (HS.out _ B1.out.1)).mono ?_; rintro e w2 ⟨g, cap, rfl, ho, hb2⟩; have O2 := hid (ownI_mono ho B1.out.1.size); have B2 := hid (B1.out.1.trans (hb2.mono B1.out.1.size)); clear ho hb2))
  go_ret
  exact ⟨g, cap, rfl, O2.out, B2.out⟩
end Go.Proofs.YtiimkhepplkocaaGreat
