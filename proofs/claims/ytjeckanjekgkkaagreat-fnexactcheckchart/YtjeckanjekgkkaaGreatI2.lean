import Derived.Test.YtjeckanjekgkkaaGreatI1
import Derived.LaidEqlPtr
namespace Go.Proofs.YtjeckanjekgkkaaGreat
open Go.RowKit Go.Sort
attribute [local go_sem ↓] Go.wp_at_zero Go.wp_at_succ

set_option maxHeartbeats 400000 in
theorem depth_any (N : Nat → Nat) (ss : List StD) (T : TreeOK ss) (h200 : ss.length ≤ 200) (k : Nat) (hk : k < ss.length) (w : World) (hN : Nodes w N ss ss.length) :
    Calls Tryz.prog 37 #[.pointer (some ⟨N k, 0, none⟩)] w fun e w' => e = .returned (.int .i64 (((up ss k).length : Int) - 1)) ∧ Below w.heap.size w w' := by
  have C := hid (path_any N ss T h200 k hk w hN)
  have hu := up_len T k hk
  have hu1 : (up ss k).length ≤ 300 := by omega
  clear hN hu
  go_enter Tryz.func37, Tryz.ntmps37
  go_wp2_with (go_at_call 51; refine C.out.mono ?_; rintro e w1 ⟨g, cap, rfl, _, hb1⟩; have B1 := hid hb1; clear hb1)
  go_ret
  exact ⟨rfl, B1.out⟩

def NodeB (w : World) (N : Nat → Nat) (n : Nat) : Prop := ∀ k, k < n → ∃ cs, w.heap[N k]? = some (.cells cs 83 (0, 0))
theorem NodeB.below {w w' : World} {N : Nat → Nat} {n : Nat} (h : NodeB w N n) (hb : Below w.heap.size w w') : NodeB w' N n := fun k hk => by
  obtain ⟨cs, hc⟩ := h k hk
  exact ⟨cs, block_below hc hb⟩
theorem sizeNode : (Tryz.prog.info? 83).map (·.size) = some 4 := by kernel_rfl
theorem eqPtr {w : World} {N : Nat → Nat} {ss : List StD} {n : Nat} (hN : Nodes w N ss n) (hB : NodeB w N n) {i j : Nat} (hi : i < n) (hj : j < n) {b : Bool} (hb : b = decide (i = j)) :
    (binOp .eql 81 (.pointer (some ⟨N i, 0, none⟩)) (.pointer (some ⟨N j, 0, none⟩))).run Tryz.prog w = .ok (.bool b) w := by
  obtain ⟨q, hq, hqs⟩ := Option.map_eq_some_iff.1 sizeNode
  by_cases e : i = j
  · subst e
    rw [hb, decide_eq_true rfl]
    exact run_eql_ptr_same w _ Tryz.underlying81 hq
  · rw [hb, decide_eq_false e]
    obtain ⟨ca, ha⟩ := hB i hi
    obtain ⟨cb, hb⟩ := hB j hj
    exact run_eql_ptr_other w Tryz.underlying81 hq (by rw [hqs]; decide) (fun h => e (hN.inj hi hj (by simpa using h))) ha hb

end Go.Proofs.YtjeckanjekgkkaaGreat
