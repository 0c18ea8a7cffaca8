import Derived.Test.YtdpejnacganadaaJ2
namespace Go.Proofs.Ytdpejnacganadaa
open Go.RowKit Go.Sort
attribute [local go_sem ↓] Go.wp_at_zero Go.wp_at_succ
set_option maxHeartbeats 800000 in
theorem harg_any (w : World) : Calls Try.prog 10 #[] w fun e w' => e = .returned (.agg #[.int .i64 3, .int .i64 0]) ∧ ∃ o, w' = w.alloc o := by
  go_enter Try.func10, Try.ntmps10
  go_wp2
  exact bodyPost_ret (v := .agg #[.int .i64 3, .int .i64 0]) (by simp [results, Try.results10, go_sem]) rfl ⟨rfl, _, rfl⟩
theorem stm_one {X : World} {g h : Nat} {t u : TypeId} (hg : X.heap[g]? = some (.cells #[.int .i64 1, .int .i64 0, .int .i64 0, .slice (some ⟨h, 0, none⟩) 1 1] t (0, 0))) (hh : X.heap[h]? = some (.cells #[.int .i64 3, .int .i64 0] u (0, 0))) : StmsOf X (some ⟨g, 0, none⟩) 1 [⟨1, 0, 0, [(3, 0)]⟩] := by
  obtain ⟨c0, c1, c2, c3⟩ := quad_cells hg
  obtain ⟨d0, d1⟩ := pair2 hh
  refine ⟨rfl, fun _ => ⟨g, 0, rfl, lt_of_block hg, fun i hi => ?_⟩⟩
  obtain rfl : i = 0 := by omega
  refine ⟨c0, c1, c2, _, _, _, c3, by omega, rfl, fun _ => ⟨h, 0, rfl, lt_of_block hh, fun j hj => ?_⟩⟩
  obtain rfl : j = 0 := by omega
  exact ⟨d0, d1⟩
theorem two_lst {X : World} {g : Nat} {t : TypeId} {a b : Int} (hg : X.heap[g]? = some (.cells #[.int .i64 a, .int .i64 b] t (0, 0))) : SliceOf X (some ⟨g, 0, none⟩) 2 [a, b] := by
  obtain ⟨c0, c1⟩ := pair2 hg
  refine ⟨rfl, fun _ => ⟨g, 0, rfl, lt_of_block hg, fun i hi => ?_⟩⟩
  have : i = 0 ∨ i = 1 := by omega
  rcases this with rfl | rfl
  · exact c0
  · exact c1
theorem hpush (w : World) (a : Obj) : (w.alloc a).heap = w.heap.push a := rfl
theorem hdrew (w : World) : w.drew.heap = w.heap := rfl
end Go.Proofs.Ytdpejnacganadaa
