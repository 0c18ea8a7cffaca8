import Derived.Test.YtdpejnacganadaaJ2b
namespace Go.Proofs.Ytdpejnacganadaa
open Go.RowKit Go.Sort

theorem items2 {X : World} {g : Nat} {t : TypeId} {a b c d : Int} (h : X.heap[g]? = some (.cells #[.int .i64 a, .int .i64 b, .int .i64 c, .int .i64 d] t (0, 0))) : ItemsOf X (some ⟨g, 0, none⟩) 2 [(a, b), (c, d)] := by
  refine ⟨rfl, fun _ => ⟨g, 0, rfl, lt_of_block h, fun i hi => ?_⟩⟩
  have : i = 0 ∨ i = 1 := by omega
  rcases this with rfl | rfl <;> simp [World.cell?, h]
theorem items3 {X : World} {g : Nat} {t : TypeId} {a b c d e f : Int} (h : X.heap[g]? = some (.cells #[.int .i64 a, .int .i64 b, .int .i64 c, .int .i64 d, .int .i64 e, .int .i64 f] t (0, 0))) : ItemsOf X (some ⟨g, 0, none⟩) 3 [(a, b), (c, d), (e, f)] := by
  refine ⟨rfl, fun _ => ⟨g, 0, rfl, lt_of_block h, fun i hi => ?_⟩⟩
  have : i = 0 ∨ i = 1 ∨ i = 2 := by omega
  rcases this with rfl | rfl | rfl <;> simp [World.cell?, h]
theorem items4 {X : World} {g : Nat} {t : TypeId} {a b c d e f a' b' : Int} (h : X.heap[g]? = some (.cells #[.int .i64 a, .int .i64 b, .int .i64 c, .int .i64 d, .int .i64 e, .int .i64 f, .int .i64 a', .int .i64 b'] t (0, 0))) : ItemsOf X (some ⟨g, 0, none⟩) 4 [(a, b), (c, d), (e, f), (a', b')] := by
  refine ⟨rfl, fun _ => ⟨g, 0, rfl, lt_of_block h, fun i hi => ?_⟩⟩
  have : i = 0 ∨ i = 1 ∨ i = 2 ∨ i = 3 := by omega
  rcases this with rfl | rfl | rfl | rfl <;> simp [World.cell?, h]
theorem items6 {X : World} {g : Nat} {t : TypeId} {a b c d e f a' b' c' d' e' f' : Int} (h : X.heap[g]? = some (.cells #[.int .i64 a, .int .i64 b, .int .i64 c, .int .i64 d, .int .i64 e, .int .i64 f, .int .i64 a', .int .i64 b', .int .i64 c', .int .i64 d', .int .i64 e', .int .i64 f'] t (0, 0))) : ItemsOf X (some ⟨g, 0, none⟩) 6 [(a, b), (c, d), (e, f), (a', b'), (c', d'), (e', f')] := by
  refine ⟨rfl, fun _ => ⟨g, 0, rfl, lt_of_block h, fun i hi => ?_⟩⟩
  have : i = 0 ∨ i = 1 ∨ i = 2 ∨ i = 3 ∨ i = 4 ∨ i = 5 := by omega
  rcases this with rfl | rfl | rfl | rfl | rfl | rfl <;> simp [World.cell?, h]
/-- Eval on the law's bank. -/
theorem eval_bank {X : World} {g B : Nat} {k yv xv : Int} {n : Nat} {its : List (Int × Int)} (hn : n ≤ 100) (k0 : X.heap[B]? = some (.cells #[.int .i64 k, .int .i64 4] 3 (0, 0))) (k1 : X.heap[B + 1]? = some (.cells #[.int .i64 0, .int .i64 yv] 3 (0, 0))) (hi : ItemsOf X (some ⟨g, 0, none⟩) n its) {v : Int} (hv : evI its [k, 4] [0, yv] xv = v) :
    Calls Try.prog 11 #[.slice (some ⟨g, 0, none⟩) n n, .agg #[.slice (some ⟨B, 0, none⟩) 2 2, .slice (some ⟨B + 1, 0, none⟩) 2 2], .int .i64 xv] X fun e w' => e = .returned (.int .i64 v) ∧ Below X.heap.size X w' := by
  rw [← hv]
  exact implEval_any _ n n its _ _ 2 2 2 2 [k, 4] [0, yv] xv X (by omega) (by omega) (by omega) hi (two_lst k0) (two_lst k1)
end Go.Proofs.Ytdpejnacganadaa
