import Derived.Test.YtkkiiffhfjkoaaaGreatDoorPs2
import Derived.Deep.RegionWith
import Derived.Deep.RegionHeld3
import Derived.Deep.CutBlock
import Derived.Deep.DeepCutAuto
namespace Go.Proofs.YtkkiiffhfjkoaaaGreatDoor
open Go.RowKit Go.Sort
set_option linter.unusedVariables false
attribute [local go_sem ↓] Go.wp_at_zero Go.wp_at_succ

/-- A row of words that a call has made. -/
theorem kindNames_any (w : World) : Calls Tryz.prog 13 #[] w fun e w' => e = .returned (.slice (some ⟨w.heap.size, 0, none⟩) 7 7) ∧ w' = w.alloc (.cells #[tx (kindName 1), tx (kindName 2), tx (kindName 3), tx (kindName 4), tx (kindName 5), tx (kindName 6), tx (kindName 7)] 9) := by
  go_enter Tryz.func13, Tryz.ntmps13
  go_wp2
  go_ret
  exact ⟨rfl, rfl⟩
theorem opNames_any (w : World) : Calls Tryz.prog 27 #[] w fun e w' => e = .returned (.slice (some ⟨w.heap.size, 0, none⟩) 15 15) ∧ w' = w.alloc (.cells #[tx (opName 4), tx (opName 5), tx (opName 6), tx (opName 7), tx (opName 8), tx (opName 9), tx (opName 10), tx (opName 11), tx (opName 12), tx (opName 13), tx (opName 14), tx (opName 15), tx (opName 16), tx (opName 17), tx (opName 18)] 9) := by
  go_enter Tryz.func27, Tryz.ntmps27
  go_wp2
  go_ret
  exact ⟨rfl, rfl⟩
theorem stmNames_any (w : World) : Calls Tryz.prog 25 #[] w fun e w' => e = .returned (.slice (some ⟨w.heap.size, 0, none⟩) 9 9) ∧ w' = w.alloc (.cells #[tx (stmName 1), tx (stmName 2), tx (stmName 3), tx (stmName 4), tx (stmName 5), tx (stmName 6), tx (stmName 7), tx (stmName 8), tx (stmName 9)] 9) := by
  go_enter Tryz.func25, Tryz.ntmps25
  go_wp2
  go_ret
  exact ⟨rfl, rfl⟩
/-- Which fields a statement's line gives. -/
def formT (k : Int) : List UInt8 := (if giveA k then [97] else []) ++ (if giveB k then [98] else [])
def formC (k : Int) : Bool := decide (k = 1 ∨ k = 2 ∨ k = 3 ∨ k = 4 ∨ k = 5 ∨ k = 8)
set_option maxHeartbeats 1600000 in
theorem form_any (k : Int) (w : World) (h1 : 1 ≤ k) (h9 : k ≤ 9) : Calls Tryz.prog 26 #[.int .i64 k] w fun e w' => e = .returned (.tuple #[tx (formT k), .bool (formC k)]) ∧ w' = w := by
  obtain ⟨n, rfl⟩ : ∃ n : Nat, k = n := ⟨k.toNat, by omega⟩
  have hn : n = 1 ∨ n = 2 ∨ n = 3 ∨ n = 4 ∨ n = 5 ∨ n = 6 ∨ n = 7 ∨ n = 8 ∨ n = 9 := by omega
  rcases hn with rfl | rfl | rfl | rfl | rfl | rfl | rfl | rfl | rfl
  all_goals
    go_enter Tryz.func26, Tryz.ntmps26
    go_wp2
    go_ret2
    exact ⟨rfl, rfl⟩
end Go.Proofs.YtkkiiffhfjkoaaaGreatDoor
