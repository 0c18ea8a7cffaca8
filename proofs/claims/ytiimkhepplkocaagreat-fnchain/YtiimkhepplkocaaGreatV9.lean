import Derived.Test.YtiimkhepplkocaaGreatV6
import Derived.Deep.LoopGhost
namespace Go.Proofs.YtiimkhepplkocaaGreat
open Go.RowKit Go.Sort
set_option linter.unusedVariables false
attribute [local go_sem ↓] Go.wp_at_zero Go.wp_at_succ
structure Only (v : Value) (w w' : World) : Prop where
 os : w'.os = w.os
 tape : w'.tape = w.tape
 output : w'.output = w.output
 size : w'.heap.size = w.heap.size
 block : ∀ q, v.ownBlock ≠ some q → w'.heap[q]? = w.heap[q]?
theorem Only.refl (v : Value) (w : World) : Only v w w := ⟨rfl, rfl, rfl, rfl, fun _ _ => rfl⟩
theorem Only.trans {v : Value} {a b c : World} (h : Only v a b) (k : Only v b c) : Only v a c := ⟨k.os.trans h.os, k.tape.trans h.tape, k.output.trans h.output, k.size.trans h.size, fun q hq => (k.block q hq).trans (h.block q hq)⟩
theorem Only.set {g n c o : Nat} {w : World} (u : Value) : Only (.slice (some ⟨g, 0, none⟩) n c) w (w.setCell ⟨g, o, none⟩ u) := ⟨rfl, rfl, rfl, by simp, fun q hq => Below.heap_setCell _ _ _ _ (fun e => hq (by simp [Value.ownBlock]; exact e.symm))⟩
theorem Only.drew {v : Value} {a b : World} (h : Only v a b) : Only v a b.drew := ⟨h.os, h.tape, h.output, h.size, h.block⟩
theorem Only.below {v : Value} {w w' : World} {L : Nat} (h : Only v w w') (hL : ∀ b, v.ownBlock = some b → L ≤ b) : Below L w w' := ⟨h.os, h.tape, h.output, Nat.le_of_eq h.size.symm, fun k hk => h.block k (fun e => by have := hL k e; omega)⟩
end Go.Proofs.YtiimkhepplkocaaGreat
