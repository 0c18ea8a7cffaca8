import Derived.Test.YtiimkhepplkocaaGreatV10
namespace Go.Proofs.YtiimkhepplkocaaGreat
open Go.RowKit Go.Sort
set_option linter.unusedVariables false
attribute [local go_sem ↓] Go.wp_at_zero Go.wp_at_succ
structure OnlyP (P : Nat → Prop) (w w' : World) : Prop where
 os : w'.os = w.os
 tape : w'.tape = w.tape
 output : w'.output = w.output
 size : w.heap.size ≤ w'.heap.size
 block : ∀ q, q < w.heap.size → ¬ P q → w'.heap[q]? = w.heap[q]?
theorem OnlyP.refl (P : Nat → Prop) (w : World) : OnlyP P w w := ⟨rfl, rfl, rfl, Nat.le_refl _, fun _ _ _ => rfl⟩
theorem OnlyP.trans {P : Nat → Prop} {a b c : World} (h : OnlyP P a b) (k : OnlyP P b c) : OnlyP P a c := ⟨k.os.trans h.os, k.tape.trans h.tape, k.output.trans h.output, Nat.le_trans h.size k.size, fun q hq hn => (k.block q (Nat.lt_of_lt_of_le hq h.size) hn).trans (h.block q hq hn)⟩
theorem OnlyP.mono {P Q : Nat → Prop} {a b : World} (h : OnlyP P a b) (hPQ : ∀ q, P q → Q q) : OnlyP Q a b := ⟨h.os, h.tape, h.output, h.size, fun q hq hn => h.block q hq (fun x => hn (hPQ q x))⟩
theorem Below.toP {P : Nat → Prop} {a b : World} (h : Below a.heap.size a b) : OnlyP P a b := ⟨h.os, h.tape, h.output, h.size, fun q hq _ => h.block q hq⟩
theorem OnlyP.set {P : Nat → Prop} {w : World} {g o : Nat} (u : Value) (hP : P g) : OnlyP P w (w.setCell ⟨g, o, none⟩ u) := ⟨rfl, rfl, rfl, by simp, fun q _ hn => Below.heap_setCell _ _ _ _ (fun e => hn (by rw [e]; exact hP))⟩
theorem OnlyP.own {P : Nat → Prop} {w w' : World} {B : Nat} {e : TypeId} {size : Nat} {v : Value} {n : Nat} {xs : List Value} (h : OnlyP P w w') (ho : w.ownsRow B e size v n xs) (hn : ∀ b, v.ownBlock = some b → ¬ P b) : w'.ownsRow B e size v n xs := ownsRow_eqb ho (fun b hb e => h.block b hb (hn b e))
end Go.Proofs.YtiimkhepplkocaaGreat
