import Derived.Test.YtiimkhepplkocaaGreatV9
namespace Go.Proofs.YtiimkhepplkocaaGreat
open Go.RowKit Go.Sort
set_option linter.unusedVariables false
attribute [local go_sem ↓] Go.wp_at_zero Go.wp_at_succ

theorem own_any {w : World} {B : Nat} {e : TypeId} {size : Nat} {v : Value} {n : Nat} {xs : List Value} (h : w.ownsRow B e size v n xs) : ∃ ao c, v = .slice ao n c := by
  rcases h.2 with ⟨e, rfl⟩ | ⟨g, cap, cur, e, _⟩
  · exact ⟨none, 0, e⟩
  · exact ⟨_, cap, e⟩

/-- Only those two rows were written. -/
structure Only2 (kv vv : Value) (w w' : World) : Prop where
  os : w'.os = w.os
  tape : w'.tape = w.tape
  output : w'.output = w.output
  size : w.heap.size ≤ w'.heap.size
  block : ∀ q, q < w.heap.size → kv.ownBlock ≠ some q → vv.ownBlock ≠ some q → w'.heap[q]? = w.heap[q]?
theorem Only2.of_below {kv vv : Value} {w w' : World} (h : Below w.heap.size w w') : Only2 kv vv w w' := ⟨h.os, h.tape, h.output, h.size, fun q hq _ _ => h.block q hq⟩
theorem Only2.trans {kv vv : Value} {a b c : World} (h : Only2 kv vv a b) (k : Only2 kv vv b c) : Only2 kv vv a c := ⟨k.os.trans h.os, k.tape.trans h.tape, k.output.trans h.output, Nat.le_trans h.size k.size, fun q hq h1 h2 => (k.block q (Nat.lt_of_lt_of_le hq h.size) h1 h2).trans (h.block q hq h1 h2)⟩
theorem Only2.left {kv vv : Value} {w w' : World} (h : Only kv w w') : Only2 kv vv w w' := ⟨h.os, h.tape, h.output, Nat.le_of_eq h.size.symm, fun q _ h1 _ => h.block q h1⟩
theorem Only2.right {kv vv : Value} {w w' : World} (h : Only vv w w') : Only2 kv vv w w' := ⟨h.os, h.tape, h.output, Nat.le_of_eq h.size.symm, fun q _ _ h1 => h.block q h1⟩
theorem Only2.own {kv vv : Value} {w w' : World} {B : Nat} {e : TypeId} {size : Nat} {v2 : Value} {n : Nat} {xs : List Value} (h : Only2 kv vv w w') (ho : w.ownsRow B e size v2 n xs) (h1 : ∀ b, v2.ownBlock = some b → kv.ownBlock ≠ some b) (h2 : ∀ b, v2.ownBlock = some b → vv.ownBlock ≠ some b) : w'.ownsRow B e size v2 n xs := ownsRow_eqb ho (fun b hl hb => h.block b hl (h1 b hb) (h2 b hb))
theorem Only2.out {k0 v0 : Value} {w w' : World} {B : Nat} {kv vv ev : Value} {ks vs : List Int} {es : List EffD} (h : Only2 k0 v0 w w') (ho : OutE B w kv vv ev ks vs es) (h1 : ∀ b, (kv.ownBlock = some b ∨ vv.ownBlock = some b ∨ ev.ownBlock = some b) → k0.ownBlock ≠ some b ∧ v0.ownBlock ≠ some b) : OutE B w' kv vv ev ks vs es :=
  ⟨h.own ho.k (fun b hb => (h1 b (.inl hb)).1) (fun b hb => (h1 b (.inl hb)).2), h.own ho.v (fun b hb => (h1 b (.inr (.inl hb))).1) (fun b hb => (h1 b (.inr (.inl hb))).2), h.own ho.e (fun b hb => (h1 b (.inr (.inr hb))).1) (fun b hb => (h1 b (.inr (.inr hb))).2), ho.ne⟩

theorem IntsR.below {w w' : World} {B : Nat} {e : TypeId} {size : Nat} {v : Value} {n : Nat} (h : IntsR w B e size v n) (hb : Below w.heap.size w w') : IntsR w' B e size v n := by
  obtain ⟨xs, ho, hz⟩ := h
  exact ⟨xs, ownsRow_below ho hb, hz⟩
theorem MkdR.below {w w' : World} {B : Nat} {e : TypeId} {size : Nat} {v : Value} {n : Nat} {k : Int} (h : MkdR w B e size v n k) (hb : Below w.heap.size w w') : MkdR w' B e size v n k := by
  obtain ⟨xs, ho, hz⟩ := h
  exact ⟨xs, ownsRow_below ho hb, hz⟩
theorem Only.ints {v : Value} {w w' : World} {B : Nat} {e : TypeId} {size : Nat} {v2 : Value} {n : Nat} (h : Only v w w') (ho : IntsR w B e size v2 n) (hne : ∀ b, v2.ownBlock = some b → v.ownBlock ≠ some b) : IntsR w' B e size v2 n := by
  obtain ⟨xs, ho, hz⟩ := ho
  exact ⟨xs, h.own ho hne, hz⟩
theorem Only.mkd {v : Value} {w w' : World} {B : Nat} {e : TypeId} {size : Nat} {v2 : Value} {n : Nat} {k : Int} (h : Only v w w') (ho : MkdR w B e size v2 n k) (hne : ∀ b, v2.ownBlock = some b → v.ownBlock ≠ some b) : MkdR w' B e size v2 n k := by
  obtain ⟨xs, ho, hz⟩ := ho
  exact ⟨xs, h.own ho hne, hz⟩
theorem IntsR.any {w : World} {B : Nat} {e : TypeId} {size : Nat} {v : Value} {n : Nat} (h : IntsR w B e size v n) : ∃ ao c, v = .slice ao n c := by obtain ⟨xs, ho, _⟩ := h; exact own_any ho
theorem MkdR.any {w : World} {B : Nat} {e : TypeId} {size : Nat} {v : Value} {n : Nat} {k : Int} (h : MkdR w B e size v n k) : ∃ ao c, v = .slice ao n c := by obtain ⟨xs, ho, _⟩ := h; exact own_any ho

end Go.Proofs.YtiimkhepplkocaaGreat
