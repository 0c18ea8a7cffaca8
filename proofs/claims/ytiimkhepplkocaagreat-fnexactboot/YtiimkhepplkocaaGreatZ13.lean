import Derived.Test.YtiimkhepplkocaaGreatZ12
import Derived.Test.YtiimkhepplkocaaGreatV8
namespace Go.Proofs.YtiimkhepplkocaaGreat
open Go.RowKit Go.Sort
set_option linter.unusedVariables false
attribute [local go_sem ↓] Go.wp_at_zero Go.wp_at_succ

theorem own_cap {w : World} {B g n m cap size : Nat} {e : TypeId} {xs : List Value} (h : w.ownsRow B e size (.slice (some ⟨g, 0, none⟩) n cap) m xs) : m ≤ cap := by
  rcases h.2 with ⟨h0, _⟩ | ⟨g', cap', cur, h1, h2, h3, h4, _⟩
  · cases h0
  · simp only [Value.slice.injEq, Option.some.injEq, Addr.mk.injEq] at h1
    obtain ⟨_, _, rfl⟩ := h1
    exact h4
def scriptS (ss : List StD) (ex : List Nat) (acts : List StmD) (en : List Nat) : List StmD := (ex.map (fun i => (ss.getD i st0).exit)).flatten ++ acts ++ (en.map (fun i => (ss.getD i st0).entry)).flatten
def NatsOf (w : World) (ao : Option Addr) (l : List Nat) : Prop := 0 < l.length → ∃ g, ao = some ⟨g, 0, none⟩ ∧ g < w.heap.size ∧ ∀ j, j < l.length → w.cell? ⟨g, j, none⟩ = some (.int .i64 ((l.getD j 0 : Nat) : Int))
/-- The script that is gathered. -/
structure Sc (w : World) (bx : Array Value) (lv : Value) (xs : List StmD) (X : World) : Prop where
  bel : Below w.heap.size w X
  q : X.heap[w.heap.size]? = some (.cells bx 36 (0, 0))
  o : ∃ g cap cells, lv = .slice (some ⟨g, 0, none⟩) xs.length cap ∧ X.ownsRow w.heap.size 210 4 lv xs.length cells ∧ StC w cells xs
theorem Sc.grown {w : World} {bx : Array Value} {g cap g2 cap2 : Nat} {xs ys : List StmD} {cells news : List Value} {X Y : World} (h1 : Below w.heap.size w X) (h2 : X.heap[w.heap.size]? = some (.cells bx 36 (0, 0))) (ho : X.ownsRow w.heap.size 210 4 (.slice (some ⟨g, 0, none⟩) xs.length cap) xs.length cells) (hc : StC w cells xs) (hn : StC w news ys) (hg : X.grownBy Y (Value.slice (some ⟨g, 0, none⟩) xs.length cap).ownBlock)
    (ho2 : Y.ownsRow w.heap.size 210 4 (.slice (some ⟨g2, 0, none⟩) (xs.length + ys.length) cap2) (xs.length + ys.length) (cells ++ news)) : Sc w bx (.slice (some ⟨g2, 0, none⟩) (xs.length + ys.length) cap2) (xs ++ ys) Y := by
  have bY : Below w.heap.size w Y := h1.grown hg h1.size (fun kk e => (ho.lt kk e).1)
  refine ⟨bY, (hg.block _ (lt_of_block h2) (fun e => own_far ho (by decide) h2 e.symm)).trans h2, g2, cap2, cells ++ news, by rw [List.length_append], by rw [List.length_append]; exact ho2, stc_append hc hn⟩
end Go.Proofs.YtiimkhepplkocaaGreat
