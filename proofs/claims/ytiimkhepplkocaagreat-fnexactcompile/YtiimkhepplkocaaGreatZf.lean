import Derived.Test.YtiimkhepplkocaaGreatZb
import Derived.Test.YtiimkhepplkocaaGreatV6
namespace Go.Proofs.YtiimkhepplkocaaGreat
open Go.RowKit Go.Sort
set_option linter.unusedVariables false
attribute [local go_sem ↓] Go.wp_at_zero Go.wp_at_succ

def Each (X : World) (l : LimD) (LS : List Value) (xs : List (List StmD)) : Prop := xs.length = LS.length ∧ ∀ i, i < LS.length → StmR X 0 l (LS.getD i undef) (xs.getD i [])
theorem StmR.base {X : World} {B : Nat} {l : LimD} {v : Value} {xs : List StmD} (h : StmR X B l v xs) : StmR X 0 l v xs := by
  obtain ⟨vs, h1, h2⟩ := h
  exact ⟨vs, h1, ownsRow_base h2 (Nat.zero_le _)⟩
end Go.Proofs.YtiimkhepplkocaaGreat
namespace Go.Proofs.YtiimkhepplkocaaGreat
open Go.RowKit Go.Sort
set_option linter.unusedVariables false
attribute [local go_sem ↓] Go.wp_at_zero Go.wp_at_succ

theorem Lists.below {X Y : World} {l : LimD} {P : Nat} {lv : Value} {LS : List Value} {xs : List (List StmD)} (h : Lists X l P lv LS xs) (hb : Below X.heap.size X Y) : Lists Y l P lv LS xs := h.stir (B := 0) (Stir.of_below hb)
theorem bootOf_len {ss : List StD} {tn : Nat} (G : GoodT ss tn) : (bootOf ss).length ≤ 201 := by
  have := down_len G (ss.length - 0) 0 G.n1 rfl
  have := G.n2
  unfold bootOf
  simp
  omega

end Go.Proofs.YtiimkhepplkocaaGreat
namespace Go.Proofs.YtiimkhepplkocaaGreat
open Go.RowKit Go.Sort
set_option linter.unusedVariables false
attribute [local go_sem ↓] Go.wp_at_zero Go.wp_at_succ

/-- What Boot keeps: the four boxes. -/
structure Bx (w : World) (cx lx bx : Array Value) (X : World) : Prop where
  bel : Below w.heap.size w X
  c : X.heap[w.heap.size]? = some (.cells cx 36 (0, 0))
  l : X.heap[w.heap.size + 1]? = some (.cells lx 40 (0, 0))
  b : X.heap[w.heap.size + 1 + 1]? = some (.cells bx 32 (0, 0))
  r : X.heap[w.heap.size + 1 + 1 + 1]? = some (.cells #[.slice none 0 0, .slice none 0 0] 32 (0, 0))
theorem Bx.below {w : World} {cx lx bx : Array Value} {X Y : World} (h : Bx w cx lx bx X) (hb : Below X.heap.size X Y) : Bx w cx lx bx Y := ⟨h.bel.trans (hb.mono h.bel.size), block_below h.c hb, block_below h.l hb, block_below h.b hb, block_below h.r hb⟩
end Go.Proofs.YtiimkhepplkocaaGreat
