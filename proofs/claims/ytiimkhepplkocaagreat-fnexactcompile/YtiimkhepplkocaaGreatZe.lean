import Derived.Test.YtiimkhepplkocaaGreatZ24
import Derived.Test.YtiimkhepplkocaaGreatZf
import Derived.Test.YtiimkhepplkocaaGreatZg
namespace Go.Proofs.YtiimkhepplkocaaGreat
open Go.RowKit Go.Sort
set_option linter.unusedVariables false
attribute [local go_sem ↓] Go.wp_at_zero Go.wp_at_succ

theorem leaf_ini {ss : List StD} {tn : Nat} (g : GoodT ss tn) {s : Nat} (hs : s < ss.length) : decide (kids ss ss.length s = []) = decide (ini ss s < 0) := by
  have h := g.ini s hs
  unfold badI at h
  by_cases e : kids ss ss.length s = []
  · rw [if_pos e] at h
    simp only [Bool.not_eq_false', decide_eq_true_eq] at h
    rw [decide_eq_true e, decide_eq_true (by omega)]
  · rw [if_neg e] at h
    simp only [Bool.not_eq_false', decide_eq_true_eq] at h
    rw [decide_eq_false e, decide_eq_false (by omega)]
/-- What Dispatch keeps: the five boxes. -/
structure Bw (w : World) (cx lx bx ex : Array Value) (X : World) : Prop where
  bel : Below w.heap.size w X
  c : X.heap[w.heap.size]? = some (.cells cx 36 (0, 0))
  l : X.heap[w.heap.size + 1]? = some (.cells lx 40 (0, 0))
  b : X.heap[w.heap.size + 1 + 1]? = some (.cells bx 32 (0, 0))
  e : X.heap[w.heap.size + 1 + 1 + 1]? = some (.cells ex 51 (0, 0))
  r : X.heap[w.heap.size + 1 + 1 + 1 + 1]? = some (.cells #[.slice none 0 0, .slice none 0 0] 32 (0, 0))
theorem Bw.below {w : World} {cx lx bx ex : Array Value} {X Y : World} (h : Bw w cx lx bx ex X) (hb : Below X.heap.size X Y) : Bw w cx lx bx ex Y := ⟨h.bel.trans (hb.mono h.bel.size), block_below h.c hb, block_below h.l hb, block_below h.b hb, block_below h.e hb, block_below h.r hb⟩
end Go.Proofs.YtiimkhepplkocaaGreat
namespace Go.Proofs.YtiimkhepplkocaaGreat
open Go.RowKit Go.Sort
set_option linter.unusedVariables false
attribute [local go_sem ↓] Go.wp_at_zero Go.wp_at_succ

/-- The boxes of l3Dispatch. -/
structure Dq (w : World) (cx bx ex : Array Value) (X : World) : Prop where
  bel : Below w.heap.size w X
  c : X.heap[w.heap.size]? = some (.cells cx 36 (0, 0))
  b : X.heap[w.heap.size + 1]? = some (.cells bx 32 (0, 0))
  e : X.heap[w.heap.size + 1 + 1]? = some (.cells ex 51 (0, 0))
  r : X.heap[w.heap.size + 1 + 1 + 1]? = some (.cells #[.slice none 0 0, .slice none 0 0] 32 (0, 0))
theorem Dq.below {w : World} {cx bx ex : Array Value} {X Y : World} (h : Dq w cx bx ex X) (hb : Below X.heap.size X Y) : Dq w cx bx ex Y := ⟨h.bel.trans (hb.mono h.bel.size), block_below h.c hb, block_below h.b hb, block_below h.e hb, block_below h.r hb⟩
theorem Dq.grown {w : World} {cx bx ex : Array Value} {X Y : World} {n : Nat} {v : Value} {xs : List Value} (h : Dq w cx bx ex X) (ho : X.ownsRow w.heap.size 3 1 v n xs) (hg : X.grownBy Y v.ownBlock) : Dq w cx bx ex Y :=
  ⟨h.bel.grown hg h.bel.size (fun kk e => (ho.lt kk e).1), (hg.block _ (lt_of_block h.c) (fun e => own_far ho (by decide) h.c e.symm)).trans h.c, (hg.block _ (lt_of_block h.b) (fun e => own_far ho (by decide) h.b e.symm)).trans h.b, (hg.block _ (lt_of_block h.e) (fun e => own_far ho (by decide) h.e e.symm)).trans h.e, (hg.block _ (lt_of_block h.r) (fun e => own_far ho (by decide) h.r e.symm)).trans h.r⟩
/-- What its loop keeps. -/
structure Dl (w : World) (cx bx ex : Array Value) (H : Nat) (kv : Value) (ks : List Int) (gc cc : Nat) (K : List Nat) (X : World) : Prop where
  q : Dq w cx bx ex X
  h : X.heap[H]? = some (.cells #[kv, .slice none 0 0] 32 (0, 0))
  ok : X.ownsRow w.heap.size 3 1 kv ks.length (ks.map (Value.int .i64))
  oc : X.ownsRow w.heap.size 3 1 (.slice (some ⟨gc, 0, none⟩) K.length cc) K.length (ints K)
theorem Dl.below {w : World} {cx bx ex : Array Value} {H : Nat} {kv : Value} {ks : List Int} {gc cc : Nat} {K : List Nat} {X Y : World} (h : Dl w cx bx ex H kv ks gc cc K X) (hb : Below X.heap.size X Y) : Dl w cx bx ex H kv ks gc cc K Y := ⟨h.q.below hb, block_below h.h hb, ownsRow_below h.ok hb, ownsRow_below h.oc hb⟩
end Go.Proofs.YtiimkhepplkocaaGreat
