import Derived.Test.YtiimkhepplkocaaGreatZ25
import Derived.Test.YtiimkhepplkocaaGreatZg
namespace Go.Proofs.YtiimkhepplkocaaGreat
open Go.RowKit Go.Sort
set_option linter.unusedVariables false
attribute [local go_sem ↓] Go.wp_at_zero Go.wp_at_succ
theorem run_script (ss : List StD) (leaf : Nat) (t : TrD) : (runX ss leaf t).flatten = scriptS ss (exX ss leaf t) t.action (enX ss t) := by simp [runX, scriptS]
theorem path_q {ss : List StD} {ts : List TrD} {l : LimD} (hC : Chk ss ts l) (so tq : Option Addr) (n sc tn tc : Nat) (htn : ts.length = tn) {leaf : Nat} (hl : leaf < n) {q : Nat} (h : Way ss ts leaf q) (w : World) (hs : StatesOf w so n ss) (ht : TransOf w tq tn ts) :
  Calls Tryz.prog 51 #[.agg #[.slice so n sc, .slice tq tn tc], .int .i64 leaf, .int .i64 q] w fun e w' => ∃ ge ce gn cn, e = .returned (.tuple #[.slice (some ⟨ge, 0, none⟩) (exX ss leaf (ts.getD q tr0)).length ce, .slice (some ⟨gn, 0, none⟩) (enX ss (ts.getD q tr0)).length cn, .int .i64 (nxX ss leaf (ts.getD q tr0) : Nat)]) ∧ OwnI w w' (.slice (some ⟨ge, 0, none⟩) (exX ss leaf (ts.getD q tr0)).length ce) (exX ss leaf (ts.getD q tr0)) ∧ OwnI w w' (.slice (some ⟨gn, 0, none⟩) (enX ss (ts.getD q tr0)).length cn) (enX ss (ts.getD q tr0)) ∧ Below w.heap.size w w' := by
 have h1 := hC.src q h.lt
 have h2 := hC.tgt q h.lt
 have hn := hs.1
 have G := hC.good
 have ht2 : tn ≤ 500 := by rw [← htn]; exact G.tn
 have hq : q < tn := by rw [← htn]; exact h.lt
 by_cases he : (ts.getD q tr0).target = -1
 ·have k := l3Path_in so tq n sc tn tc ts ht2 leaf q hq (by omega) w ht
  unfold exX enX nxX
  rw [if_pos he, if_pos he, if_pos he]
  exact k.mono (by
   rintro e w' ⟨ge, gn, rfl, h1, h2, h3, h4⟩
   exact ⟨ge, 0, gn, 0, rfl, h1, h2, h4⟩)
 ·have k := l3Path_to so tq n sc tn tc ss ts (by rw [← htn]; exact G) leaf hl q hq (ts.getD q tr0).src.toNat (ts.getD q tr0).target.toNat (by omega) (by omega) (by omega) (by omega) h.src w hs ht
  unfold exX enX nxX
  rw [if_neg he, if_neg he, if_neg he]
  exact k.mono (by
   rintro e w' ⟨ge, ce, gn, cn, rfl, h1, h2, h3, h4⟩
   exact ⟨ge, ce, gn, cn, rfl, h1, h2, h4⟩)
theorem nats_own {w w' X : World} {g cap : Nat} {l : List Nat} (h : OwnI w w' (.slice (some ⟨g, 0, none⟩) l.length cap) l) (hb : Below w'.heap.size w' X) : NatsOf X (some ⟨g, 0, none⟩) l := fun h0 => by
 have hl : g < w'.heap.size := (World.ownsRow.lt h g rfl).2
 refine ⟨g, rfl, Nat.lt_of_lt_of_le hl hb.size, fun j hj => (hb.cell (p := ⟨g, j, none⟩) hl).trans ?_⟩
 rw [World.ownsRow.cellAt h j (by omega)]
 simp [ints, List.getElem?_eq_getElem hj]
structure Dq (w : World) (cx bx ex : Array Value) (X : World) : Prop where
 bel : Below w.heap.size w X
 c : X.heap[w.heap.size]? = some (.cells cx 36 (0, 0))
 b : X.heap[w.heap.size + 1]? = some (.cells bx 32 (0, 0))
 e : X.heap[w.heap.size + 1 + 1]? = some (.cells ex 51 (0, 0))
 r : X.heap[w.heap.size + 1 + 1 + 1]? = some (.cells #[.slice none 0 0, .slice none 0 0] 32 (0, 0))
theorem Dq.below {w : World} {cx bx ex : Array Value} {X Y : World} (h : Dq w cx bx ex X) (hb : Below X.heap.size X Y) : Dq w cx bx ex Y := ⟨h.bel.trans (hb.mono h.bel.size), block_below h.c hb, block_below h.b hb, block_below h.e hb, block_below h.r hb⟩
theorem dq_start (w : World) (cx bx ex : Array Value) : Dq w cx bx ex ((((w.alloc (.cells cx 36)).alloc (.cells bx 32)).alloc (.cells ex 51)).alloc (.cells #[.slice none 0 0, .slice none 0 0] 32)) := by
 have h2 := heap_alloc_new (w.alloc (.cells cx 36)) (.cells bx 32)
 have h3 := heap_alloc_new ((w.alloc (.cells cx 36)).alloc (.cells bx 32)) (.cells ex 51)
 have h4 := heap_alloc_new (((w.alloc (.cells cx 36)).alloc (.cells bx 32)).alloc (.cells ex 51)) (.cells #[.slice none 0 0, .slice none 0 0] 32)
 simp only [World.size_alloc] at h2 h3 h4
 exact ⟨(below3 _ _ _ _).alloc (by simp; omega) _, block_below (block_below (block_below (heap_alloc_new w _) (below1 _ _)) (below1 _ _)) (below1 _ _), block_below (block_below h2 (below1 _ _)) (below1 _ _), block_below h3 (below1 _ _), h4⟩
theorem Dq.grown {w : World} {cx bx ex : Array Value} {X Y : World} {n : Nat} {v : Value} {xs : List Value} (h : Dq w cx bx ex X) (ho : X.ownsRow w.heap.size 3 1 v n xs) (hg : X.grownBy Y v.ownBlock) : Dq w cx bx ex Y :=
 ⟨h.bel.grown hg h.bel.size (fun kk e => (ho.lt kk e).1), (hg.block _ (lt_of_block h.c) (fun e => own_far ho (by decide) h.c e.symm)).trans h.c, (hg.block _ (lt_of_block h.b) (fun e => own_far ho (by decide) h.b e.symm)).trans h.b, (hg.block _ (lt_of_block h.e) (fun e => own_far ho (by decide) h.e e.symm)).trans h.e, (hg.block _ (lt_of_block h.r) (fun e => own_far ho (by decide) h.r e.symm)).trans h.r⟩
structure Dl (w : World) (cx bx ex : Array Value) (H : Nat) (kv : Value) (ks : List Int) (gc cc : Nat) (K : List Nat) (X : World) : Prop where
 q : Dq w cx bx ex X
 h : X.heap[H]? = some (.cells #[kv, .slice none 0 0] 32 (0, 0))
 ok : X.ownsRow w.heap.size 3 1 kv ks.length (ks.map (Value.int .i64))
 oc : X.ownsRow w.heap.size 3 1 (.slice (some ⟨gc, 0, none⟩) K.length cc) K.length (ints K)
theorem Dl.below {w : World} {cx bx ex : Array Value} {H : Nat} {kv : Value} {ks : List Int} {gc cc : Nat} {K : List Nat} {X Y : World} (h : Dl w cx bx ex H kv ks gc cc K X) (hb : Below X.heap.size X Y) : Dl w cx bx ex H kv ks gc cc K Y := ⟨h.q.below hb, block_below h.h hb, ownsRow_below h.ok hb, ownsRow_below h.oc hb⟩
theorem OutE.set1 {B : Nat} {w : World} {kv vv ev : Value} {ks vs : List Int} {es : List EffD} {b : Nat} {cs : Array Value} {t : TypeId} (h : OutE B w kv vv ev ks vs es) (hb : w.heap[b]? = some (.cells cs t (0, 0))) (h1 : t ≠ 3) (h2 : t ≠ 136) (o1 : Nat) (u1 : Value) : OutE B (w.setCell ⟨b, o1, none⟩ u1) kv vv ev ks vs es :=
 ⟨ownsRow_setCell_other (a := ⟨b, o1, none⟩) h.k (own_far h.k h1 hb) u1, ownsRow_setCell_other (a := ⟨b, o1, none⟩) h.v (own_far h.v h1 hb) u1, ownsRow_setCell_other (a := ⟨b, o1, none⟩) h.e (own_far h.e h2 hb) u1, h.ne⟩
end Go.Proofs.YtiimkhepplkocaaGreat
