import Derived.Test.YtkdgkomnbjepdaaGreatDoorSa
import Derived.Test.YtkdgkomnbjepdaaGreatDoorOa
import Derived.Deep.LoopGhost
namespace Go.Proofs.YtkdgkomnbjepdaaGreatDoor
open Go.RowKit Go.Sort
attribute [local go_sem ↓] Go.wp_at_zero Go.wp_at_succ
def badA (l : LimD) (ss : List StD) (i : Nat) : Bool := !(stmsB l (ss.getD i st0).entry && stmsB l (ss.getD i st0).exit)
def grdB (l : LimD) (g : List (Int × Int)) : Bool := decide (g.length = 0) || codeB g l.v
def okTr (n : Nat) (l : LimD) (t : TrD) : Bool := betB t.src 0 ((n : Int) - 1) && (betB t.sig 0 (l.s - 1) && (betB t.target (-1) ((n : Int) - 1) && (grdB l t.guard && stmsB l t.action)))
def badT (n : Nat) (l : LimD) (ts : List TrD) (j : Nat) : Bool := !(okTr n l (ts.getD j tr0))
def checkOf (ss : List StD) (ts : List TrD) (l : LimD) : Int × Int :=
 if (faultOf ss ts.length (limB l)).1 = 0 then
  match firstB (badA l ss) ss.length with
  | some i => (5,i)
  | none => match firstB (badT ss.length l ts) ts.length with
   | some j => (6,j)
   | none => (0,0)
 else faultOf ss ts.length (limB l)
theorem check_fault {ss : List StD} {ts : List TrD} {l : LimD} (h : ¬ (faultOf ss ts.length (limB l)).1 = 0) : checkOf ss ts l = faultOf ss ts.length (limB l) := if_neg h
theorem check_action {ss : List StD} {ts : List TrD} {l : LimD} (h : (faultOf ss ts.length (limB l)).1 = 0) {k : Nat} (hk : k < ss.length) (h1 : badA l ss k = true) (h2 : ∀ j,j < k → badA l ss j = false) : checkOf ss ts l = (5,(k : Int)) := by
 unfold checkOf; rw [if_pos h,firstB_some hk h1 h2]
theorem check_trans {ss : List StD} {ts : List TrD} {l : LimD} (h : (faultOf ss ts.length (limB l)).1 = 0) (ha : ∀ j,j < ss.length → badA l ss j = false) {k : Nat} (hk : k < ts.length) (h1 : badT ss.length l ts k = true) (h2 : ∀ j,j < k → badT ss.length l ts j = false) : checkOf ss ts l = (6,(k : Int)) := by
 unfold checkOf; rw [if_pos h,firstB_none ha,firstB_some hk h1 h2]
theorem check_ok {ss : List StD} {ts : List TrD} {l : LimD} (h : (faultOf ss ts.length (limB l)).1 = 0) (ha : ∀ j,j < ss.length → badA l ss j = false) (ht : ∀ j,j < ts.length → badT ss.length l ts j = false) : checkOf ss ts l = (0,0) := by
 unfold checkOf; rw [if_pos h,firstB_none ha,firstB_none ht]
structure Env (w wr : World) (c l : Array Value) : Prop where
 bel : Below w.heap.size w wr
 ch : wr.heap[w.heap.size]? = some (.cells c 64 (0,0))
 li : wr.heap[w.heap.size + 1]? = some (.cells l 81 (0,0))
theorem Env.below {w wr w1 : World} {c l : Array Value} (h : Env w wr c l) (hb : Below wr.heap.size wr w1) : Env w w1 c l := ⟨h.bel.trans (hb.mono h.bel.size),block_below h.ch hb,block_below h.li hb⟩
theorem Env.alloc {w wr : World} {c l : Array Value} (h : Env w wr c l) (o : Obj) : Env w (wr.alloc o) c l := h.below (below1 _ _)
theorem env_start (w : World) (c l : Array Value) : Env w ((w.alloc (.cells c 64)).alloc (.cells l 81)) c l :=
 ⟨below2 _ _ _,block_below (heap_alloc_new w _) (below1 _ _),by simpa using heap_alloc_new (w.alloc (.cells c 64)) (.cells l 81)⟩
theorem env_var {w wr w1 : World} {c l : Array Value} {o : Obj} (h : Env w wr c l) (hb : Below (wr.alloc o).heap.size (wr.alloc o) w1) : Env w w1 c l ∧ w1.heap[wr.heap.size]? = some o := ⟨(h.alloc o).below hb,block_below (heap_alloc_new wr o) hb⟩
end Go.Proofs.YtkdgkomnbjepdaaGreatDoor
