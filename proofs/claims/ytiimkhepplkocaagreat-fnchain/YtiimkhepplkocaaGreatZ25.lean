import Derived.Test.YtiimkhepplkocaaGreatZ24
import Derived.Test.YtiimkhepplkocaaGreatZf
namespace Go.Proofs.YtiimkhepplkocaaGreat
open Go.RowKit Go.Sort
set_option linter.unusedVariables false
attribute [local go_sem ↓] Go.wp_at_zero Go.wp_at_succ
def leafB (ss : List StD) (l : Int) : Bool := betB l 0 ((ss.length : Int) - 1) && decide (kids ss ss.length l.toNat = [])
theorem leaf_ini {ss : List StD} {tn : Nat} (g : GoodT ss tn) {s : Nat} (hs : s < ss.length) : decide (kids ss ss.length s = []) = decide (ini ss s < 0) := by
 have h := g.ini s hs
 unfold badI at h
 by_cases e : kids ss ss.length s = []
 ·rw [if_pos e] at h
  simp only [Bool.not_eq_false', decide_eq_true_eq] at h
  rw [decide_eq_true e, decide_eq_true (by omega)]
 ·rw [if_neg e] at h
  simp only [Bool.not_eq_false', decide_eq_true_eq] at h
  rw [decide_eq_false e, decide_eq_false (by omega)]
theorem betB_val (x a b : Int) : betB x a b = decide (a ≤ x ∧ x ≤ b) := rfl
theorem leafB_at {ss : List StD} {tn : Nat} (g : GoodT ss tn) {k : Nat} (hk : k < ss.length) : leafB ss (k : Int) = decide (ini ss k < 0) := by
 unfold leafB
 rw [betB_val, decide_eq_true (by omega), Bool.true_and, Int.toNat_natCast, leaf_ini g hk]
theorem leafB_out {ss : List StD} {x : Int} (h : ¬ (0 ≤ x ∧ x < ss.length)) : leafB ss x = false := by
 unfold leafB
 rw [betB_val, decide_eq_false (by omega), Bool.false_and]
set_option maxHeartbeats 1600000 in
theorem hasLeaf_any {w0 : World} {cx lx : Array Value} {N : Nat → Nat} {tg tcap : Nat} {ss : List StD} {ts : List TrD} {n : Nat} {l : LimD} {B P M tn : Nat} {E F : List Value} {ev xv : Value} {L lets act : Nat → Value} (hC : Chk ss ts l) (hn : ss.length = n) (x : Int) (w : World) (h : L2 w0 cx lx N tg tcap ss ts n l B P M tn E F ev xv L lets act w) :
  Calls Tryz.prog 58 #[.pointer (some ⟨M, 0, none⟩), .int .i64 x] w fun e w' => e = .returned (.bool (leafB ss x)) ∧ w' = w := by
 subst hn
 have c0 := (five_cells h.l1.mac.box).1
 have CW := hid (within_any x (ss.length : Int) w)
 by_cases hx : 0 ≤ x ∧ x < ss.length
 ·obtain ⟨k, rfl⟩ : ∃ k : Nat, x = k := ⟨x.toNat, by omega⟩
  have hk : k < ss.length := by omega
  have ct := tree_cell h.l1.mb.tr hk
  have CI := hid (isLeaf_any N ss k hk w h.l1.mb.nd)
  rw [leafB_at hC.good hk]
  obtain ⟨b, hb⟩ : ∃ b, b = decide (ini ss k < 0) := ⟨_, rfl⟩
  rw [← hb] at CI ⊢
  rw [decide_eq_true hx] at CW
  have ki : (k : Int) < (ss.length : Int) := by omega
  clear h hb hx hC
  go_enter Tryz.func58, Tryz.ntmps58
  go_wp2_with (first
   | (go_at_call 59; refine CW.out.mono ?_; rintro e wa ⟨rfl, hw⟩; obtain rfl := hw.symm)
   | (go_at_call 45; refine CI.out.mono ?_; rintro e wb ⟨rfl, hw⟩; obtain rfl := hw.symm))
  go_ret
  exact ⟨rfl, rfl⟩
 ·rw [leafB_out hx]
  rw [decide_eq_false hx] at CW
  clear h hx hC
  go_enter Tryz.func58, Tryz.ntmps58
  go_wp2_with (go_at_call 59; refine CW.out.mono ?_; rintro e wa ⟨rfl, hw⟩; obtain rfl := hw.symm)
  go_ret
  exact ⟨rfl, rfl⟩
def okDp (ss : List StD) (ts : List TrD) (l : LimD) (ks vs : List Int) (leaf sg : Int) : Bool := okBt ss ts l ks vs && (leafB ss leaf && decide (0 ≤ sg ∧ sg < l.s))
def dL (ss : List StD) (ts : List TrD) (l : LimD) (ks vs : List Int) (leaf sg arg : Int) : Int := if okDp ss ts l ks vs leaf sg then (dpN ss ts leaf.toNat (pickX ss ts l vs arg leaf.toNat sg) : Nat) else -1
def dK (ss : List StD) (ts : List TrD) (l : LimD) (ks vs : List Int) (leaf sg : Int) : List Int := if okDp ss ts l ks vs leaf sg then ks else []
def dV (ss : List StD) (ts : List TrD) (l : LimD) (ks vs : List Int) (leaf sg arg : Int) : List Int := if okDp ss ts l ks vs leaf sg then (dpX ss ts l ks vs arg leaf.toNat (pickX ss ts l vs arg leaf.toNat sg)).1 else []
def dE (ss : List StD) (ts : List TrD) (l : LimD) (ks vs : List Int) (leaf sg arg : Int) : List EffD := if okDp ss ts l ks vs leaf sg then (dpX ss ts l ks vs arg leaf.toNat (pickX ss ts l vs arg leaf.toNat sg)).2 else []
def dB (ss : List StD) (ts : List TrD) (l : LimD) (ks vs : List Int) (leaf sg arg : Int) : Bool := if okDp ss ts l ks vs leaf sg then (pickX ss ts l vs arg leaf.toNat sg).isSome else false
structure Bw (w : World) (cx lx bx ex : Array Value) (X : World) : Prop where
 bel : Below w.heap.size w X
 c : X.heap[w.heap.size]? = some (.cells cx 36 (0, 0))
 l : X.heap[w.heap.size + 1]? = some (.cells lx 40 (0, 0))
 b : X.heap[w.heap.size + 1 + 1]? = some (.cells bx 32 (0, 0))
 e : X.heap[w.heap.size + 1 + 1 + 1]? = some (.cells ex 51 (0, 0))
 r : X.heap[w.heap.size + 1 + 1 + 1 + 1]? = some (.cells #[.slice none 0 0, .slice none 0 0] 32 (0, 0))
theorem Bw.below {w : World} {cx lx bx ex : Array Value} {X Y : World} (h : Bw w cx lx bx ex X) (hb : Below X.heap.size X Y) : Bw w cx lx bx ex Y := ⟨h.bel.trans (hb.mono h.bel.size), block_below h.c hb, block_below h.l hb, block_below h.b hb, block_below h.e hb, block_below h.r hb⟩
theorem bw_start (w : World) (cx lx bx ex : Array Value) : Bw w cx lx bx ex (((((w.alloc (.cells cx 36)).alloc (.cells lx 40)).alloc (.cells bx 32)).alloc (.cells ex 51)).alloc (.cells #[.slice none 0 0, .slice none 0 0] 32)) := by
 have h2 := heap_alloc_new (w.alloc (.cells cx 36)) (.cells lx 40)
 have h3 := heap_alloc_new ((w.alloc (.cells cx 36)).alloc (.cells lx 40)) (.cells bx 32)
 have h4 := heap_alloc_new (((w.alloc (.cells cx 36)).alloc (.cells lx 40)).alloc (.cells bx 32)) (.cells ex 51)
 have h5 := heap_alloc_new ((((w.alloc (.cells cx 36)).alloc (.cells lx 40)).alloc (.cells bx 32)).alloc (.cells ex 51)) (.cells #[.slice none 0 0, .slice none 0 0] 32)
 simp only [World.size_alloc] at h2 h3 h4 h5
 exact ⟨((below3 _ _ _ _).alloc (by simp; omega) _).alloc (by simp; omega) _, block_below (block_below (block_below (block_below (heap_alloc_new w _) (below1 _ _)) (below1 _ _)) (below1 _ _)) (below1 _ _), block_below (block_below (block_below h2 (below1 _ _)) (below1 _ _)) (below1 _ _), block_below (block_below h3 (below1 _ _)) (below1 _ _), block_below h4 (below1 _ _), h5⟩
end Go.Proofs.YtiimkhepplkocaaGreat
