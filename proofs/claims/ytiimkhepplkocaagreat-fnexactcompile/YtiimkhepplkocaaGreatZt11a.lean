import Derived.Test.YtiimkhepplkocaaGreatTc
import Derived.Test.YtiimkhepplkocaaGreatZe
import Derived.Test.YtiimkhepplkocaaGreatZg
namespace Go.Proofs.YtiimkhepplkocaaGreat
open Go.RowKit Go.Sort
set_option linter.unusedVariables false
attribute [local go_sem ↓] Go.wp_at_zero Go.wp_at_succ

/-- The model's table in the making: between two cells, and within one. -/
def tblS (sg : Nat) (Lv : List Nat) (C : List (List RwD)) : TbD := ⟨(sg : Int), Lv, stB C, C.flatten, rw0⟩
def tblM (sg : Nat) (Lv : List Nat) (C : List (List RwD)) (m : List RwD) : TbD := ⟨(sg : Int), Lv, stOf C, C.flatten ++ m, rw0⟩
theorem at_new2 {lv v' : Value} {g n cap N H : Nat} (hv : v' = .slice (some ⟨g, 0, none⟩) n cap) (hat : lv.ownBlock = some g ∨ g = H) (hH : N ≤ H) : ∀ b, v'.ownBlock = some b → lv.ownBlock = some b ∨ N ≤ b := fun b e => by
  subst hv
  simp [Value.ownBlock] at e
  subst e
  rcases hat with h | h
  · exact .inl h
  · exact .inr (by omega)
theorem i_keep {X Z : World} {B C HB o : Nat} {v rv u : Value} {n m : Nat} {xs ys : List Value} {cs : Array Value} (h : X.ownsRow B 3 1 v n xs) (hro : X.ownsRow C 44 4 rv m ys) (hg : X.grownBy Z rv.ownBlock) (hb : X.heap[HB]? = some (.cells cs 46 (0, 0))) : (Z.setCell ⟨HB, o, none⟩ u).ownsRow B 3 1 v n xs := by
  have gP := grown_P hg
  have hz := gP.own h (fun b e e2 => own_type h hro b e e2)
  exact (OnlyP.set (P := fun b => b = HB) u rfl).own hz (fun b e => int_tag h hb b e)
abbrev set47 (X : World) (r : Nat) (e f g i : Value) : World := (((X.setCell ⟨r, 4, none⟩ e).setCell ⟨r, 5, none⟩ f).setCell ⟨r, 6, none⟩ g).setCell ⟨r, 7, none⟩ i
theorem only47 {X : World} {r : Nat} {e f g i : Value} : OnlyP (fun q => q = r) X (set47 X r e f g i) :=
  have s : ∀ {Y : World} {o : Nat} {u : Value}, OnlyP (fun q => q = r) Y (Y.setCell ⟨r, o, none⟩ u) := OnlyP.set _ rfl
  ((s.trans s).trans s).trans s
theorem row47 {X : World} {r : Nat} {e f g i x0 x1 x2 x3 x4 x5 x6 x7 : Value} {t : TypeId} (h : X.heap[r]? = some (.cells #[x0, x1, x2, x3, x4, x5, x6, x7] t (0, 0))) : (set47 X r e f g i).heap[r]? = some (.cells #[x0, x1, x2, x3, e, f, g, i] t (0, 0)) := by
  have m5 := heap_setCell_same X r 4 _ _ e h
  have m6 := heap_setCell_same _ r 5 _ _ f m5
  have m7 := heap_setCell_same _ r 6 _ _ g m6
  have m8 := heap_setCell_same _ r 7 _ _ i m7
  rw [m8]; simp
section
variable {w : World} {HB : Nat} {d : TbD} {lv sv rv bx bn : Value} {R : List (List Value)} {X Y : World} {P : Nat → Prop}
abbrev TbB (d : TbD) (lv sv rv bx bn : Value) (R : List (List Value)) (b : Nat) : Prop := Outer lv sv bx bn b ∨ rv.ownBlock = some b ∨ Inner (xvOf R) (nvOf R) d.rw.length b
theorem TbI.lt (h : TbI w HB d lv sv rv bx bn R X) : ∀ b, TbB d lv sv rv bx bn R b → b < X.heap.size := by
  rintro b ((e | e | e | e) | e | e)
  · exact (h.l.lt b e).2
  · exact (h.s.lt b e).2
  · exact (h.x.lt b e).2
  · exact (h.n.lt b e).2
  · exact (h.ro.lt b e).2
  · exact (h.inner b e).2
theorem TbI.keep (h : TbI w HB d lv sv rv bx bn R X) (hP : OnlyP P X Y) (h0 : ∀ b, P b → w.heap.size ≤ b) (hB : ¬ P HB) (hn : ∀ b, TbB d lv sv rv bx bn R b → ¬ P b) : TbI w HB d lv sv rv bx bn R Y :=
  ⟨h.bel.trans (hP.toBelow h0 h.bel.size), (hP.block HB (lt_of_block h.box) hB).trans h.box, h.hB, hP.own h.l (fun b e => hn b (.inl (.inl e))), hP.own h.s (fun b e => hn b (.inl (.inr (.inl e)))), hP.own h.x (fun b e => hn b (.inl (.inr (.inr (.inl e))))), hP.own h.n (fun b e => hn b (.inl (.inr (.inr (.inr e))))), h.ri.keep hP (fun b hi => hn b (.inr (.inr hi))), hP.own h.ro (fun b e => hn b (.inr (.inl e))), h.ap⟩
theorem TbI.boot {N : Nat} {v' : Value} {L : List Nat} {tr nx : Int} (h : TbI w HB d lv sv rv bx bn R X) (hlt : ∀ b, TbB d lv sv rv bx bn R b → b < N) (hN : w.heap.size ≤ N) (ho : X.ownsRow N 3 1 v' L.length (ints L)) : TbI w HB ⟨d.sg, d.lv, d.st, d.rw, ⟨tr, [], L, nx⟩⟩ lv sv rv (.slice none 0 0) v' R (set47 X HB (.int .i64 tr) (.slice none 0 0) v' (.int .i64 nx)) := by
  have hP : OnlyP (fun q => q = HB) X (set47 X HB (.int .i64 tr) (.slice none 0 0) v' (.int .i64 nx)) := only47
  have iB : ∀ {u : Value} {B n : Nat} {xs : List Value}, X.ownsRow B 3 1 u n xs → ∀ b, u.ownBlock = some b → ¬ b = HB := fun hu b e => int_tag hu h.box b e
  have nv : ∀ b, v'.ownBlock = some b → N ≤ b := fun b e => (ho.lt b e).1
  refine ⟨h.bel.trans (hP.toBelow (fun b e => by have := h.hB; omega) h.bel.size), row47 h.box, h.hB, hP.own h.l (iB h.l), hP.own h.s (iB h.s), World.ownsRow_nil _ _ _ _, hP.own (ownsRow_base ho hN) (iB ho), h.ri.keep hP (fun b hi => h.innerBox b hi), hP.own h.ro (fun b e => rows_tag h.ro h.box b e), ⟨h.ap.ls, fun b e e2 => by simp [Value.ownBlock] at e2, fun b e e2 => ?_, fun b e e2 => by simp [Value.ownBlock] at e2, fun b e e2 => ?_, fun b e e2 => by simp [Value.ownBlock] at e, fun b e hi => ?_, h.ap.row⟩⟩
  · have := nv b e2; have := hlt b (.inl (.inl e)); omega
  · have := nv b e2; have := hlt b (.inl (.inr (.inl e))); omega
  · rcases e with e | e | e | e
    · exact h.ap.inn b (.inl e) hi
    · exact h.ap.inn b (.inr (.inl e)) hi
    · simp [Value.ownBlock] at e
    · have := nv b e; have := hlt b (.inr hi); omega
theorem RowsIn.base {X : World} {B C : Nat} {ds : List RwD} {R : List (List Value)} (h : RowsIn X B ds R) (hb : C ≤ B) : RowsIn X C ds R := ⟨h.1, fun i hi => by
  obtain ⟨xv, nv, e, h1, h2⟩ := h.2 i hi
  exact ⟨xv, nv, e, ownsRow_base h1 hb, ownsRow_base h2 hb⟩⟩
theorem TbI.tab {B r : Nat} (h : TbI w HB d lv sv rv bx bn R X) (hP : OnlyP (fun b => b = r) X Y) (hr : r < w.heap.size) (hB : B ≤ w.heap.size) : Tab Y B d lv sv rv bx bn := by
  have no : ∀ {u : Value} {t : TypeId} {k n : Nat} {xs : List Value}, X.ownsRow w.heap.size t k u n xs → Y.ownsRow B t k u n xs := fun hu => ownsRow_base (hP.own hu (fun b e e2 => by have := (hu.lt b e).1; omega)) hB
  exact ⟨no h.l, no h.s, no h.x, no h.n, R, (h.ri.keep hP (fun b hi e => by have := (h.inner b hi).1; omega)).base hB, no h.ro⟩
end
theorem path_q2 {ss : List StD} {ts : List TrD} {l : LimD} (hC : Chk ss ts l) (so tq : Option Addr) (n sc tn tc : Nat) (htn : ts.length = tn) {leaf : Nat} (hl : leaf < n) {q : Nat} (h : Way ss ts leaf q) (w : World) (hs : StatesOf w so n ss) (ht : TransOf w tq tn ts) :
    Calls Tryz.prog 51 #[.agg #[.slice so n sc, .slice tq tn tc], .int .i64 leaf, .int .i64 q] w fun e w' => ∃ ge ce gn cn, e = .returned (.tuple #[.slice (some ⟨ge, 0, none⟩) (exX ss leaf (ts.getD q tr0)).length ce, .slice (some ⟨gn, 0, none⟩) (enX ss (ts.getD q tr0)).length cn, .int .i64 (nxX ss leaf (ts.getD q tr0) : Nat)]) ∧ OwnI w w' (.slice (some ⟨ge, 0, none⟩) (exX ss leaf (ts.getD q tr0)).length ce) (exX ss leaf (ts.getD q tr0)) ∧ OwnI w w' (.slice (some ⟨gn, 0, none⟩) (enX ss (ts.getD q tr0)).length cn) (enX ss (ts.getD q tr0)) ∧ ge ≠ gn ∧ Below w.heap.size w w' := by
  have h1 := hC.src q h.lt
  have h2 := hC.tgt q h.lt
  have hn := hs.1
  have G := hC.good
  have ht2 : tn ≤ 500 := by rw [← htn]; exact G.tn
  have hq : q < tn := by rw [← htn]; exact h.lt
  by_cases he : (ts.getD q tr0).target = -1
  · have k := l3Path_in so tq n sc tn tc ts ht2 leaf q hq (by omega) w ht
    unfold exX enX nxX
    rw [if_pos he, if_pos he, if_pos he]
    exact k.mono (by
      rintro e w' ⟨ge, gn, rfl, h1, h2, h3, h4⟩
      exact ⟨ge, 0, gn, 0, rfl, h1, h2, h3, h4⟩)
  · have k := l3Path_to so tq n sc tn tc ss ts (by rw [← htn]; exact G) leaf hl q hq (ts.getD q tr0).src.toNat (ts.getD q tr0).target.toNat (by omega) (by omega) (by omega) (by omega) h.src w hs ht
    unfold exX enX nxX
    rw [if_neg he, if_neg he, if_neg he]
    exact k.mono (by
      rintro e w' ⟨ge, ce, gn, cn, rfl, h1, h2, h3, h4⟩
      exact ⟨ge, ce, gn, cn, rfl, h1, h2, h3, h4⟩)
structure Cr0 (w : World) (cx lx : Array Value) (X : World) : Prop where
  bel : Below w.heap.size w X
  c : X.heap[w.heap.size]? = some (.cells cx 36 (0, 0))
  l : X.heap[w.heap.size + 1]? = some (.cells lx 40 (0, 0))
  r : X.heap[w.heap.size + 1 + 1]? = some (.cells #[.int .i64 0, .slice none 0 0, .slice none 0 0, .slice none 0 0, .int .i64 0, .slice none 0 0, .slice none 0 0, .int .i64 0] 46 (0, 0))
theorem Cr0.below {w : World} {cx lx : Array Value} {X Y : World} (h : Cr0 w cx lx X) (hb : Below X.heap.size X Y) : Cr0 w cx lx Y := ⟨h.bel.trans (hb.mono h.bel.size), block_below h.c hb, block_below h.l hb, block_below h.r hb⟩
theorem cr0_start (w : World) (cx lx : Array Value) : Cr0 w cx lx (((w.alloc (.cells cx 36)).alloc (.cells lx 40)).alloc (.cells #[.int .i64 0, .slice none 0 0, .slice none 0 0, .slice none 0 0, .int .i64 0, .slice none 0 0, .slice none 0 0, .int .i64 0] 46)) := by
  have h2 := heap_alloc_new (w.alloc (.cells cx 36)) (.cells lx 40)
  have h3 := heap_alloc_new ((w.alloc (.cells cx 36)).alloc (.cells lx 40)) (.cells #[.int .i64 0, .slice none 0 0, .slice none 0 0, .slice none 0 0, .int .i64 0, .slice none 0 0, .slice none 0 0, .int .i64 0] 46)
  simp only [World.size_alloc] at h2 h3
  exact ⟨below3 _ _ _ _, block_below (block_below (heap_alloc_new w _) (below1 _ _)) (below1 _ _), block_below h2 (below1 _ _), h3⟩
theorem tbi_new (w : World) (sg : Int) : TbI w w.heap.size ⟨sg, [], [], [], rw0⟩ (.slice none 0 0) (.slice none 0 0) (.slice none 0 0) (.slice none 0 0) (.slice none 0 0) [] (w.alloc (.cells #[.int .i64 sg, .slice none 0 0, .slice none 0 0, .slice none 0 0, .int .i64 0, .slice none 0 0, .slice none 0 0, .int .i64 0] 46)) := by
  have off : ∀ u : Value, Off (.slice none 0 0) u := fun u b e => by simp [Value.ownBlock] at e
  refine ⟨below1 _ _, heap_alloc_new _ _, Nat.le_refl _, World.ownsRow_nil _ _ _ _, World.ownsRow_nil _ _ _ _, World.ownsRow_nil _ _ _ _, World.ownsRow_nil _ _ _ _, ⟨rfl, fun i hi => absurd hi (by simp)⟩, World.ownsRow_nil _ _ _ _, ⟨off _, off _, off _, off _, off _, off _, fun b e => ?_, fun i j hi => absurd hi (by simp)⟩⟩
  rcases e with e | e | e | e <;> simp [Value.ownBlock] at e

end Go.Proofs.YtiimkhepplkocaaGreat
