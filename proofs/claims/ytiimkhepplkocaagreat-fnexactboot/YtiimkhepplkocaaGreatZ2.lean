import Derived.Test.YtiimkhepplkocaaGreatZ1
import Derived.Test.YtiimkhepplkocaaGreatV5
import Derived.Carry
namespace Go.Proofs.YtiimkhepplkocaaGreat
open Go.RowKit Go.Sort
set_option linter.unusedVariables false
attribute [local go_sem ↓] Go.wp_at_zero Go.wp_at_succ

theorem liftTree_ok (so tq : Option Addr) (n sc tn tc : Nat) (ss : List StD) (ts : List TrD) (o s t v : Int) (hC : Chk ss ts ⟨o, s, t, v⟩) (w : World) (hs : StatesOf w so n ss) (hl : ts.length = tn) :
    Calls Tryz.prog 139 #[.agg #[.slice so n sc, .slice tq tn tc], .agg #[.int .i64 o, .int .i64 s, .int .i64 t, .int .i64 v]] w fun e w' => ∃ N tg tcap, e = .returned (.tuple #[.slice (some ⟨tg, 0, none⟩) n tcap, .int .i64 0, .int .i64 0]) ∧ NodesI w' N ss n ∧ NodeB w' N n ∧ w'.ownsRow w.heap.size 110 1 (.slice (some ⟨tg, 0, none⟩) n tcap) n (ptrs N (List.range n)) ∧ Below w.heap.size w w' := by
  have hn := hs.1
  have n1 := hC.good.n1
  have n2 := hC.good.n2
  have t2 := hC.good.tn
  refine (liftTree_any so tq n sc tn tc ss o s t v w (by omega) (by omega) hs).mono ?_
  have hf := hC.flt
  rw [hl] at hf
  rw [hf]
  rintro e w' ⟨hb, h | ⟨_, N, tv, rfl, hN, hNB, hT⟩⟩
  · exact absurd rfl h.1
  · rw [hn] at hN hNB hT
    obtain ⟨tg, tcap, rfl, _, _⟩ := World.ownsRow.form hT (by omega)
    exact ⟨N, tg, tcap, rfl, hN, hNB, hT, hb⟩
/-- The machine's box, and its two lists of lists. -/
structure Mac (X : World) (B mb : Nat) (tv ev xv lv mv : Value) (E F : List Value) : Prop where
  box : X.heap[mb]? = some (.cells #[tv, ev, xv, lv, mv] 109 (0, 0))
  hB : B ≤ mb
  e : X.ownsRow B 118 1 ev E.length E
  x : X.ownsRow B 118 1 xv F.length F
  ne : ∀ b, ev.ownBlock = some b → xv.ownBlock ≠ some b
theorem Mac.below {X Y : World} {B mb : Nat} {tv ev xv lv mv : Value} {E F : List Value} (h : Mac X B mb tv ev xv lv mv E F) (hb : Below X.heap.size X Y) : Mac Y B mb tv ev xv lv mv E F :=
  ⟨block_below h.box hb, h.hB, ownsRow_below h.e hb, ownsRow_below h.x hb, h.ne⟩
/-- What the first loop turns. -/
def S1 (t : Nat) : Prop := t = 118 ∨ t = 109
theorem mac_entry {X Y Z : World} {B mb g cap : Nat} {tv ev xv lv mv sv : Value} {E F : List Value} (h : Mac X B mb tv ev xv lv mv E F) (hb : Below X.heap.size X Y) (hg : Y.grownBy Z ev.ownBlock)
    (ho : Z.ownsRow B 118 1 (.slice (some ⟨g, 0, none⟩) (E.length + 1) cap) (E.length + 1) (E ++ [sv])) (hat : ev.ownBlock = some g ∨ g = Y.heap.size) :
    Mac (Z.setCell ⟨mb, 1, none⟩ (.slice (some ⟨g, 0, none⟩) (E.length + 1) cap)) B mb tv (.slice (some ⟨g, 0, none⟩) (E.length + 1) cap) xv lv mv (E ++ [sv]) F ∧ Turn S1 B X (Z.setCell ⟨mb, 1, none⟩ (.slice (some ⟨g, 0, none⟩) (E.length + 1) cap)) := by
  have hY := h.below hb
  have bY := hY.box
  have nm := own_far hY.e (by decide) bY
  have bZ : Z.heap[mb]? = _ := (hg.block mb (lt_of_block bY) (fun e => nm e.symm)).trans bY
  have oZ : Z.ownsRow B 118 1 xv F.length F := ownsRow_eqb hY.x (fun b hbl e => hg.block b hbl (fun e3 => h.ne b e3.symm e))
  have nn : ∀ b, (Value.slice (some ⟨g, 0, none⟩) (E.length + 1) cap).ownBlock = some b → xv.ownBlock ≠ some b := by
    intro b e1 e2
    simp [Value.ownBlock] at e1
    subst e1
    rcases hat with h1 | h1
    · exact h.ne g h1 e2
    · have := (hY.x.lt g e2).2
      omega
  refine ⟨⟨?_, h.hB, ?_, ?_, nn⟩, ((Turn.of_below hb).trans (Turn.grown hY.e (.inl rfl) hg)).trans (Turn.set bZ (.inr rfl) h.hB _)⟩
  · rw [heap_setCell_same Z mb 1 _ _ _ bZ]; simp
  · rw [List.length_append]; exact ownsRow_setCell_other ho (own_far ho (by decide) bZ) _
  · exact ownsRow_setCell_other oZ (own_far oZ (by decide) bZ) _

theorem mac_exit {X Y Z : World} {B mb g cap : Nat} {tv ev xv lv mv sv : Value} {E F : List Value} (h : Mac X B mb tv ev xv lv mv E F) (hb : Below X.heap.size X Y) (hg : Y.grownBy Z xv.ownBlock)
    (ho : Z.ownsRow B 118 1 (.slice (some ⟨g, 0, none⟩) (F.length + 1) cap) (F.length + 1) (F ++ [sv])) (hat : xv.ownBlock = some g ∨ g = Y.heap.size) :
    Mac (Z.setCell ⟨mb, 2, none⟩ (.slice (some ⟨g, 0, none⟩) (F.length + 1) cap)) B mb tv ev (.slice (some ⟨g, 0, none⟩) (F.length + 1) cap) lv mv E (F ++ [sv]) ∧ Turn S1 B X (Z.setCell ⟨mb, 2, none⟩ (.slice (some ⟨g, 0, none⟩) (F.length + 1) cap)) := by
  have hY := h.below hb
  have bY := hY.box
  have nm := own_far hY.x (by decide) bY
  have bZ : Z.heap[mb]? = _ := (hg.block mb (lt_of_block bY) (fun e => nm e.symm)).trans bY
  have oZ : Z.ownsRow B 118 1 ev E.length E := ownsRow_eqb hY.e (fun b hbl e => hg.block b hbl (fun e3 => h.ne b e e3.symm))
  have nn : ∀ b, ev.ownBlock = some b → (Value.slice (some ⟨g, 0, none⟩) (F.length + 1) cap).ownBlock ≠ some b := by
    intro b e1 e2
    simp [Value.ownBlock] at e2
    subst e2
    rcases hat with h1 | h1
    · exact h.ne g e1 h1
    · have := (hY.e.lt g e1).2
      omega
  refine ⟨⟨?_, h.hB, ?_, ?_, nn⟩, ((Turn.of_below hb).trans (Turn.grown hY.x (.inl rfl) hg)).trans (Turn.set bZ (.inr rfl) h.hB _)⟩
  · rw [heap_setCell_same Z mb 2 _ _ _ bZ]; simp
  · exact ownsRow_setCell_other oZ (own_far oZ (by decide) bZ) _
  · rw [List.length_append]; exact ownsRow_setCell_other ho (own_far ho (by decide) bZ) _

theorem NodesI.turn {S : Nat → Prop} {B : Nat} {X Y : World} {N : Nat → Nat} {ss : List StD} {n : Nat} (h : NodesI X N ss n) (hB : NodeB X N n) (ht : Turn S B X Y) (hS : ¬ S 113) : NodesI Y N ss n ∧ NodeB Y N n := by
  have blk : ∀ k, k < n → Y.heap[N k]? = X.heap[N k]? := fun k hk => by
    obtain ⟨cs, hc⟩ := hB k hk
    exact (ht.box hc hS).trans hc.symm
  have cel : ∀ k o, k < n → Y.cell? ⟨N k, o, none⟩ = X.cell? ⟨N k, o, none⟩ := fun k o hk => by
    simp only [World.cell?]
    rw [blk k hk]
  refine ⟨⟨fun k hk => ?_, fun k hk => (cel k 2 hk).trans (h.2 k hk)⟩, fun k hk => ?_⟩
  · obtain ⟨h1, h2, h3⟩ := h.1 k hk
    exact ⟨Nat.lt_of_lt_of_le h1 ht.size, (cel k 0 hk).trans h2, (cel k 1 hk).trans h3⟩
  · obtain ⟨cs, hc⟩ := hB k hk
    exact ⟨cs, ht.box hc hS⟩
theorem rowIs_turn {S : Nat → Prop} {B : Nat} {X Y : World} {b n : Nat} {T : TypeId} {f : Nat → Value} (h : X.rowIs b T n f) (ht : Turn S B X Y) (hS : ¬ S T) : Y.rowIs b T n f := by
  obtain ⟨c, h1, h2, h3⟩ := h
  exact ⟨c, ht.box h1 hS, h2, h3⟩
/-- What lies beside the machine: the boxes, the tree, the map. -/
structure MB (w : World) (cx lx : Array Value) (N : Nat → Nat) (tg tcap : Nat) (ss : List StD) (n mp : Nat) (X : World) : Prop where
  bel : Below w.heap.size w X
  ch : X.heap[w.heap.size]? = some (.cells cx 36 (0, 0))
  li : X.heap[w.heap.size + 1]? = some (.cells lx 40 (0, 0))
  nd : NodesI X N ss n
  nb : NodeB X N n
  tr : X.ownsRow w.heap.size 110 1 (.slice (some ⟨tg, 0, none⟩) n tcap) n (ptrs N (List.range n))
  mp : X.heap[mp]? = some (.map #[] 0)
theorem MB.turn {S : Nat → Prop} {B : Nat} {w : World} {cx lx : Array Value} {N : Nat → Nat} {tg tcap : Nat} {ss : List StD} {n mp : Nat} {X Y : World} (h : MB w cx lx N tg tcap ss n mp X) (ht : Turn S B X Y) (hB : w.heap.size ≤ B) (h1 : ¬ S 36) (h2 : ¬ S 40) (h3 : ¬ S 113) (h4 : ¬ S 110) : MB w cx lx N tg tcap ss n mp Y := by
  have hn := h.nd.turn h.nb ht h3
  exact ⟨h.bel.trans ⟨ht.os, ht.tape, ht.output, ht.size, fun k hk => ht.low k (by omega) (Nat.lt_of_lt_of_le hk h.bel.size)⟩, ht.box h.ch h1, ht.box h.li h2, hn.1, hn.2, ht.own h.tr h4, (ht.rest _ _ h.mp (fun _ _ _ e => by cases e)).trans h.mp⟩
theorem MB.below {w : World} {cx lx : Array Value} {N : Nat → Nat} {tg tcap : Nat} {ss : List StD} {n mp : Nat} {X Y : World} (h : MB w cx lx N tg tcap ss n mp X) (hb : Below X.heap.size X Y) : MB w cx lx N tg tcap ss n mp Y :=
  ⟨h.bel.trans (hb.mono h.bel.size), block_below h.ch hb, block_below h.li hb, h.nd.below hb, h.nb.below hb, ownsRow_below h.tr hb, block_below h.mp hb⟩
/-- A row of nodes that carries a list out. -/
def StmR (X : World) (B : Nat) (l : LimD) (v : Value) (xs : List StmD) : Prop := ∃ vs, nodesR l xs = some vs ∧ X.ownsRow B 212 1 v vs.length vs
theorem StmR.turn {S : Nat → Prop} {B B2 : Nat} {X Y : World} {l : LimD} {v : Value} {xs : List StmD} (h : StmR X B l v xs) (ht : Turn S B2 X Y) (hS : ¬ S 212) : StmR Y B l v xs := by
  obtain ⟨vs, h1, h2⟩ := h
  exact ⟨vs, h1, ht.own h2 hS⟩
theorem lift_nodes {l : LimD} {xs : List StmD} {vs : List Value} (h : liftAll l xs = some vs) : nodesR l xs = some vs := by
  unfold liftAll at h
  split at h
  · exact h
  · cases h
end Go.Proofs.YtiimkhepplkocaaGreat
