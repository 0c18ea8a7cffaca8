import Derived.Test.YtiimkhepplkocaaGreatYa
import Derived.Deep.AppendLies
import Derived.Deep.LoopGhost
import Derived.Deep.DeepCutAuto
import Derived.Deep.RegionHeld3
import Derived.Deep.RegionLaw
namespace Go.Proofs.YtiimkhepplkocaaGreat
open Go.RowKit Go.Sort

/-- An effect, as its four numbers. -/
structure EffD where
  kind : Int
  a : Int
  b : Int
  v : Int

def effCells : List EffD → List Value
  | [] => []
  | e :: r => .int .i64 e.kind :: .int .i64 e.a :: .int .i64 e.b :: .int .i64 e.v :: effCells r
theorem Own.below {w w' : World} {base : Nat} {v : Value} {zs : List Int} (h : Own w base v zs) (hb : Below w.heap.size w w') : Own w' base v zs := ⟨ownsRow_below h.1 hb, h.2⟩
theorem ownsRow_base {w : World} {b1 b2 : Nat} {e : TypeId} {size : Nat} {v : Value} {n : Nat} {xs : List Value} (h : w.ownsRow b1 e size v n xs) (hb : b2 ≤ b1) : w.ownsRow b2 e size v n xs := by
  refine ⟨h.1, ?_⟩
  rcases h.2 with h | ⟨g, cap, cur, h1, h2, h3⟩
  · exact .inl h
  · exact .inr ⟨g, cap, cur, h1, by omega, h3⟩
theorem Own.base {w : World} {b1 b2 : Nat} {v : Value} {zs : List Int} (h : Own w b1 v zs) (hb : b2 ≤ b1) : Own w b2 v zs := ⟨ownsRow_base h.1 hb, h.2⟩
theorem own_far {w : World} {B : Nat} {e : TypeId} {size : Nat} {v : Value} {n : Nat} {xs : List Value} (h : w.ownsRow B e size v n xs) {H : Nat} {cs : Array Value} {t : TypeId} (ht : t ≠ e) (hH : w.heap[H]? = some (.cells cs t (0, 0))) : v.ownBlock ≠ some H := by
  intro e2
  rcases h.2 with ⟨h0, _⟩ | ⟨g, cap, cur, h1, h2, h3, h4⟩
  · rw [h0] at e2; cases e2
  · rw [h1] at e2
    simp [Value.ownBlock] at e2
    subst e2
    rw [hH] at h3
    simp at h3
    exact ht h3.2
theorem far_block {w : World} {H q : Nat} {cs ds : Array Value} {t u : TypeId} (hH : w.heap[H]? = some (.cells cs t (0, 0))) (hq : w.heap[q]? = some (.cells ds u (0, 0))) (h : t ≠ u) : q ≠ H := by
  rintro rfl
  rw [hH] at hq
  simp at hq
  exact h hq.2
theorem set_stored {w : World} {B g : Nat} {cap i : Nat} {vs : List Int} {n : Int} (h : Own w B (.slice (some ⟨g, 0, none⟩) vs.length cap) vs) : Own (w.setCell ⟨g, i, none⟩ (.int .i64 n)) B (.slice (some ⟨g, 0, none⟩) (vs.set i n).length cap) (vs.set i n) := by
  refine ⟨?_, by simp⟩
  have := World.ownsRow.stored h.1 i (.int .i64 n)
  rw [List.map_set, List.length_set]
  exact this.1
theorem own_block {w : World} {B g n m cap size : Nat} {e : TypeId} {xs : List Value} (h : w.ownsRow B e size (.slice (some ⟨g, 0, none⟩) n cap) m xs) : ∃ cur, w.heap[g]? = some (.cells cur e (0, 0)) ∧ B ≤ g := by
  rcases h.2 with ⟨h0, _⟩ | ⟨g', cap', cur, h1, h2, h3, _⟩
  · cases h0
  · simp only [Value.slice.injEq, Option.some.injEq, Addr.mk.injEq] at h1
    obtain ⟨⟨rfl, _⟩, _⟩ := h1
    exact ⟨cur, h3, h2⟩
theorem quad_fr4 {w : World} {H : Nat} {a b c d : Value} {t : TypeId} (h : w.heap[H]? = some (.cells #[a, b, c, d] t (0, 0))) : w.frozen? ⟨H, 0, none⟩ = false ∧ w.frozen? ⟨H, 1, none⟩ = false ∧ w.frozen? ⟨H, 2, none⟩ = false ∧ w.frozen? ⟨H, 3, none⟩ = false := by
  simp [World.frozen?, h]

/-- The moment: both lists are its own and lie apart, and so do the effects. -/
def Mom (w : World) (B mb : Nat) (ks vs : List Int) (arg : Int) (es : List EffD) : Prop :=
  ∃ kg kc vg vc ev, w.heap[mb]? = some (.cells #[.slice (some ⟨kg, 0, none⟩) ks.length kc, .slice (some ⟨vg, 0, none⟩) vs.length vc, .int .i64 arg, ev] 146 (0, 0)) ∧
    Own w B (.slice (some ⟨kg, 0, none⟩) ks.length kc) ks ∧ Own w B (.slice (some ⟨vg, 0, none⟩) vs.length vc) vs ∧ kg ≠ vg ∧ B ≤ mb ∧ w.ownsRow B 136 4 ev es.length (effCells es) ∧ ev ≠ .slice none 0 0

/-- What statements may turn: the moment, its lists, its effects. -/
structure Stir (B : Nat) (w w' : World) : Prop where
  os : w'.os = w.os
  tape : w'.tape = w.tape
  output : w'.output = w.output
  size : w.heap.size ≤ w'.heap.size
  low : ∀ k, k < B → k < w.heap.size → w'.heap[k]? = w.heap[k]?
  other : ∀ (k : Nat) (cs : Array Value) (t : TypeId) (fr : Nat × Nat), w.heap[k]? = some (Obj.cells cs t fr) → t ≠ 3 → t ≠ 146 → t ≠ 136 → w'.heap[k]? = w.heap[k]?
theorem Stir.refl (B : Nat) (w : World) : Stir B w w := ⟨rfl, rfl, rfl, Nat.le_refl _, fun _ _ _ => rfl, fun _ _ _ _ _ _ _ _ => rfl⟩
theorem Stir.trans {B : Nat} {a b c : World} (h : Stir B a b) (k : Stir B b c) : Stir B a c :=
  ⟨k.os.trans h.os, k.tape.trans h.tape, k.output.trans h.output, Nat.le_trans h.size k.size, fun i hi hs => (k.low i hi (Nat.lt_of_lt_of_le hs h.size)).trans (h.low i hi hs),
    fun i cs t fr e h1 h2 h3 => (k.other i cs t fr ((h.other i cs t fr e h1 h2 h3).trans e) h1 h2 h3).trans (h.other i cs t fr e h1 h2 h3)⟩
theorem Stir.of_below {B : Nat} {a b : World} (h : Below a.heap.size a b) : Stir B a b := ⟨h.os, h.tape, h.output, h.size, fun i _ hs => h.block i hs, fun i _ _ _ e _ _ _ => h.block i (lt_of_block e)⟩
theorem Stir.below {B : Nat} {w w' : World} (h : Stir B w w') (hB : B ≤ w.heap.size) : Below B w w' := ⟨h.os, h.tape, h.output, h.size, fun k hk => h.low k hk (by omega)⟩
theorem Stir.mono {B B' : Nat} {w w' : World} (h : Stir B w w') (hB : B' ≤ B) : Stir B' w w' := ⟨h.os, h.tape, h.output, h.size, fun k hk => h.low k (by omega), h.other⟩
theorem Stir.set {B : Nat} {w : World} {H o : Nat} {cs : Array Value} {t : TypeId} (hH : w.heap[H]? = some (.cells cs t (0, 0))) (ht : t = 3 ∨ t = 146 ∨ t = 136) (hB : B ≤ H) (u : Value) : Stir B w (w.setCell ⟨H, o, none⟩ u) := by
  refine ⟨rfl, rfl, rfl, by simp, fun k hk _ => Below.heap_setCell _ _ _ _ (show k ≠ H by omega), fun k cs' t' fr e h1 h2 h3 => Below.heap_setCell _ _ _ _ ?_⟩
  show k ≠ H
  rintro rfl
  rw [hH] at e
  simp at e
  obtain ⟨_, rfl, _⟩ := e
  rcases ht with h | h | h
  · exact h1 h
  · exact h2 h
  · exact h3 h
theorem Stir.box {B : Nat} {w w' : World} {H : Nat} {cs : Array Value} {t : TypeId} {fr : Nat × Nat} (h : Stir B w w') (hb : w.heap[H]? = some (.cells cs t fr)) (h1 : t ≠ 3) (h2 : t ≠ 146) (h3 : t ≠ 136) : w'.heap[H]? = some (.cells cs t fr) := (h.other H cs t fr hb h1 h2 h3).trans hb
theorem Stir.own {B B2 : Nat} {w w' : World} {e : TypeId} {size : Nat} {v : Value} {n : Nat} {xs : List Value} (h : Stir B w w') (ho : w.ownsRow B2 e size v n xs) (h1 : e ≠ 3) (h2 : e ≠ 146) (h3 : e ≠ 136) : w'.ownsRow B2 e size v n xs := by
  refine ⟨ho.1, ?_⟩
  rcases ho.2 with h0 | ⟨g, cap, cur, k1, k2, k3, k4⟩
  · exact .inl h0
  · exact .inr ⟨g, cap, cur, k1, k2, h.box k3 h1 h2 h3, k4⟩

theorem Mom.below {w w' : World} {B mb : Nat} {ks vs : List Int} {arg : Int} {es : List EffD} (h : Mom w B mb ks vs arg es) (hb : Below w.heap.size w w') : Mom w' B mb ks vs arg es := by
  obtain ⟨kg, kc, vg, vc, ev, h1, h2, h3, h4, h5, h6, h7⟩ := h
  exact ⟨kg, kc, vg, vc, ev, block_below h1 hb, h2.below hb, h3.below hb, h4, h5, ownsRow_below h6 hb, h7⟩
theorem Mom.at {w : World} {B mb : Nat} {ks vs : List Int} {arg : Int} {es : List EffD} (h : Mom w B mb ks vs arg es) : MomAt w mb vs arg := by
  obtain ⟨kg, kc, vg, vc, ev, m1, ok, ov, _, _, _⟩ := h
  obtain ⟨c0, c1, c2, c3⟩ := quad_cells m1
  exact ⟨lt_of_block m1, c2, _, _, _, c1, ov.slice⟩

/-- A number is put into the moment's values: all else stays. -/
theorem Mom.put {w : World} {B mb i kg kc vg vc : Nat} {ks vs : List Int} {arg : Int} {es : List EffD} {ev : Value} {n : Int}
    (m1 : w.heap[mb]? = some (.cells #[.slice (some ⟨kg, 0, none⟩) ks.length kc, .slice (some ⟨vg, 0, none⟩) vs.length vc, .int .i64 arg, ev] 146 (0, 0)))
    (ok : Own w B (.slice (some ⟨kg, 0, none⟩) ks.length kc) ks) (ov : Own w B (.slice (some ⟨vg, 0, none⟩) vs.length vc) vs) (hne : kg ≠ vg) (hB : B ≤ mb) (he : w.ownsRow B 136 4 ev es.length (effCells es)) (hev : ev ≠ .slice none 0 0) :
    Mom (w.setCell ⟨vg, i, none⟩ (.int .i64 n)) B mb ks (vs.set i n) arg es ∧ Stir B w (w.setCell ⟨vg, i, none⟩ (.int .i64 n)) := by
  obtain ⟨cur, hcur, hvg⟩ := own_block ov.1
  refine ⟨⟨kg, kc, vg, vc, ev, ?_, ⟨ownsRow_setCell_other ok.1 (by simp [Value.ownBlock]; exact hne) _, ok.2⟩, set_stored (i := i) (n := n) ov, hne, hB, ownsRow_setCell_other he (own_far he (by decide) hcur) _, hev⟩, Stir.set hcur (.inl rfl) hvg _⟩
  rw [List.length_set]
  exact (Below.heap_setCell _ _ _ _ (far_block hcur m1 (by decide))).trans m1

end Go.Proofs.YtiimkhepplkocaaGreat
namespace Go.Proofs.YtiimkhepplkocaaGreat
open Go.RowKit Go.Sort
set_option linter.unusedVariables false
attribute [local go_sem ↓] Go.wp_at_zero Go.wp_at_succ

theorem ownsRow_eqb {w w' : World} {B : Nat} {e : TypeId} {size : Nat} {v : Value} {n : Nat} {xs : List Value} (h : w.ownsRow B e size v n xs) (hb : ∀ b, b < w.heap.size → v.ownBlock = some b → w'.heap[b]? = w.heap[b]?) : w'.ownsRow B e size v n xs := by
  refine ⟨h.1, ?_⟩
  rcases h.2 with h0 | ⟨g, cap, cur, h1, h2, h3, h4⟩
  · exact .inl h0
  · exact .inr ⟨g, cap, cur, h1, h2, (hb g (lt_of_block h3) (by rw [h1]; rfl)).trans h3, h4⟩
/-- A row of effects that grows stirs nothing else. -/
theorem Stir.grown {B : Nat} {X w2 : World} {v : Value} {n : Nat} {xs : List Value} (ho : X.ownsRow B 136 4 v n xs) (hg : X.grownBy w2 v.ownBlock) : Stir B X w2 := by
  refine ⟨hg.os, hg.tape, hg.output, hg.size, fun k hk hs => hg.block k hs ?_, fun k cs t fr e h1 h2 h3 => hg.block k (lt_of_block e) ?_⟩
  · intro e
    rcases ho.2 with ⟨h0, _⟩ | ⟨g, cap, cur, k1, k2, k3, k4⟩
    · rw [h0] at e; cases e
    · rw [k1] at e; simp [Value.ownBlock] at e; omega
  · intro e2
    rcases ho.2 with ⟨h0, _⟩ | ⟨g, cap, cur, k1, k2, k3, k4⟩
    · rw [h0] at e2; cases e2
    · rw [k1] at e2
      simp [Value.ownBlock] at e2
      subst e2
      rw [e] at k3
      simp at k3
      exact h3 k3.2.1
end Go.Proofs.YtiimkhepplkocaaGreat
namespace Go.Proofs.YtiimkhepplkocaaGreat
open Go.RowKit Go.Sort
set_option linter.unusedVariables false
attribute [local go_sem ↓] Go.wp_at_zero Go.wp_at_succ

theorem two_cells' {w : World} {H : Nat} {a b : Value} {t : TypeId} (h : w.heap[H]? = some (.cells #[a, b] t (0, 0))) : w.cell? ⟨H, 0, none⟩ = some a ∧ w.cell? ⟨H, 1, none⟩ = some b := by simp [World.cell?, h]
theorem new22 (w : World) (a b : Obj) : ((w.alloc a).alloc b).heap[w.heap.size + 1]? = some b := by simpa using heap_alloc_new (w.alloc a) b
theorem new21 (w : World) (a b : Obj) : ((w.alloc a).alloc b).heap[w.heap.size]? = some a := block_below (heap_alloc_new w a) (below1 _ _)
/-- What two calls of copyInts leave. -/
structure Two (w w5 : World) (ks vs : List Int) (kg kc vg vc : Nat) : Prop where
  k : Own w5 w.heap.size (.slice (some ⟨kg, 0, none⟩) ks.length kc) ks
  v : Own w5 w.heap.size (.slice (some ⟨vg, 0, none⟩) vs.length vc) vs
  ne : kg ≠ vg
  bel : Below w.heap.size w w5
theorem Two.below {w w5 w6 : World} {ks vs : List Int} {kg kc vg vc : Nat} (h : Two w w5 ks vs kg kc vg vc) (hb : Below w5.heap.size w5 w6) : Two w w6 ks vs kg kc vg vc := ⟨h.k.below hb, h.v.below hb, h.ne, h.bel.trans (hb.mono h.bel.size)⟩
/-- Behind the first call. -/
structure One (w w4 : World) (ks : List Int) (kg kc : Nat) : Prop where
  k : Own w4 w.heap.size (.slice (some ⟨kg, 0, none⟩) ks.length kc) ks
  bel : Below w.heap.size w w4
end Go.Proofs.YtiimkhepplkocaaGreat
