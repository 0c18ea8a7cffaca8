import Derived.Test.YtiimkhepplkocaaGreatV1
import Derived.Deep.DeepCutAuto
import Derived.Deep.RegionHeld3
import Derived.Deep.RegionLaw
namespace Go.Proofs.YtiimkhepplkocaaGreat
open Go.RowKit Go.Sort
set_option linter.unusedVariables false
attribute [local go_sem ↓] Go.wp_at_zero Go.wp_at_succ

theorem Tryz.infoEff : (Tryz.prog.info? 136).map (fun i => (i.zero, i.size, i.bytes)) = some (some (.agg #[.int .i64 0, .int .i64 0, .int .i64 0, .int .i64 0]), 4, 32) := by kernel_rfl

/-- Behind the append of an effect: the moment and the box are as they were. -/
theorem note_after {w X w2 : World} {mb : Nat} {ea : Option Addr} {en ec : Nat} {k v a : Value} {cs : Array Value} {row : Option Nat} (hg : X.grownBy w2 row) (hb : Below w.heap.size w X) (h1 : w.heap[mb]? = some (.cells #[k, v, a, .slice ea en ec] 146 (0, 0))) (h2 : X.heap[w.heap.size]? = some (.cells cs 136 (0, 0)))
    (hn1 : row ≠ some mb) (hn2 : row ≠ some w.heap.size) : w2.heap[mb]? = some (.cells #[k, v, a, .slice ea en ec] 146 (0, 0)) ∧ w2.heap[w.heap.size]? = some (.cells cs 136 (0, 0)) :=
  ⟨(hg.block mb (Nat.lt_of_lt_of_le (lt_of_block h1) hb.size) (fun e => hn1 e.symm)).trans (block_below h1 hb), (hg.block _ (lt_of_block h2) (fun e => hn2 e.symm)).trans h2⟩
theorem ownsRow_lt {w : World} {B : Nat} {e : TypeId} {size : Nat} {v : Value} {n : Nat} {xs : List Value} (h : w.ownsRow B e size v n xs) {H : Nat} (hH : w.heap.size ≤ H) : v.ownBlock ≠ some H := by
  intro e2
  rcases h.2 with ⟨h0, _⟩ | ⟨g, cap, cur, h1, h2, h3, h4⟩
  · rw [h0] at e2; cases e2
  · rw [h1] at e2
    simp [Value.ownBlock] at e2
    subst e2
    have := lt_of_block h3
    omega

theorem ownsRow_eqb {w w' : World} {B : Nat} {e : TypeId} {size : Nat} {v : Value} {n : Nat} {xs : List Value} (h : w.ownsRow B e size v n xs) (hb : ∀ b, b < w.heap.size → v.ownBlock = some b → w'.heap[b]? = w.heap[b]?) : w'.ownsRow B e size v n xs := by
  refine ⟨h.1, ?_⟩
  rcases h.2 with h0 | ⟨g, cap, cur, h1, h2, h3, h4⟩
  · exact .inl h0
  · exact .inr ⟨g, cap, cur, h1, h2, (hb g (lt_of_block h3) (by rw [h1]; rfl)).trans h3, h4⟩
/-- A row of effects that grows stirs nothing else. -/
theorem Stir.grown {B : Nat} {X w2 : World} {v : Value} {n : Nat} {xs : List Value} (ho : X.ownsRow B 136 4 v n xs) (hg : X.grownBy w2 v.ownBlock) : Stir B X w2 := by
  refine ⟨hg.os, hg.tape, hg.output, hg.size, fun k hk hs => hg.block k hs ?_, fun k cs t fr e h1 h2 h3 => hg.block k (lt_of_block e) ?_⟩
  · intro e
    rcases ho.2 with ⟨h0, _⟩ | ⟨g, cap, cur, k1, k2, k3, k4⟩
    · rw [h0] at e; cases e
    · rw [k1] at e; simp [Value.ownBlock] at e; omega
  · intro e2
    rcases ho.2 with ⟨h0, _⟩ | ⟨g, cap, cur, k1, k2, k3, k4⟩
    · rw [h0] at e2; cases e2
    · rw [k1] at e2
      simp [Value.ownBlock] at e2
      subst e2
      rw [e] at k3
      simp at k3
      exact h3 k3.2.1
theorem note_done {w X w2 : World} {B mb kg kc vg vc gg cap : Nat} {ks vs : List Int} {arg : Int} {es : List EffD} {x : EffD} {ev : Value}
    (m1 : w.heap[mb]? = some (.cells #[.slice (some ⟨kg, 0, none⟩) ks.length kc, .slice (some ⟨vg, 0, none⟩) vs.length vc, .int .i64 arg, ev] 146 (0, 0)))
    (ok : Own w B (.slice (some ⟨kg, 0, none⟩) ks.length kc) ks) (ov : Own w B (.slice (some ⟨vg, 0, none⟩) vs.length vc) vs) (hne : kg ≠ vg) (hB : B ≤ mb) (he : w.ownsRow B 136 4 ev es.length (effCells es))
    (hb : Below w.heap.size w X) (hg : X.grownBy w2 ev.ownBlock) (r2 : w2.heap[mb]? = some (.cells #[.slice (some ⟨kg, 0, none⟩) ks.length kc, .slice (some ⟨vg, 0, none⟩) vs.length vc, .int .i64 arg, ev] 146 (0, 0)))
    (o2 : w2.ownsRow B 136 4 (.slice (some ⟨gg, 0, none⟩) (es.length + 1) cap) (es.length + 1) (effCells es ++ [.int .i64 x.kind, .int .i64 x.a, .int .i64 x.b, .int .i64 x.v])) :
    Mom (w2.setCell ⟨mb, 3, none⟩ (.slice (some ⟨gg, 0, none⟩) (es.length + 1) cap)) B mb ks vs arg (es ++ [x]) ∧ Stir B w (w2.setCell ⟨mb, 3, none⟩ (.slice (some ⟨gg, 0, none⟩) (es.length + 1) cap)) := by
  have heX := ownsRow_below he hb
  have keep : ∀ {g n c : Nat} {zs : List Int}, Own w B (.slice (some ⟨g, 0, none⟩) n c) zs → Own (w2.setCell ⟨mb, 3, none⟩ (.slice (some ⟨gg, 0, none⟩) (es.length + 1) cap)) B (.slice (some ⟨g, 0, none⟩) n c) zs := by
    intro g n c zs h
    have hX := h.below hb
    obtain ⟨cur, hcur, _⟩ := own_block hX.1
    have hw2 : w2.ownsRow B 3 1 (.slice (some ⟨g, 0, none⟩) n c) zs.length (zs.map (Value.int .i64)) := ownsRow_eqb hX.1 (fun b hbl e => hg.block b hbl (fun e3 => own_far heX (show (3 : Nat) ≠ 136 by decide) hcur (by rw [← e3, ← e]; rfl)))
    exact ⟨ownsRow_setCell_other hw2 (own_far hw2 (by decide) r2) _, h.2⟩
  refine ⟨⟨kg, kc, vg, vc, .slice (some ⟨gg, 0, none⟩) (es.length + 1) cap, ?_, keep ok, keep ov, hne, hB, ?_, by simp⟩, ((Stir.of_below hb).trans (Stir.grown heX hg)).trans (Stir.set r2 (.inr (.inl rfl)) hB _)⟩
  · rw [heap_setCell_same w2 mb 3 _ _ _ r2]; simp
  · rw [List.length_append, effCells_append]
    exact ownsRow_setCell_other o2 (own_far o2 (by decide) r2) _

set_option maxRecDepth 100000 in
set_option maxHeartbeats 4000000 in
/-- An effect is noted. -/
theorem note_any (mb : Nat) (ks vs : List Int) (arg : Int) (es : List EffD) (x : EffD) (B : Nat) (w : World) (hl : es.length ≤ 1000000) (hBw : B ≤ w.heap.size) (h : Mom w B mb ks vs arg es) :
    Calls Tryz.prog 216 #[.pointer (some ⟨mb, 0, none⟩), .agg #[.int .i64 x.kind, .int .i64 x.a, .int .i64 x.b, .int .i64 x.v]] w fun e w' => e = .returned (.tuple #[]) ∧ Mom w' B mb ks vs arg (es ++ [x]) ∧ Stir B w w' := by
  obtain ⟨i0, hi, hz0, hz1, hz2⟩ := info_parts Tryz.infoEff
  obtain ⟨kg, kc, vg, vc, ev, m1, ok, ov, hne, hB, he, hev⟩ := h
  obtain ⟨c0, c1, c2, c3⟩ := quad_cells m1
  obtain ⟨f0, f1, f2, f3⟩ := quad_fr4 m1
  obtain ⟨ea, en, ec, rfl⟩ : ∃ ea en ec, ev = .slice ea en ec := by
    rcases he.2 with ⟨h, _⟩ | ⟨g, cap, cur, h, _⟩ <;> exact ⟨_, _, _, h⟩
  have M1 := hid m1
  have OK := hid ok
  have OV := hid ov
  have HE := hid he
  clear m1 ok ov he
  obtain ⟨W, hW⟩ : ∃ W, W = w.alloc (.cells #[.int .i64 x.kind, .int .i64 x.a, .int .i64 x.b, .int .i64 x.v] 136) := ⟨_, rfl⟩
  obtain ⟨U, hU⟩ : ∃ U, U = W.alloc (.cells #[.int .i64 x.kind, .int .i64 x.a, .int .i64 x.b, .int .i64 x.v] 136) := ⟨_, rfl⟩
  have ml := lt_of_block M1.out
  have bU : Below w.heap.size w U := by rw [hU, hW]; exact below2 _ _ _
  have qU : U.heap[w.heap.size + 1]? = some (.cells #[.int .i64 x.kind, .int .i64 x.a, .int .i64 x.b, .int .i64 x.v] 136 (0, 0)) := by rw [hU, hW]; simpa using heap_alloc_new (w.alloc (.cells #[.int .i64 x.kind, .int .i64 x.a, .int .i64 x.b, .int .i64 x.v] 136)) (.cells #[.int .i64 x.kind, .int .i64 x.a, .int .i64 x.b, .int .i64 x.v] 136)
  have BU := hid bU
  have QU := hid qU
  have HEU := hid (ownsRow_below HE.out bU)
  have q0 : U.heap[w.heap.size]? = some (.cells #[.int .i64 x.kind, .int .i64 x.a, .int .i64 x.b, .int .i64 x.v] 136 (0, 0)) := by rw [hU, hW]; exact block_below (heap_alloc_new w _) (below1 _ _)
  have Q0 := hid q0
  have N1 := hid (own_far HE.out (by decide) M1.out)
  have N2 := hid (ownsRow_lt HE.out (Nat.le_refl _))
  have NW := hid (World.news_of_block qU)
  have SU : Hid (B ≤ U.heap.size) := hid (Nat.le_trans hBw bU.size)
  have F63 : Hid (es.length + 1 ≤ maxLen ∧ (es.length + 1) * 32 ≤ 140737488355328) := hid (by unfold maxLen; omega)
  subst hU
  subst hW
  clear hev bU qU q0
  go_enter Tryz.func216, Tryz.ntmps216
  go_wp2_with fail
  go_region_law
    (first
      | (refine step_append_lies _ (by rfl) _ _ _ (by rfl) B 136 i0 _ 4 32 Tryz.underlying52 hi hz0 hz1 hz2 rfl (by omega) (.slice ea en ec) es.length (effCells es) (by simp [Act.eval]) HEU.out ⟨w.heap.size + 1, 0, none⟩ 1 1 [.int .i64 x.kind, .int .i64 x.a, .int .i64 x.b, .int .i64 x.v] (by simp [Act.eval]) (by simp) NW.out (by intro u hu; simp at hu; rcases hu with rfl | rfl | rfl | rfl <;> rfl) (by omega) F63.out.1 F63.out.2 SU.out _ rfl ?_; intro gg cap' w2 hown1 hgrow hat hlt; have NA := note_after hgrow (by first | exact BU.out | exact BU.out.drew) M1.out Q0.out N1.out N2.out; obtain ⟨r0, r1, r2, r3⟩ := quad_cells NA.1; obtain ⟨s0, s1, s2, s3⟩ := quad_fr4 NA.1; have O2 := hid hown1; have G2 := hid hgrow; have R2 := hid NA.1; clear NA hown1 hgrow hat))
  all_goals
    go_end0
    obtain ⟨d1, d2⟩ := note_done M1.out OK.out OV.out hne hB HE.out (by first | exact BU.out | exact BU.out.drew) G2.out R2.out O2.out
    exact ⟨rfl, d1, d2⟩
end Go.Proofs.YtiimkhepplkocaaGreat
