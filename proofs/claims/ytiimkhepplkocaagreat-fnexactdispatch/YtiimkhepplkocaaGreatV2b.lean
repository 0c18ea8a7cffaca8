import Derived.Test.YtiimkhepplkocaaGreatV2
namespace Go.Proofs.YtiimkhepplkocaaGreat
open Go.RowKit Go.Sort
set_option linter.unusedVariables false
attribute [local go_sem ↓] Go.wp_at_zero Go.wp_at_succ

set_option maxHeartbeats 1000000 in
theorem bank_any (mb : Nat) (k v a e : Value) (w : World) (hk : ∃ x n c, k = .slice x n c) (hv : ∃ x n c, v = .slice x n c) (m1 : w.heap[mb]? = some (.cells #[k, v, a, e] 146 (0, 0))) :
    Calls Tryz.prog 69 #[.pointer (some ⟨mb, 0, none⟩)] w fun r w' => r = .returned (.agg #[k, v]) ∧ Below w.heap.size w w' := by
  obtain ⟨c0, c1, c2, c3⟩ := quad_cells m1
  obtain ⟨kx, kn, kc, rfl⟩ := hk
  obtain ⟨vx, vn, vc, rfl⟩ := hv
  have ml := lt_of_block m1
  clear m1
  go_enter Tryz.func69, Tryz.ntmps69
  go_wp2
  go_region
  go_wp2
  all_goals
    refine bodyPost_ret (v := .agg #[.slice kx kn kc, .slice vx vn vc]) (by simp [results, Tryz.results69, go_sem]) rfl ?_
    exact ⟨rfl, (below1 _ _).drew⟩

theorem two_cells' {w : World} {H : Nat} {a b : Value} {t : TypeId} (h : w.heap[H]? = some (.cells #[a, b] t (0, 0))) : w.cell? ⟨H, 0, none⟩ = some a ∧ w.cell? ⟨H, 1, none⟩ = some b := by simp [World.cell?, h]
abbrev OE : Obj := .cells #[] 136
theorem eff_none {w : World} {B E : Nat} (h : w.heap[E]? = some OE) (hB : B ≤ E) : w.ownsRow B 136 4 (.slice (some ⟨E, 0, none⟩) 0 0) 0 [] :=
  ⟨rfl, .inr ⟨E, 0, #[], rfl, hB, h, Nat.le_refl _, by decide, rfl, rfl⟩⟩
theorem mom_new {X : World} {B kg kc vg vc E : Nat} {ks vs : List Int} {arg : Int} (ok : Own X B (.slice (some ⟨kg, 0, none⟩) ks.length kc) ks) (ov : Own X B (.slice (some ⟨vg, 0, none⟩) vs.length vc) vs) (hne : kg ≠ vg) (hB : B ≤ X.heap.size) (he : X.heap[E]? = some OE) (hE : B ≤ E) :
    Mom (X.alloc (.cells #[.slice (some ⟨kg, 0, none⟩) ks.length kc, .slice (some ⟨vg, 0, none⟩) vs.length vc, .int .i64 arg, .slice (some ⟨E, 0, none⟩) 0 0] 146)) B X.heap.size ks vs arg [] :=
  ⟨kg, kc, vg, vc, _, heap_alloc_new _ _, ok.below (below1 _ _), ov.below (below1 _ _), hne, hB, ownsRow_below (eff_none he hE) (below1 _ _), by simp⟩
theorem new1 (w : World) (a : Obj) : (w.alloc a).heap[w.heap.size]? = some a := heap_alloc_new w a
theorem new22 (w : World) (a b : Obj) : ((w.alloc a).alloc b).heap[w.heap.size + 1]? = some b := by simpa using heap_alloc_new (w.alloc a) b
theorem new21 (w : World) (a b : Obj) : ((w.alloc a).alloc b).heap[w.heap.size]? = some a := block_below (heap_alloc_new w a) (below1 _ _)
/-- What two calls of copyInts leave. -/
structure Two (w w5 : World) (ks vs : List Int) (kg kc vg vc : Nat) : Prop where
  k : Own w5 w.heap.size (.slice (some ⟨kg, 0, none⟩) ks.length kc) ks
  v : Own w5 w.heap.size (.slice (some ⟨vg, 0, none⟩) vs.length vc) vs
  ne : kg ≠ vg
  bel : Below w.heap.size w w5
theorem Two.below {w w5 w6 : World} {ks vs : List Int} {kg kc vg vc : Nat} (h : Two w w5 ks vs kg kc vg vc) (hb : Below w5.heap.size w5 w6) : Two w w6 ks vs kg kc vg vc := ⟨h.k.below hb, h.v.below hb, h.ne, h.bel.trans (hb.mono h.bel.size)⟩
theorem k_step {w X w4 : World} {q : Nat} {o : Obj} (hX : Below w.heap.size w X) (hq : X.heap[q]? = some o) (hb : Below X.heap.size X w4) : Below w.heap.size w w4 ∧ w4.heap[q]? = some o := ⟨hX.trans (hb.mono hX.size), block_below hq hb⟩
/-- Behind the first call. -/
structure One (w w4 : World) (ks : List Int) (kg kc : Nat) : Prop where
  k : Own w4 w.heap.size (.slice (some ⟨kg, 0, none⟩) ks.length kc) ks
  bel : Below w.heap.size w w4
theorem pre_two {w X w4 : World} {ks : List Int} {kg kc : Nat} (hX : Below w.heap.size w X) (h4 : Below X.heap.size X w4) (o4 : Own w4 X.heap.size (.slice (some ⟨kg, 0, none⟩) ks.length kc) ks) : One w w4 ks kg kc := ⟨o4.base hX.size, hX.trans (h4.mono hX.size)⟩
theorem two_of {w w4 Y w5 : World} {ks vs : List Int} {kg kc vg vc : Nat} (h4 : One w w4 ks kg kc) (hY : Below w4.heap.size w4 Y) (h5 : Below Y.heap.size Y w5) (o5 : Own w5 Y.heap.size (.slice (some ⟨vg, 0, none⟩) vs.length vc) vs) : Two w w5 ks vs kg kc vg vc := by
  have a4 := h4.bel
  have a5 : Below w4.heap.size w4 w5 := hY.trans (h5.mono hY.size)
  have g4 : kg < w4.heap.size := by
    obtain ⟨cur, h, _⟩ := own_block h4.k.1
    exact lt_of_block h
  have g5 : Y.heap.size ≤ vg := by
    obtain ⟨cur, h, hb⟩ := own_block o5.1
    exact hb
  have := hY.size
  exact ⟨h4.k.below a5, o5.base (Nat.le_trans a4.size hY.size), by omega, a4.trans (a5.mono a4.size)⟩

set_option maxRecDepth 100000 in
set_option maxHeartbeats 4000000 in
theorem momentOf_any (kb ko vb vo kn kc vn vc : Nat) (ks vs : List Int) (arg : Int) (w : World) (hkn : kn ≤ 1048576) (hvn : vn ≤ 1048576) (hk : SliceOf w (some ⟨kb, ko, none⟩) kn ks) (hv : SliceOf w (some ⟨vb, vo, none⟩) vn vs) :
    Calls Tryz.prog 67 #[.agg #[.slice (some ⟨kb, ko, none⟩) kn kc, .slice (some ⟨vb, vo, none⟩) vn vc], .int .i64 arg] w fun e w' => ∃ mb, e = .returned (.pointer (some ⟨mb, 0, none⟩)) ∧ Mom w' w.heap.size mb ks vs arg [] ∧ Below w.heap.size w w' := by
  have HS : Hid (∀ w', Below w.heap.size w w' → SliceOf w' (some ⟨kb, ko, none⟩) kn ks ∧ SliceOf w' (some ⟨vb, vo, none⟩) vn vs) := fun w' h => ⟨hk.below h, hv.below h⟩
  have EK := hid hk.1
  have EV := hid hv.1
  clear hk hv
  obtain ⟨W, hW⟩ : ∃ W, W = w.alloc (.cells #[.slice (some ⟨kb, ko, none⟩) kn kc, .slice (some ⟨vb, vo, none⟩) vn vc] 32) := ⟨_, rfl⟩
  have bW : Below w.heap.size w W := by rw [hW]; exact below1 _ _
  have r1 : W.heap[w.heap.size]? = some (.cells #[.slice (some ⟨kb, ko, none⟩) kn kc, .slice (some ⟨vb, vo, none⟩) vn vc] 32 (0, 0)) := by rw [hW]; exact heap_alloc_new _ _
  obtain ⟨y0, y1, _, _⟩ := pair_cells r1
  have HW := hid hW
  have BW := hid bW
  have R1 := hid r1
  have wl := lt_of_block r1
  have X1 := hid (And.intro bW.drew (show W.drew.heap[w.heap.size]? = _ from r1))
  have X2 := hid (And.intro (bW.alloc bW.size OE).drew (And.intro (show (W.alloc OE).drew.heap[w.heap.size]? = _ from block_below r1 (below1 W OE).drew) (show (W.alloc OE).drew.heap[W.heap.size]? = some OE from new1 W OE)))
  go_enter Tryz.func67, Tryz.ntmps67
  go_wp2_with fail
  rw [← hW]
  clear hW bW r1
  go_region_held3 (fun w' => w'.cell? ⟨w.heap.size, 0, none⟩ = some (.slice (some ⟨kb, ko, none⟩) kn kc) ∧ w'.cell? ⟨w.heap.size, 1, none⟩ = some (.slice (some ⟨vb, vo, none⟩) vn vc)) (first | exact SY.out | exact SX.out | go_keep)
    (first
      | (go_at_call_of 124 (Value.slice (some ⟨kb, ko, none⟩) kn kc); refine (copyInts_any kb ko kn kc ks _ hkn (HS.out _ X1.out.1).1).mono ?_; rintro e w4 ⟨v4, rfl, ho, hb⟩; obtain ⟨g4, p4, hv4, _, _⟩ := ho.form; subst hv4; have A4 := hid (k_step X1.out.1 X1.out.2 hb); have SX := hid (two_cells' A4.out.2); have wl4 := lt_of_block A4.out.2; have P4 := hid (pre_two X1.out.1 hb ho); clear ho hb)
      | (go_at_call_of 124 (Value.slice (some ⟨kb, ko, none⟩) kn kc); refine (copyInts_any kb ko kn kc ks _ hkn (HS.out _ X2.out.1).1).mono ?_; rintro e w4 ⟨v4, rfl, ho, hb⟩; obtain ⟨g4, p4, hv4, _, _⟩ := ho.form; subst hv4; have A4 := hid (k_step X2.out.1 X2.out.2.1 hb); have SX := hid (two_cells' A4.out.2); have wl4 := lt_of_block A4.out.2; have P4 := hid (pre_two X2.out.1 hb ho); have E4 := hid (block_below X2.out.2.2 hb); clear ho hb)
      | (go_at_call_of 124 (Value.slice (some ⟨vb, vo, none⟩) vn vc); refine (copyInts_any vb vo vn vc vs _ hvn (HS.out _ A4.out.1).2).mono ?_; rintro e w5 ⟨v5, rfl, ho, hb⟩; obtain ⟨g5, p5, hv5, _, _⟩ := ho.form; subst hv5; have SY := hid (two_cells' (block_below A4.out.2 hb)); have P5 := hid (two_of P4.out (Below.refl _ _) hb ho); (try (have E5 := hid (block_below E4.out hb))); clear ho hb)
      | (go_at_call_of 124 (Value.slice (some ⟨vb, vo, none⟩) vn vc); refine (copyInts_any vb vo vn vc vs _ hvn (HS.out _ (A4.out.1.alloc A4.out.1.size _)).2).mono ?_; rintro e w5 ⟨v5, rfl, ho, hb⟩; obtain ⟨g5, p5, hv5, _, _⟩ := ho.form; subst hv5; have SY := hid (two_cells' (block_below (block_below A4.out.2 (below1 _ _)) hb)); have P5 := hid (two_of P4.out (below1 _ _) hb ho); have E5 := hid (block_below (new1 w4 OE) hb); clear ho hb))
  all_goals
    go_wp2
    go_ret
    first
      | exact ⟨_, rfl, by simpa using mom_new (P5.out.below (below1 _ _)).k (P5.out.below (below1 _ _)).v P5.out.ne (P5.out.below (below1 _ _)).bel.size (new1 w5 OE) P5.out.bel.size, (P5.out.below (below2 _ _ _)).bel⟩
      | exact ⟨_, rfl, mom_new P5.out.k P5.out.v P5.out.ne P5.out.bel.size E5.out (by first | exact BW.out.size | exact A4.out.1.size), (P5.out.below (below1 _ _)).bel⟩
end Go.Proofs.YtiimkhepplkocaaGreat
