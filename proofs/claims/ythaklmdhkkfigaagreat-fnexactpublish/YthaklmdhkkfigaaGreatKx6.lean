import Derived.Test.YthaklmdhkkfigaaGreatXb
namespace Go.Proofs.YthaklmdhkkfigaaGreat
open Go.RowKit Go.Sort
set_option linter.unusedVariables false
attribute [local go_sem ↓] Go.wp_at_zero Go.wp_at_succ

abbrev k0 (qs ds : List (List (Int × Int))) : KerD := ⟨[], [], qs, ds, [], []⟩
abbrev OZ : Obj := .cells kerZ 35
/-- What stands when both lists of events are copied and the copy's box is laid. -/
structure Cq (w : World) (h : KerS) (H : Nat) (Q D : Value) (qs ds : List (List (Int × Int))) (vq vd : List Value) (X : World) : Prop where
  bel : Below w.heap.size w X
  i : X.heap[w.heap.size]? = some (.cells (kerC h) 35 (0, 0))
  r : X.heap[w.heap.size + 1]? = some (.cells kerZ 35 (0, 0))
  o : X.heap[H]? = some (.cells kerZ 35 (0, 0))
  gt : w.heap.size + 1 < H
  q : NestQ X w.heap.size Q vq qs
  d : NestQ X w.heap.size D vd ds
  qd : ∀ b, Q.ownBlock = some b → D.ownBlock ≠ some b
section
variable {w X Y : World} {h : KerS} {H : Nat} {Q D : Value} {qs ds : List (List (Int × Int))} {vq vd : List Value}
theorem Cq.made (c : Cq w h H Q D qs ds vq vd X) : Cp w h H nilV nilV Q D nilV nilV (k0 qs ds) [] vq vd ((((((X.setCell ⟨H, 0, none⟩ nilV).setCell ⟨H, 1, none⟩ nilV).setCell ⟨H, 2, none⟩ Q).setCell ⟨H, 3, none⟩ D).setCell ⟨H, 4, none⟩ nilV).setCell ⟨H, 5, none⟩ nilV) := by
  have o1 := heap_setCell_same X H 0 _ _ nilV c.o
  have o2 := heap_setCell_same _ H 1 _ _ nilV o1
  have o3 := heap_setCell_same _ H 2 _ _ Q o2
  have o4 := heap_setCell_same _ H 3 _ _ D o3
  have o5 := heap_setCell_same _ H 4 _ _ nilV o4
  have o6 := heap_setCell_same _ H 5 _ _ nilV o5
  have kp : Kp tagsK X ((((((X.setCell ⟨H, 0, none⟩ nilV).setCell ⟨H, 1, none⟩ nilV).setCell ⟨H, 2, none⟩ Q).setCell ⟨H, 3, none⟩ D).setCell ⟨H, 4, none⟩ nilV).setCell ⟨H, 5, none⟩ nilV) := (((((kp_box c.o nilV).trans (kp_box o1 nilV)).trans (kp_box o2 Q)).trans (kp_box o3 D)).trans (kp_box o4 nilV)).trans (kp_box o5 nilV)
  have hf : ∀ (b : Nat), b ≠ H → ((((((X.setCell ⟨H, 0, none⟩ nilV).setCell ⟨H, 1, none⟩ nilV).setCell ⟨H, 2, none⟩ Q).setCell ⟨H, 3, none⟩ D).setCell ⟨H, 4, none⟩ nilV).setCell ⟨H, 5, none⟩ nilV).heap[b]? = X.heap[b]? := fun b e => by
    rw [Below.heap_setCell _ _ _ _ e, Below.heap_setCell _ _ _ _ e, Below.heap_setCell _ _ _ _ e, Below.heap_setCell _ _ _ _ e, Below.heap_setCell _ _ _ _ e, Below.heap_setCell _ _ _ _ e]
  have g := c.gt
  refine ⟨below_set (below_set (below_set (below_set (below_set (below_set c.bel (by omega)) (by omega)) (by omega)) (by omega)) (by omega)) (by omega), (hf _ (by omega)).trans c.i, (hf _ (by omega)).trans c.r, by rw [o6]; rfl, c.gt, ?_⟩
  refine ⟨World.ownsRow_nil _ _ _ _, ⟨World.ownsRow_nil _ _ _ _, rfl, fun i hi => by simp at hi⟩, c.q.kp kp (by simp) (by simp), c.d.kp kp (by simp) (by simp), World.ownsRow_nil _ _ _ _, World.ownsRow_nil _ _ _ _, c.qd, fun b e => by simp [Value.ownBlock] at e, fun b e => by simp [Value.ownBlock] at e, fun b e => by simp [Value.ownBlock] at e⟩
/-- The second list is copied behind the first. -/
theorem far_q {X : World} {B1 B2 : Nat} {t1 t2 : TypeId} {s1 s2 n1 n2 : Nat} {v1 v2 : Value} {x1 x2 : List Value} {Z : World} (h1 : X.ownsRow B1 t1 s1 v1 n1 x1) (hz : X.heap.size ≤ B2) (h2 : Z.ownsRow B2 t2 s2 v2 n2 x2) : ∀ b, v1.ownBlock = some b → v2.ownBlock ≠ some b := fun b e1 e2 => by
  have := (h1.lt b e1).2
  have := (h2.lt b e2).1
  omega
end
theorem Tryz.infoIntS : (Tryz.prog.info? 26).map (fun i => (i.zero, i.size, i.bytes)) = some (some (.slice none 0 0), 1, 24) := by kernel_rfl
/-- The first of the two. -/
structure Gq (w : World) (h : KerS) (Q : Value) (qs : List (List (Int × Int))) (vq : List Value) (X : World) : Prop where
  bel : Below w.heap.size w X
  i : X.heap[w.heap.size]? = some (.cells (kerC h) 35 (0, 0))
  r : X.heap[w.heap.size + 1]? = some (.cells kerZ 35 (0, 0))
  q : NestQ X w.heap.size Q vq qs
theorem Gq.below {w X Y : World} {h : KerS} {Q : Value} {qs : List (List (Int × Int))} {vq : List Value} (c : Gq w h Q qs vq X) (hb : Below X.heap.size X Y) : Gq w h Q qs vq Y := ⟨c.bel.trans (hb.mono c.bel.size), block_below c.i hb, block_below c.r hb, c.q.below hb⟩
theorem Gq.first {w W X Y : World} {h : KerS} {Q : Value} {qs : List (List (Int × Int))} {vq : List Value} (b : Below w.heap.size w W) (i : W.heap[w.heap.size]? = some (.cells (kerC h) 35 (0, 0))) (r : W.heap[w.heap.size + 1]? = some (.cells kerZ 35 (0, 0))) (hx : Below W.heap.size W X) (hy : Below X.heap.size X Y) (q : NestQ Y X.heap.size Q vq qs) : Gq w h Q qs vq Y :=
  have hb : Below W.heap.size W Y := hx.trans (hy.mono hx.size)
  ⟨b.trans (hb.mono b.size), block_below i hb, block_below r hb, q.base (Nat.le_trans b.size hx.size)⟩
theorem Gq.both {w X Y : World} {h : KerS} {H : Nat} {Q D : Value} {qs ds : List (List (Int × Int))} {vq vd : List Value} (c : Gq w h Q qs vq X) (hy : Below X.heap.size X Y) (d : NestQ Y X.heap.size D vd ds) (o : Y.heap[H]? = some (.cells kerZ 35 (0, 0))) (gt : w.heap.size + 1 < H) : Cq w h H Q D qs ds vq vd Y :=
  have g := c.below hy
  ⟨g.bel, g.i, g.r, o, gt, g.q, d.base c.bel.size, far_q c.q.row (Nat.le_refl _) d.row⟩
theorem cell_al {w : World} {p : Addr} {u : Value} (h : w.cell? p = some u) (o : Obj) : (w.alloc o).cell? p = some u := (World.cell?_alloc_some _ _ _ (by rw [h]; rfl)).trans h
theorem six_froz {w : World} {H : Nat} {cs : Array Value} {t : TypeId} (k : w.heap[H]? = some (.cells cs t (0, 0))) : w.frozen? ⟨H, 0, none⟩ = false ∧ w.frozen? ⟨H, 1, none⟩ = false ∧ w.frozen? ⟨H, 2, none⟩ = false ∧ w.frozen? ⟨H, 3, none⟩ = false ∧ w.frozen? ⟨H, 4, none⟩ = false ∧ w.frozen? ⟨H, 5, none⟩ = false := by
  simp [World.frozen?, k]
theorem ints_one0 (zs : List Int) : ∀ u ∈ zs.map (Value.int .i64), u.oneCell' = true := by intro u hu; simp at hu; obtain ⟨z, _, rfl⟩ := hu; rfl
theorem below_nil {w w1 : World} (h : w.grownBy w1 none) : Below w.heap.size w w1 := ⟨h.os, h.tape, h.output, h.size, fun k hk => h.block k hk (by simp)⟩
abbrev put6 (X : World) (H : Nat) (a b c d e f : Value) : World := (((((X.setCell ⟨H, 0, none⟩ a).setCell ⟨H, 1, none⟩ b).setCell ⟨H, 2, none⟩ c).setCell ⟨H, 3, none⟩ d).setCell ⟨H, 4, none⟩ e).setCell ⟨H, 5, none⟩ f
theorem set6 {X w : World} {H : Nat} {p0 p1 p2 p3 p4 p5 a b c d e f : Value} (o : X.heap[H]? = some (.cells #[p0, p1, p2, p3, p4, p5] 35 (0, 0))) (hb : Below w.heap.size w X) (hB : w.heap.size ≤ H) : (put6 X H a b c d e f).heap[H]? = some (.cells #[a, b, c, d, e, f] 35 (0, 0)) ∧ Kp tagsK X (put6 X H a b c d e f) ∧ Below w.heap.size w (put6 X H a b c d e f) := by
  have o1 := heap_setCell_same X H 0 _ _ a o
  have o2 := heap_setCell_same _ H 1 _ _ b o1
  have o3 := heap_setCell_same _ H 2 _ _ c o2
  have o4 := heap_setCell_same _ H 3 _ _ d o3
  have o5 := heap_setCell_same _ H 4 _ _ e o4
  have o6 := heap_setCell_same _ H 5 _ _ f o5
  exact ⟨by rw [o6]; rfl, (((((kp_box o a).trans (kp_box o1 b)).trans (kp_box o2 c)).trans (kp_box o3 d)).trans (kp_box o4 e)).trans (kp_box o5 f), below_set (below_set (below_set (below_set (below_set (below_set hb hB) hB) hB) hB) hB) hB⟩
theorem Gq.laid {w X Y : World} {h : KerS} {Q D : Value} {qs ds : List (List (Int × Int))} {vq vd : List Value} (c : Gq w h Q qs vq X) (hy : Below X.heap.size X Y) (d : NestQ Y X.heap.size D vd ds) : Cp w h Y.heap.size nilV nilV Q D nilV nilV (k0 qs ds) [] vq vd (Y.alloc (.cells #[nilV, nilV, Q, D, nilV, nilV] 35)) :=
  have b1 := below1 Y (.cells #[nilV, nilV, Q, D, nilV, nilV] 35)
  have g := (c.below hy).below b1
  ⟨g.bel, g.i, g.r, heap_alloc_new _ _, lt_of_block (c.below hy).r, ⟨World.ownsRow_nil _ _ _ _, ⟨World.ownsRow_nil _ _ _ _, rfl, fun i hi => by simp at hi⟩, g.q, (d.base c.bel.size).below b1, World.ownsRow_nil _ _ _ _, World.ownsRow_nil _ _ _ _, far_q c.q.row (Nat.le_refl _) d.row, fun b e => by simp [Value.ownBlock] at e, fun b e => by simp [Value.ownBlock] at e, fun b e => by simp [Value.ownBlock] at e⟩⟩
set_option maxRecDepth 100000 in
set_option maxHeartbeats 3200000 in
theorem l4Copy_any (h : KerS) (k : KerD) (w : World) (hf : FitsKer k) (ho : KerOf w h k) :
    Calls Tryz.prog 30 #[kerV h] w fun e w' => ∃ (h' : KerS) (vs vq vd : List Value), e = .returned (kerV h') ∧ Wk w' w.heap.size (.slice h'.lo h'.ln h'.lc) (.slice h'.vo h'.vn h'.vc) (.slice h'.qo h'.qn h'.qc) (.slice h'.po h'.pn h'.pc) (.slice h'.eo h'.en h'.ec) (.slice h'.fo h'.fn h'.fc) k vs vq vd ∧ Below w.heap.size w w' := by
  obtain ⟨i0, hi, hz0, hz1, hz2⟩ := info_parts Tryz.infoInt0
  obtain ⟨j0, hj, hj0, hj1, hj2⟩ := info_parts Tryz.infoIntS
  obtain ⟨lo, ln, lc, vo, vn, vc, qo, qn, qc, po, pn, pc, eo, en, ec, fo, fn, fc⟩ := h
  have HS : Hid (∀ w', Below w.heap.size w w' → KerOf w' ⟨lo, ln, lc, vo, vn, vc, qo, qn, qc, po, pn, pc, eo, en, ec, fo, fn, fc⟩ k) := fun w' h => ho.below h
  have HF := hid hf
  unfold kerV
  dsimp only
  obtain ⟨W, hW⟩ : ∃ W, W = (w.alloc (.cells #[.slice lo ln lc, .slice vo vn vc, .slice qo qn qc, .slice po pn pc, .slice eo en ec, .slice fo fn fc] 35)).alloc OZ := ⟨_, rfl⟩
  have bW : Below w.heap.size w W := by rw [hW]; exact below2 _ _ _
  have r1 : W.heap[w.heap.size]? = some (.cells #[.slice lo ln lc, .slice vo vn vc, .slice qo qn qc, .slice po pn pc, .slice eo en ec, .slice fo fn fc] 35 (0, 0)) := by rw [hW]; exact block_below (heap_alloc_new w _) (below1 _ _)
  have r2 : W.heap[w.heap.size + 1]? = some (.cells kerZ 35 (0, 0)) := by have := heap_alloc_new (w.alloc (.cells #[.slice lo ln lc, .slice vo vn vc, .slice qo qn qc, .slice po pn pc, .slice eo en ec, .slice fo fn fc] 35)) OZ; rw [hW]; simpa using this
  have HW := hid hW
  have BW := hid bW
  have R1 := hid r1
  have R2 := hid r2
  have wl := lt_of_block r2
  obtain ⟨y0, y1, y2, y3, y4, y5⟩ := six_cells r1
  clear ho hf
  go_enter Tryz.func30, Tryz.ntmps30
  go_wp2_with fail
  rw [← hW]
  clear hW bW r1 r2
  go_cut [3] (fun s3 wx => ∃ (H : Nat) (qa da : Option Addr) (qm qp dm dp : Nat) (vq vd : List Value), s3 = .pointer (some ⟨H, 0, none⟩) ∧ Cp w ⟨lo, ln, lc, vo, vn, vc, qo, qn, qc, po, pn, pc, eo, en, ec, fo, fn, fc⟩ H nilV nilV (.slice qa qm qp) (.slice da dm dp) nilV nilV (k0 k.qs k.ds) [] vq vd wx)
  case first =>
    have ne1 : ¬ W.heap.size = w.heap.size := by omega
    have ne2 : ¬ w.heap.size = W.heap.size := by omega
    have X1 := hid (show Below w.heap.size w W.drew from BW.out.drew)
    have X2 := hid (show Below w.heap.size w (W.alloc OZ).drew from (BW.out.alloc BW.out.size OZ).drew)
    go_region_held3 (fun w' => w'.cell? ⟨w.heap.size, 2, none⟩ = some (.slice qo qn qc) ∧ w'.cell? ⟨w.heap.size, 3, none⟩ = some (.slice po pn pc)) (first | (with_reducible exact SZ.out _) | (with_reducible exact SY.out) | (with_reducible exact SX.out) | go_keep)
      (first
        | (go_at_call_of 66 (Value.slice qo qn qc); refine (l4CopyEvents_any qo qn qc k.qs W.drew HF.out.fq (HS.out _ X1.out).hq).mono ?_; rintro e wq ⟨v1, vq, rfl, hq, hb⟩; obtain ⟨qa, qm, qp, rfl⟩ := row_form hq.row; have G1 := hid (Gq.first (h := ⟨lo, ln, lc, vo, vn, vc, qo, qn, qc, po, pn, pc, eo, en, ec, fo, fn, fc⟩) BW.out R1.out R2.out (Below.refl _ _).drew hb hq); obtain ⟨_, _, t2, t3, _, _⟩ := six_cells G1.out.i; have SX := hid (And.intro t2 t3); have wlq := lt_of_block G1.out.r; have ne3 : ¬ wq.heap.size = w.heap.size := (by omega); have ne4 : ¬ w.heap.size = wq.heap.size := (by omega); clear hq hb t2 t3)
        | (go_at_call_of 66 (Value.slice qo qn qc); refine (l4CopyEvents_any qo qn qc k.qs (W.alloc OZ).drew HF.out.fq (HS.out _ X2.out).hq).mono ?_; rintro e wq ⟨v1, vq, rfl, hq, hb⟩; obtain ⟨qa, qm, qp, rfl⟩ := row_form hq.row; have G1 := hid (Gq.first (h := ⟨lo, ln, lc, vo, vn, vc, qo, qn, qc, po, pn, pc, eo, en, ec, fo, fn, fc⟩) BW.out R1.out R2.out (below1 _ _).drew hb hq); obtain ⟨_, _, t2, t3, _, _⟩ := six_cells G1.out.i; have SX := hid (And.intro t2 t3); have OA := hid (block_below (show (W.alloc OZ).drew.heap[W.heap.size]? = some (.cells kerZ 35 (0, 0)) from heap_alloc_new W OZ) hb); have wlq := lt_of_block OA.out; clear hq hb t2 t3)
        | (go_at_call_of 66 (Value.slice po pn pc); with_reducible refine (l4CopyEvents_any po pn pc k.ds wq HF.out.fp (HS.out _ G1.out.bel).hp).mono ?_; rintro e wd ⟨v2, vd, rfl, hd, hb2⟩; obtain ⟨da, dm, dp, rfl⟩ := row_form hd.row; obtain ⟨_, _, t2, t3, _, _⟩ := six_cells (G1.out.below hb2).i; have SY := hid (And.intro t2 t3); have SZ : Hid (∀ o, (wd.alloc o).cell? ⟨w.heap.size, 2, none⟩ = some (.slice qo qn qc) ∧ (wd.alloc o).cell? ⟨w.heap.size, 3, none⟩ = some (.slice po pn pc)) := hid (fun o => ⟨cell_al t2 o, cell_al t3 o⟩); have D1 := hid hd; have DB := hid hb2; have wld := hb2.size; (try (have OB := hid (block_below OA.out hb2); obtain ⟨o0, o1, o2, o3, o4, o5⟩ := six_cells OB.out; obtain ⟨p0, p1, p2, p3, p4, p5⟩ := six_froz OB.out)); clear hd hb2 t2 t3)
        | (go_at_call_of 66 (Value.slice po pn pc); with_reducible refine (l4CopyEvents_any po pn pc k.ds (wq.alloc OZ) HF.out.fp (HS.out _ (G1.out.below (below1 _ _)).bel).hp).mono ?_; rintro e wd ⟨v2, vd, rfl, hd, hb2⟩; obtain ⟨da, dm, dp, rfl⟩ := row_form hd.row; obtain ⟨_, _, t2, t3, _, _⟩ := six_cells ((G1.out.below (below1 wq OZ)).below hb2).i; have SY := hid (And.intro t2 t3); have D2 := hid hd; have DB := hid hb2; have wld := hb2.size; have OB := hid (block_below (heap_alloc_new wq OZ) hb2); obtain ⟨o0, o1, o2, o3, o4, o5⟩ := six_cells OB.out; obtain ⟨p0, p1, p2, p3, p4, p5⟩ := six_froz OB.out; clear hd hb2 t2 t3))
    all_goals
      go_wp2_with fail
      go_meet
      first
          | exact ⟨_, qa, da, qm, qp, dm, dp, vq, vd, rfl, ((G1.out.both DB.out D1.out OB.out (by omega)).made)⟩
          | exact ⟨_, qa, da, qm, qp, dm, dp, vq, vd, rfl, (((G1.out.below (below1 wq OZ)).both DB.out D2.out OB.out (by omega)).made)⟩
          | exact ⟨_, qa, da, qm, qp, dm, dp, vq, vd, rfl, G1.out.laid DB.out D1.out⟩
          | exact ⟨_, qa, da, qm, qp, dm, dp, vq, vd, rfl, (((G1.out.both (DB.out.trans ((below1 wd OZ).mono DB.out.size)) (D1.out.below (below1 _ _)) (heap_alloc_new wd OZ) (by omega))).made)⟩
  case rest =>
    obtain ⟨H, qa, da, qm, qp, dm, dp, vq, vd, rfl, hC⟩ := hcut
    have C0 := hid hC
    obtain ⟨b0, b1, b2, b3, b4, b5⟩ := six_cells hC.i
    obtain ⟨c0, c1, c2, c3, c4, c5⟩ := six_cells hC.o
    obtain ⟨f0, f1, f2, f3, f4, f5⟩ := six_froz hC.o
    have hH := lt_of_block hC.o
    have gt := hC.gt
    have eln := hid (HS.out w (Below.refl _ _)).hl.1
    have fl : ln ≤ 1048576 := by have := HF.out.fl; rw [eln.out] at this; exact this
    clear hC y0 y1 y2 y3 y4 y5
    go_wp2_with (at_builtin; refine wpList_append_opt _ rfl (.tmp 14) (.tmp 16) 26 rfl w.heap.size 3 i0 (.int .i64 0) 1 8 Tryz.underlying26 hi hz0 hz1 hz2 rfl (by decide) (.slice none 0 0) 0 [] rfl (World.ownsRow_nil _ _ _ _) lo ln lc (k.leaf.map (Value.int .i64)) rfl (by simp [eln.out]) (news_of (HS.out _ C0.out.bel).hl (Below.refl _ _)) (ints_one0 k.leaf) (by unfold maxLen; omega) (by omega) C0.out.bel.size ?_; intro v1 w1 hown1 hgrow1 _; obtain ⟨la, lm, lp, rfl⟩ := row_form hown1; have E1 : Hid (w1.ownsRow w.heap.size 3 1 (.slice la lm lp) k.leaf.length (vint k.leaf)) := hid (by rw [eln.out]; simpa using hown1); have B1 := hid (below_nil hgrow1); have C1 := hid (C0.out.leaf B1.out E1.out); have P1 := C0.out.below B1.out; obtain ⟨d0, d1, d2, d3, d4, d5⟩ := six_cells P1.o; obtain ⟨g0, g1, g2, g3, g4, g5⟩ := six_froz P1.o; obtain ⟨a0, a1, a2, a3, a4, a5⟩ := six_cells P1.i; have hH1 := lt_of_block P1.o; have ne1 : ¬ H = w.heap.size := (by omega); have ne2 : ¬ w.heap.size = H := (by omega); clear hown1 hgrow1 P1 b0 b1 b2 b3 b4 b5 c0 c1 c2 c3 c4 c5 f0 f1 f2 f3 f4 f5)
    have HV := hid (HS.out w (Below.refl _ _)).hv
    have evn : Hid (k.vals.length = vn) := hid HV.out.1
    have fv : vn ≤ 1048576 := by have := HF.out.fv.1; have := evn.out; omega
    clear d0 d1 d2 d3 d4 d5 g0 g1 g2 g3 g4 g5 a0 a1 a2 a3 a4 a5
    go_loopw [5, 22] (fun s5 i wr => ∃ (kk : Nat) (va : Option Addr) (vm vp : Nat) (vs : List Value), kk ≤ vn ∧ i = .int .i64 kk ∧ Hid (Cp w ⟨lo, ln, lc, vo, vn, vc, qo, qn, qc, po, pn, pc, eo, en, ec, fo, fn, fc⟩ H (.slice la lm lp) (.slice va vm vp) (.slice qa qm qp) (.slice da dm dp) nilV nilV ⟨k.leaf, k.vals.take kk, k.qs, k.ds, [], []⟩ vs vq vd wr)) (fun _ i _ => vn - (intOf i).toNat)
    case atStart => exact ⟨0, none, 0, 0, [], Nat.zero_le _, rfl, hid (by simpa using C1.out)⟩
    case round =>
      obtain ⟨kk, va, vm, vp, vs, hkk, rfl, HC⟩ := hrel
      by_cases hlt : kk < vn
      · have hlt' : (kk : Int) < (vn : Int) := by omega
        obtain ⟨b, off, hvo, hbl, hc⟩ := ((HS.out _ HC.out.bel).hv).2 (by show 0 < vn; omega)
        have hvo' : vo = some ⟨b, off, none⟩ := hvo
        subst hvo'
        obtain ⟨co, cn, cc, c1, hcn, hit⟩ := hc kk hlt
        have c1' : wr.cell? ⟨b, off + kk, none⟩ = some (.slice co cn cc) := c1
        have hkq : kk < k.vals.length := by rw [evn.out]; exact hlt
        have hcl : cn ≤ 1048576 := by have := HF.out.fv.2 kk hkq; have := hit.1; omega
        have hvl : Hid (vs.length = kk) := hid (by have := HC.out.wk.v.len; simp at this; omega)
        have TK := hid (take_snocA [] hkq)
        have HI := hid hit
        obtain ⟨q, hq⟩ : ∃ q, q = k.vals.getD kk [] := ⟨_, rfl⟩
        rw [← hq] at HI TK
        have hqn : Hid (q.length = cn) := hid HI.out.1
        obtain ⟨d0, d1, d2, d3, d4, d5⟩ := six_cells HC.out.o
        obtain ⟨a0, a1, a2, a3, a4, a5⟩ := six_cells HC.out.i
        have hHr := lt_of_block HC.out.o
        have BU : Hid (Below wr.heap.size wr ((wr.alloc (.cells #[] 3)).drew)) := hid (below1 _ _).drew
        have OU : Hid (((wr.alloc (.cells #[] 3)).drew).ownsRow w.heap.size 3 1 (.slice (some ⟨wr.heap.size, 0, none⟩) 0 0) 0 []) := hid (ownsRow_below (World.ownsRow_lit wr #[] 0 HC.out.bel.size (by decide) rfl) ((Below.refl _ _).drew))
        have LQ : Hid ((q.map (Value.int .i64)).length = cn * 1) := hid (by simp [hqn.out])
        clear hc hit hq c1 hvo
        go_upto_region 6 with (fail)
        go_region_law
          (first
            | (refine step_append_opt _ (by rfl) _ _ _ (by rfl) w.heap.size 3 i0 _ 1 8 Tryz.underlying26 hi hz0 hz1 hz2 rfl (by omega) (.slice (some ⟨wr.heap.size, 0, none⟩) 0 0) 0 [] (by simp [Act.eval]) OU.out co cn cc (q.map (Value.int .i64)) (by simp [Act.eval]) LQ.out (news_of HI.out BU.out) (ints_one0 q) (by unfold maxLen; omega) (by omega) (Nat.le_trans HC.out.bel.size BU.out.size) ?_; intro v5 w5 hown hgrow _; obtain ⟨ya, ym, yc, rfl⟩ := row_form hown; have O5 : Hid (w5.ownsRow w.heap.size 3 1 (.slice ya ym yc) q.length (vint q)) := hid (by rw [hqn.out]; simpa using hown); have B5 := hid (BU.out.grown hgrow BU.out.size (fun j hj => Nat.le_of_eq (by simpa [Value.ownBlock] using hj))); have C5 := HC.out.below B5.out; obtain ⟨r0, r1, r2, r3, r4, r5⟩ := six_cells C5.o; obtain ⟨m0, m1, m2, m3, m4, m5⟩ := six_froz C5.o; have hH5 := lt_of_block C5.o; have C5h := hid C5; clear hown hgrow C5)
            | (refine step_append_opt _ (by rfl) _ _ _ (by rfl) w.heap.size 26 j0 _ 1 24 Tryz.underlying27 hj hj0 hj1 hj2 rfl (by omega) (.slice va vm vp) vs.length vs (by simp [Act.eval]) (ownsRow_below C5h.out.wk.v.row (below1 _ _)) (some ⟨w5.heap.size, 0, none⟩) 1 1 [.slice ya ym yc] (by simp [Act.eval]) rfl ⟨fun e => by simp at e, fun ad e => by simp at e; subst e; exact news_1x w5 _ _ rfl⟩ (one_slice _ _ _) (by have := hvl.out; unfold maxLen; omega) (by have := hvl.out; omega) (Nat.le_trans C5h.out.bel.size (below1 _ _).size) ?_; intro v6 w6 hown hgrow _; obtain ⟨za, zm, zc, rfl⟩ := row_form hown; have O6 : Hid (w6.heap[H]? = some (.cells #[.slice la lm lp, .slice va vm vp, .slice qa qm qp, .slice da dm dp, nilV, nilV] 35 (0, 0))) := hid (Kp.grown (T := [35]) (ownsRow_below C5h.out.wk.v.row (below1 _ _)) hgrow (by decide) _ _ _ _ (C5h.out.below (below1 _ _)).o (by simp)); obtain ⟨z0, z1, z2, z3, z4, z5⟩ := six_cells O6.out; obtain ⟨x0, x1, x2, x3, x4, x5⟩ := six_froz O6.out; have hH6 := lt_of_block O6.out; have C6 := hid (HC.out.vals (B5.out.trans ((below1 w5 _).mono B5.out.size)) (ownsRow_below O5.out (below1 _ _)) hgrow hown); clear hown hgrow))
        all_goals
          go_wp2
          go_roundw
          case rel => exact ⟨kk + 1, za, zm, zc, _, hlt, by go_num, hid (by have := C6.out; rw [TK.out]; exact this)⟩
          case measure => simp [intOf]; omega
      · have ek : kk = vn := by omega
        have C9 : Hid (Cp w ⟨lo, ln, lc, vo, vn, vc, qo, qn, qc, po, pn, pc, eo, en, ec, fo, fn, fc⟩ H (.slice la lm lp) (.slice va vm vp) (.slice qa qm qp) (.slice da dm dp) nilV nilV ⟨k.leaf, k.vals, k.qs, k.ds, [], []⟩ vs vq vd wr) := hid (by have := HC.out; rw [ek, List.take_of_length_le (by rw [evn.out]; exact Nat.le_refl _)] at this; exact this)
        have een : Hid (k.left.length = en) := hid (HS.out w (Below.refl _ _)).he.1
        have efn : Hid (k.every.length = fn) := hid (HS.out w (Below.refl _ _)).hf.1
        have fe : en ≤ 1048576 := by have := HF.out.fe; rw [een.out] at this; exact this
        have ff : fn ≤ 1048576 := by have := HF.out.ff; rw [efn.out] at this; exact this
        obtain ⟨d0, d1, d2, d3, d4, d5⟩ := six_cells C9.out.o
        obtain ⟨a0, a1, a2, a3, a4, a5⟩ := six_cells C9.out.i
        have hHr := lt_of_block C9.out.o
        have nlt : ¬ (kk : Int) < (vn : Int) := by omega
        clear HC ek hlt
        go_wp2_with (first
          | (at_builtin; refine wpList_append_opt _ rfl (.tmp 36) (.tmp 38) 26 rfl wr.heap.size 3 i0 (.int .i64 0) 1 8 Tryz.underlying26 hi hz0 hz1 hz2 rfl (by decide) (.slice none 0 0) 0 [] rfl (World.ownsRow_nil _ _ _ _) eo en ec (k.left.map (Value.int .i64)) rfl (by simp [een.out]) (news_of (HS.out _ C9.out.bel).he (Below.refl _ _)) (ints_one0 k.left) (by unfold maxLen; omega) (by omega) (Nat.le_refl _) ?_; intro v7 w7 hown7 hgrow7 _; obtain ⟨ea, em, ep, rfl⟩ := row_form hown7; have E7 : Hid (w7.ownsRow wr.heap.size 3 1 (.slice ea em ep) k.left.length (vint k.left)) := hid (by rw [een.out]; simpa using hown7); have B7 := hid (below_nil hgrow7); have C7 := hid (C9.out.left B7.out E7.out); have P7 := C9.out.below B7.out; obtain ⟨h0, h1, h2, h3, h4, h5⟩ := six_cells P7.o; obtain ⟨g0, g1, g2, g3, g4, g5⟩ := six_froz P7.o; obtain ⟨n0, n1, n2, n3, n4, n5⟩ := six_cells P7.i; have hH7 := lt_of_block P7.o; clear hown7 hgrow7 P7 d0 d1 d2 d3 d4 d5 a0 a1 a2 a3 a4 a5 hHr)
          | (at_builtin; refine wpList_append_opt _ rfl (.tmp 42) (.tmp 44) 26 rfl (w7.setCell ⟨H, 4, none⟩ (.slice ea em ep)).heap.size 3 i0 (.int .i64 0) 1 8 Tryz.underlying26 hi hz0 hz1 hz2 rfl (by decide) (.slice none 0 0) 0 [] rfl (World.ownsRow_nil _ _ _ _) fo fn fc (k.every.map (Value.int .i64)) rfl (by simp [efn.out]) (news_of (HS.out _ C7.out.bel).hf (Below.refl _ _)) (ints_one0 k.every) (by unfold maxLen; omega) (by omega) (Nat.le_refl _) ?_; intro v8 w8 hown8 hgrow8 _; obtain ⟨fa, fm, fp, rfl⟩ := row_form hown8; have E8 : Hid (w8.ownsRow (w7.setCell ⟨H, 4, none⟩ (.slice ea em ep)).heap.size 3 1 (.slice fa fm fp) k.every.length (vint k.every)) := hid (by rw [efn.out]; simpa using hown8); have B8 := hid (below_nil hgrow8); have C8 := hid (C7.out.every B8.out E8.out); have P8 := C7.out.below B8.out; obtain ⟨h0, h1, h2, h3, h4, h5⟩ := six_cells P8.o; obtain ⟨g0, g1, g2, g3, g4, g5⟩ := six_froz P8.o; obtain ⟨n0, n1, n2, n3, n4, n5⟩ := six_cells P8.r; obtain ⟨m0, m1, m2, m3, m4, m5⟩ := six_froz P8.r; have hH8 := lt_of_block P8.o; have ne3 : ¬ H = w.heap.size + 1 := (by omega); have ne4 : ¬ w.heap.size + 1 = H := (by omega); have hr8 := lt_of_block P8.r; clear hown8 hgrow8 P8))
        have S6 := set6 (a := .slice la lm lp) (b := .slice va vm vp) (c := .slice qa qm qp) (d := .slice da dm dp) (e := .slice ea em ep) (f := .slice fa fm fp) C8.out.r C8.out.bel (Nat.le_succ _)
        obtain ⟨q0, q1, q2, q3, q4, q5⟩ := six_cells S6.1
        refine bodyPost_ret (v := .agg #[.slice la lm lp, .slice va vm vp, .slice qa qm qp, .slice da dm dp, .slice ea em ep, .slice fa fm fp]) (by simp [results, Tryz.results30, go_sem, q0, q1, q2, q3, q4, q5]) rfl ?_
        exact ⟨⟨la, lm, lp, va, vm, vp, qa, qm, qp, da, dm, dp, ea, em, ep, fa, fm, fp⟩, rfl, ⟨vs, vq, vd, C8.out.wk.kp S6.2.1 (fun _ h => h)⟩, S6.2.2⟩
end Go.Proofs.YthaklmdhkkfigaaGreat
