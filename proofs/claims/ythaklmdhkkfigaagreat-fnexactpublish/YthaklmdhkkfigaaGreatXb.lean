import Derived.Test.YthaklmdhkkfigaaGreatXa
import Derived.Deep.Cut
namespace Go.Proofs.YthaklmdhkkfigaaGreat
open Go.RowKit Go.Sort
set_option linter.unusedVariables false
attribute [local go_sem ↓] Go.wp_at_zero Go.wp_at_succ

abbrev vint (l : List Int) : List Value := l.map (Value.int .i64)
/-- What has one of these tags is as it was. -/
def Kp (T : List TypeId) (X Y : World) : Prop := ∀ (b : Nat) (cs : Array Value) (t : TypeId) (fr : Nat × Nat), X.heap[b]? = some (.cells cs t fr) → t ∈ T → Y.heap[b]? = some (.cells cs t fr)
theorem Kp.below {T : List TypeId} {X Y : World} (h : Below X.heap.size X Y) : Kp T X Y := fun b cs t fr hb _ => block_below hb h
theorem Kp.trans {T : List TypeId} {X Y Z : World} (h : Kp T X Y) (k : Kp T Y Z) : Kp T X Z := fun b cs t fr hb ht => k b cs t fr (h b cs t fr hb ht) ht
theorem Kp.own {T : List TypeId} {X Y : World} (k : Kp T X Y) {B : Nat} {e : TypeId} {size : Nat} {v : Value} {n : Nat} {xs : List Value} (h : X.ownsRow B e size v n xs) (he : e ∈ T) : Y.ownsRow B e size v n xs := by
  refine ⟨h.1, ?_⟩
  rcases h.2 with h0 | ⟨g, cap, cur, h1, h2, h3, h4⟩
  · exact .inl h0
  · exact .inr ⟨g, cap, cur, h1, h2, k _ _ _ _ h3 he, h4⟩
theorem Kp.set {T : List TypeId} {X : World} {H o : Nat} {cs : Array Value} {t : TypeId} {fr : Nat × Nat} (h : X.heap[H]? = some (.cells cs t fr)) (ht : t ∉ T) (u : Value) : Kp T X (X.setCell ⟨H, o, none⟩ u) := by
  intro b cs' t' fr' hb ht'
  refine (Below.heap_setCell _ _ _ _ ?_).trans hb
  rintro rfl
  rw [h] at hb
  simp at hb
  exact ht (hb.2.1 ▸ ht')
theorem Kp.grown {T : List TypeId} {X Y : World} {B : Nat} {e : TypeId} {size : Nat} {v : Value} {n : Nat} {xs : List Value} (h : X.ownsRow B e size v n xs) (hg : X.grownBy Y v.ownBlock) (he : e ∉ T) : Kp T X Y := by
  intro b cs t fr hb ht
  refine (hg.block b (lt_of_block hb) ?_).trans hb
  intro e2
  rcases h.2 with ⟨h0, _⟩ | ⟨g, cap, cur, h1, h2, h3, h4⟩
  · rw [h0] at e2; cases e2
  · rw [h1] at e2
    simp [Value.ownBlock] at e2
    subst e2
    rw [hb] at h3
    simp at h3
    exact he (h3.2.1 ▸ ht)
/-- Lists of numbers, all of the call's own. -/
structure NestV (w : World) (B : Nat) (v : Value) (vs : List Value) (qs : List (List Int)) : Prop where
  row : w.ownsRow B 26 1 v vs.length vs
  len : vs.length = qs.length
  inn : ∀ i, i < vs.length → w.ownsRow B 3 1 (vs.getD i undef) (qs.getD i []).length (vint (qs.getD i []))
theorem NestV.kp {X Y : World} {B : Nat} {v : Value} {vs : List Value} {qs : List (List Int)} (h : NestV X B v vs qs) {T : List TypeId} (k : Kp T X Y) (h1 : 26 ∈ T) (h2 : 3 ∈ T) : NestV Y B v vs qs := ⟨k.own h.row h1, h.len, fun i hi => k.own (h.inn i hi) h2⟩
theorem NestQ.kp {X Y : World} {B : Nat} {v : Value} {vs : List Value} {qs : List (List (Int × Int))} (h : NestQ X B v vs qs) {T : List TypeId} (k : Kp T X Y) (h1 : 138 ∈ T) (h2 : 70 ∈ T) : NestQ Y B v vs qs := ⟨k.own h.row h1, h.len, fun i hi => k.own (h.inn i hi) h2⟩
theorem ints_slice {w : World} {B n cap : Nat} {ao : Option Addr} {zs : List Int} (h : w.ownsRow B 3 1 (.slice ao n cap) zs.length (vint zs)) : SliceOf w ao n zs := by
  rcases h.2 with ⟨h0, h1⟩ | ⟨g, cap', cur, h1, h2, h3, h4⟩
  · simp only [Value.slice.injEq] at h0
    obtain ⟨rfl, rfl, rfl⟩ := h0
    exact ⟨h1, fun h => absurd h (by omega)⟩
  · simp only [Value.slice.injEq] at h1
    obtain ⟨rfl, rfl, rfl⟩ := h1
    refine ⟨rfl, fun hn => ⟨g, 0, rfl, lt_of_block h3, fun i hi => ?_⟩⟩
    have c1 := World.ownsRow.cellAt h i (by simpa using hi)
    rw [Nat.zero_add, c1]
    simp [List.getD_eq_getElem?_getD, hi]
theorem own_max {w : World} {B : Nat} {v : Value} {e : TypeId} {size n : Nat} {xs : List Value} (h : w.ownsRow B e size v n xs) : n ≤ 9223372036854775807 := by
  rcases h.2 with ⟨_, h1⟩ | ⟨g, cap', cur, h1, h2, h3, h4, h5, _⟩
  · omega
  · unfold maxLen at h5; omega
theorem NestV.nest {w : World} {B n cap : Nat} {ao : Option Addr} {vs : List Value} {qs : List (List Int)} (h : NestV w B (.slice ao n cap) vs qs) : NestI w ao n qs := by
  obtain rfl := row_len h.row
  refine ⟨h.len.symm, fun h0 => ?_⟩
  obtain ⟨g, cap2, e1, hgB, hgl⟩ := World.ownsRow.form h.row (by omega)
  simp only [Value.slice.injEq] at e1
  obtain ⟨rfl, _, rfl⟩ := e1
  refine ⟨g, 0, rfl, hgl, fun i hi => ?_⟩
  have hi' : i < vs.length := by omega
  have h1 := h.inn i hi'
  obtain ⟨co, cn, cc, h2⟩ := row_form h1
  have c1 := World.ownsRow.cellAt h.row i (by omega)
  rw [List.getElem?_eq_getElem hi'] at c1
  have : vs[i] = vs.getD i undef := by simp [List.getD_eq_getElem?_getD, hi']
  rw [this, h2] at c1
  have h3 := h1
  rw [h2] at h3
  exact ⟨co, cn, cc, by simpa using c1, by have := row_len h3; have := own_max h1; omega, ints_slice h3⟩
theorem NestV.snoc {w' : World} {B : Nat} {v' x : Value} {vs : List Value} {qs : List (List Int)} {q : List Int} (hl : vs.length = qs.length) (hi : ∀ i, i < vs.length → w'.ownsRow B 3 1 (vs.getD i undef) (qs.getD i []).length (vint (qs.getD i []))) (hr : w'.ownsRow B 26 1 v' (vs.length + 1) (vs ++ [x])) (hq : w'.ownsRow B 3 1 x q.length (vint q)) : NestV w' B v' (vs ++ [x]) (qs ++ [q]) := by
  refine ⟨by simpa using hr, by simp [hl], fun i h2 => ?_⟩
  by_cases e : i < vs.length
  · rw [getD_snoc_lt e, getD_snoc_lt (by rw [← hl]; exact e)]; exact hi i e
  · have ei : i = vs.length := by simp at h2; omega
    subst ei
    rw [getD_snoc_eq, hl, getD_snoc_eq]; exact hq
/-- A kernel whose lists are all of the call's own: the six slices, and the inner ones. -/
structure Wk (w : World) (B : Nat) (L V Q D E F : Value) (k : KerD) (vs vq vd : List Value) : Prop where
  l : w.ownsRow B 3 1 L k.leaf.length (vint k.leaf)
  v : NestV w B V vs k.vals
  q : NestQ w B Q vq k.qs
  d : NestQ w B D vd k.ds
  e : w.ownsRow B 3 1 E k.left.length (vint k.left)
  f : w.ownsRow B 3 1 F k.every.length (vint k.every)
  qd : ∀ b, Q.ownBlock = some b → D.ownBlock ≠ some b
  el : ∀ b, E.ownBlock = some b → L.ownBlock ≠ some b
  ef : ∀ b, E.ownBlock = some b → F.ownBlock ≠ some b
  ev : ∀ b, E.ownBlock = some b → ∀ i, i < vs.length → (vs.getD i undef).ownBlock ≠ some b
abbrev tagsK : List TypeId := [3, 26, 138, 70]
section
variable {X Y : World} {B : Nat} {L V Q D E F : Value} {k : KerD} {vs vq vd : List Value}
theorem Wk.kp (h : Wk X B L V Q D E F k vs vq vd) {T : List TypeId} (c : Kp T X Y) (hT : ∀ t ∈ tagsK, t ∈ T) : Wk Y B L V Q D E F k vs vq vd :=
  have h1 : 3 ∈ T := hT _ (by simp)
  have h2 : 26 ∈ T := hT _ (by simp)
  have h3 : 138 ∈ T := hT _ (by simp)
  have h4 : 70 ∈ T := hT _ (by simp)
  ⟨c.own h.l h1, h.v.kp c h2 h1, h.q.kp c h3 h4, h.d.kp c h3 h4, c.own h.e h1, c.own h.f h1, h.qd, h.el, h.ef, h.ev⟩
theorem Wk.below (h : Wk X B L V Q D E F k vs vq vd) (hb : Below X.heap.size X Y) : Wk Y B L V Q D E F k vs vq vd := h.kp (T := tagsK) (Kp.below hb) (fun _ h => h)
theorem Wk.leaf (h : Wk X B L V Q D (.slice none 0 0) F k vs vq vd) (hb : Below X.heap.size X Y) {L' : Value} {zs : List Int} (ho : Y.ownsRow B 3 1 L' zs.length (vint zs)) : Wk Y B L' V Q D (.slice none 0 0) F { k with leaf := zs } vs vq vd :=
  have g := h.below hb
  ⟨ho, g.v, g.q, g.d, g.e, g.f, g.qd, fun b e => by simp [Value.ownBlock] at e, fun b e => by simp [Value.ownBlock] at e, fun b e => by simp [Value.ownBlock] at e⟩
theorem Wk.left (h : Wk X B L V Q D E (.slice none 0 0) k vs vq vd) (hB : B ≤ X.heap.size) (hb : Below X.heap.size X Y) {E' : Value} {zs : List Int} (ho : Y.ownsRow X.heap.size 3 1 E' zs.length (vint zs)) : Wk Y B L V Q D E' (.slice none 0 0) { k with left := zs } vs vq vd :=
  have g := h.below hb
  ⟨g.l, g.v, g.q, g.d, row_base ho hB, g.f, g.qd, fun b e e2 => by have := (ho.lt b e).1; have := (h.l.lt b e2).2; omega, fun b e e2 => by simp [Value.ownBlock] at e2, fun b e i hi e2 => by have := (ho.lt b e).1; have := ((h.v.inn i hi).lt b e2).2; omega⟩
theorem Wk.every (h : Wk X B L V Q D E F k vs vq vd) (hB : B ≤ X.heap.size) (hb : Below X.heap.size X Y) {F' : Value} {zs : List Int} (ho : Y.ownsRow X.heap.size 3 1 F' zs.length (vint zs)) : Wk Y B L V Q D E F' { k with every := zs } vs vq vd :=
  have g := h.below hb
  ⟨g.l, g.v, g.q, g.d, g.e, row_base ho hB, g.qd, g.el, fun b e e2 => by have := (ho.lt b e2).1; have := (h.e.lt b e).2; omega, g.ev⟩
/-- As the walk is told of kernels. -/
theorem Wk.ker {h : KerS} (g : Wk X B (.slice h.lo h.ln h.lc) (.slice h.vo h.vn h.vc) (.slice h.qo h.qn h.qc) (.slice h.po h.pn h.pc) (.slice h.eo h.en h.ec) (.slice h.fo h.fn h.fc) k vs vq vd) : KerOf X h k := ⟨ints_slice g.l, g.v.nest, g.q.nest, g.d.nest, ints_slice g.e, ints_slice g.f⟩
theorem Wk.max {h : KerS} (g : Wk X B (.slice h.lo h.ln h.lc) (.slice h.vo h.vn h.vc) (.slice h.qo h.qn h.qc) (.slice h.po h.pn h.pc) (.slice h.eo h.en h.ec) (.slice h.fo h.fn h.fc) k vs vq vd) : KerMax h := by
  have c := g.ker
  refine ⟨?_, ?_, ?_, ?_, ?_, ?_⟩
  · have := own_max g.l; have := c.hl.1; omega
  · have := own_max g.v.row; have := row_len g.v.row; omega
  · have := own_max g.q.row; have := row_len g.q.row; omega
  · have := own_max g.d.row; have := row_len g.d.row; omega
  · have := own_max g.e; have := c.he.1; omega
  · have := own_max g.f; have := c.hf.1; omega
end
end Go.Proofs.YthaklmdhkkfigaaGreat
namespace Go.Proofs.YthaklmdhkkfigaaGreat
open Go.RowKit Go.Sort
set_option linter.unusedVariables false
attribute [local go_sem ↓] Go.wp_at_zero Go.wp_at_succ

abbrev kerC (h : KerS) : Array Value := #[.slice h.lo h.ln h.lc, .slice h.vo h.vn h.vc, .slice h.qo h.qn h.qc, .slice h.po h.pn h.pc, .slice h.eo h.en h.ec, .slice h.fo h.fn h.fc]
abbrev nilV : Value := .slice none 0 0
abbrev kerZ : Array Value := #[nilV, nilV, nilV, nilV, nilV, nilV]
/-- A copy in the making: the argument's box, the answer's, the copy's own. -/
structure Cp (w : World) (h : KerS) (H : Nat) (L V Q D E F : Value) (k : KerD) (vs vq vd : List Value) (X : World) : Prop where
  bel : Below w.heap.size w X
  i : X.heap[w.heap.size]? = some (.cells (kerC h) 35 (0, 0))
  r : X.heap[w.heap.size + 1]? = some (.cells kerZ 35 (0, 0))
  o : X.heap[H]? = some (.cells #[L, V, Q, D, E, F] 35 (0, 0))
  gt : w.heap.size + 1 < H
  wk : Wk X w.heap.size L V Q D E F k vs vq vd
section
variable {w X Y : World} {h : KerS} {H : Nat} {L V Q D E F : Value} {k : KerD} {vs vq vd : List Value}
theorem Cp.below (c : Cp w h H L V Q D E F k vs vq vd X) (hb : Below X.heap.size X Y) : Cp w h H L V Q D E F k vs vq vd Y :=
  ⟨c.bel.trans (hb.mono c.bel.size), block_below c.i hb, block_below c.r hb, block_below c.o hb, c.gt, c.wk.below hb⟩
theorem kp_box {Z : World} {H o : Nat} {cs : Array Value} (hh : Z.heap[H]? = some (.cells cs 35 (0, 0))) (u : Value) : Kp tagsK Z (Z.setCell ⟨H, o, none⟩ u) := Kp.set hh (by decide) u
theorem Cp.leaf (c : Cp w h H L V Q D nilV F k vs vq vd X) (hb : Below X.heap.size X Y) {L' : Value} {zs : List Int} (ho : Y.ownsRow w.heap.size 3 1 L' zs.length (vint zs)) : Cp w h H L' V Q D nilV F { k with leaf := zs } vs vq vd (Y.setCell ⟨H, 0, none⟩ L') := by
  have g := c.below hb
  refine ⟨below_set g.bel (by have := c.gt; omega), ?_, ?_, ?_, c.gt, (c.wk.leaf hb ho).kp (kp_box g.o L') (fun _ h => h)⟩
  · exact (Below.heap_setCell _ _ _ _ (fun e => by have := c.gt; simp at e; omega)).trans g.i
  · exact (Below.heap_setCell _ _ _ _ (fun e => by have := c.gt; simp at e; omega)).trans g.r
  · rw [heap_setCell_same Y H 0 _ _ L' g.o]; rfl
theorem Cp.left (c : Cp w h H L V Q D E nilV k vs vq vd X) (hb : Below X.heap.size X Y) {E' : Value} {zs : List Int} (ho : Y.ownsRow X.heap.size 3 1 E' zs.length (vint zs)) : Cp w h H L V Q D E' nilV { k with left := zs } vs vq vd (Y.setCell ⟨H, 4, none⟩ E') := by
  have g := c.below hb
  refine ⟨below_set g.bel (by have := c.gt; omega), ?_, ?_, ?_, c.gt, (c.wk.left c.bel.size hb ho).kp (kp_box g.o E') (fun _ h => h)⟩
  · exact (Below.heap_setCell _ _ _ _ (fun e => by have := c.gt; simp at e; omega)).trans g.i
  · exact (Below.heap_setCell _ _ _ _ (fun e => by have := c.gt; simp at e; omega)).trans g.r
  · rw [heap_setCell_same Y H 4 _ _ E' g.o]; rfl
theorem Cp.every (c : Cp w h H L V Q D E F k vs vq vd X) (hb : Below X.heap.size X Y) {F' : Value} {zs : List Int} (ho : Y.ownsRow X.heap.size 3 1 F' zs.length (vint zs)) : Cp w h H L V Q D E F' { k with every := zs } vs vq vd (Y.setCell ⟨H, 5, none⟩ F') := by
  have g := c.below hb
  refine ⟨below_set g.bel (by have := c.gt; omega), ?_, ?_, ?_, c.gt, (c.wk.every c.bel.size hb ho).kp (kp_box g.o F') (fun _ h => h)⟩
  · exact (Below.heap_setCell _ _ _ _ (fun e => by have := c.gt; simp at e; omega)).trans g.i
  · exact (Below.heap_setCell _ _ _ _ (fun e => by have := c.gt; simp at e; omega)).trans g.r
  · rw [heap_setCell_same Y H 5 _ _ F' g.o]; rfl
/-- One more list of numbers: its own row, then the outer one. -/
theorem Cp.vals {Z : World} (c : Cp w h H L V Q D nilV F k vs vq vd X) (hb : Below X.heap.size X Y) {x V' : Value} {zs : List Int} (ho : Y.ownsRow w.heap.size 3 1 x zs.length (vint zs)) (hg : Y.grownBy Z V.ownBlock) (hV : Z.ownsRow w.heap.size 26 1 V' (vs.length + 1) (vs ++ [x])) :
    Cp w h H L V' Q D nilV F { k with vals := k.vals ++ [zs] } (vs ++ [x]) vq vd (Z.setCell ⟨H, 1, none⟩ V') := by
  have g := c.below hb
  have kp : Kp [3, 138, 70, 35] Y Z := Kp.grown g.wk.v.row hg (by decide)
  have oZ := kp _ _ _ _ g.o (by simp)
  have bZ : Below w.heap.size w Z := g.bel.grown hg g.bel.size (fun j hj => (g.wk.v.row.lt j hj).1)
  have wkZ : Wk Z w.heap.size L V' Q D nilV F { k with vals := k.vals ++ [zs] } (vs ++ [x]) vq vd :=
    ⟨kp.own g.wk.l (by simp), NestV.snoc g.wk.v.len (fun i hi => kp.own (g.wk.v.inn i hi) (by simp)) hV (kp.own ho (by simp)), g.wk.q.kp kp (by simp) (by simp), g.wk.d.kp kp (by simp) (by simp), kp.own g.wk.e (by simp), kp.own g.wk.f (by simp), g.wk.qd, fun b e => by simp [Value.ownBlock] at e, fun b e => by simp [Value.ownBlock] at e, fun b e => by simp [Value.ownBlock] at e⟩
  refine ⟨below_set bZ (by have := c.gt; omega), ?_, ?_, ?_, c.gt, wkZ.kp (kp_box oZ V') (fun _ h => h)⟩
  · exact (Below.heap_setCell _ _ _ _ (fun e => by have := c.gt; simp at e; omega)).trans (kp _ _ _ _ g.i (by simp))
  · exact (Below.heap_setCell _ _ _ _ (fun e => by have := c.gt; simp at e; omega)).trans (kp _ _ _ _ g.r (by simp))
  · rw [heap_setCell_same Z H 1 _ _ V' oZ]; rfl
end
end Go.Proofs.YthaklmdhkkfigaaGreat
