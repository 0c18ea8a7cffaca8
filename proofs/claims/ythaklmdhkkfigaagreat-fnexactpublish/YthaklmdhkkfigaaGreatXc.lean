import Derived.Test.YthaklmdhkkfigaaGreatKx6
import Derived.Test.YthaklmdhkkfigaaGreatU5
namespace Go.Proofs.YthaklmdhkkfigaaGreat
open Go.RowKit Go.Sort
set_option linter.unusedVariables false
attribute [local go_sem ↓] Go.wp_at_zero Go.wp_at_succ

/-- Records as cells. -/
def rcC : List (Int × Int × Int) → List Value
  | [] => []
  | e :: r => .int .i64 e.1 :: .int .i64 e.2.1 :: .int .i64 e.2.2 :: rcC r
theorem rcC_append (a b : List (Int × Int × Int)) : rcC (a ++ b) = rcC a ++ rcC b := by
  induction a with
  | nil => rfl
  | cons e r ih => simp [rcC, ih]
abbrev RcRow (w : World) (B : Nat) (v : Value) (rs : List (Int × Int × Int)) : Prop := w.ownsRow B 106 3 v rs.length (rcC rs)
theorem one3 (a b c : Int) : ∀ u ∈ [Value.int .i64 a, .int .i64 b, .int .i64 c], u.oneCell' = true := by intro u hu; simp at hu; rcases hu with rfl | rfl | rfl <;> rfl
theorem ten_cells {w : World} {H : Nat} {a b c d e f g h i j : Value} {t : TypeId} (k : w.heap[H]? = some (.cells #[a, b, c, d, e, f, g, h, i, j] t (0, 0))) : (w.cell? ⟨H, 0, none⟩ = some a ∧ w.cell? ⟨H, 1, none⟩ = some b ∧ w.cell? ⟨H, 2, none⟩ = some c) ∧ (w.cell? ⟨H, 3, none⟩ = some d ∧ w.cell? ⟨H, 4, none⟩ = some e ∧ w.cell? ⟨H, 5, none⟩ = some f ∧ w.cell? ⟨H, 6, none⟩ = some g ∧ w.cell? ⟨H, 7, none⟩ = some h ∧ w.cell? ⟨H, 8, none⟩ = some i) ∧ w.cell? ⟨H, 9, none⟩ = some j := by
  simp [World.cell?, k]
theorem froz {w : World} {H : Nat} {cs : Array Value} {t : TypeId} (k : w.heap[H]? = some (.cells cs t (0, 0))) (o : Nat) : w.frozen? ⟨H, o, none⟩ = false := by simp [World.frozen?, k]
/-- A kernel at work (the model's): its box, its lists, its records. -/
structure Wb (X : World) (B H : Nat) (sv ov tv : Value) (L V Q D E F R : Value) (k : KerD) (vs vq vd : List Value) (rs : List (Int × Int × Int)) : Prop where
  o : X.heap[H]? = some (.cells #[sv, ov, tv, L, V, Q, D, E, F, R] 65 (0, 0))
  hH : B ≤ H
  wk : Wk X B L V Q D E F k vs vq vd
  r : RcRow X B R rs
section
variable {X Y : World} {B H : Nat} {sv ov tv L V Q D E F R : Value} {k : KerD} {vs vq vd : List Value} {rs : List (Int × Int × Int)}
theorem Wb.below (h : Wb X B H sv ov tv L V Q D E F R k vs vq vd rs) (hb : Below X.heap.size X Y) : Wb Y B H sv ov tv L V Q D E F R k vs vq vd rs :=
  ⟨block_below h.o hb, h.hH, h.wk.below hb, ownsRow_below h.r hb⟩
/-- One record more. -/
theorem Wb.note1 {Z : World} (h : Wb X B H sv ov tv L V Q D E F R k vs vq vd rs) (hb : Below X.heap.size X Y) {R' : Value} {x : Int × Int × Int} (hg : Y.grownBy Z R.ownBlock) (hR : Z.ownsRow B 106 3 R' (rs.length + 1) (rcC rs ++ [.int .i64 x.1, .int .i64 x.2.1, .int .i64 x.2.2])) :
    Z.heap[H]? = some (.cells #[sv, ov, tv, L, V, Q, D, E, F, R] 65 (0, 0)) ∧ Wb (Z.setCell ⟨H, 9, none⟩ R') B H sv ov tv L V Q D E F R' k vs vq vd (rs ++ [x]) := by
  have g := h.below hb
  have kp : Kp [3, 26, 138, 70, 65] Y Z := Kp.grown g.r hg (by decide)
  have oZ := kp _ _ _ _ g.o (by simp)
  have wZ : Wk Z B L V Q D E F k vs vq vd := g.wk.kp kp (by decide)
  have k2 : Kp (tagsK ++ [106]) Z (Z.setCell ⟨H, 9, none⟩ R') := Kp.set oZ (by decide) R'
  refine ⟨oZ, by rw [heap_setCell_same Z H 9 _ _ R' oZ]; rfl, h.hH, wZ.kp k2 (by decide), k2.own ?_ (by simp)⟩
  have : rcC (rs ++ [x]) = rcC rs ++ [.int .i64 x.1, .int .i64 x.2.1, .int .i64 x.2.2] := by rw [rcC_append]; rfl
  rw [this]
  simpa using hR
end
theorem Tryz.infoRc : (Tryz.prog.info? 106).map (fun i => (i.zero, i.size, i.bytes)) = some (some (.agg #[.int .i64 0, .int .i64 0, .int .i64 0]), 3, 24) := by kernel_rfl
set_option maxRecDepth 100000 in
set_option maxHeartbeats 1600000 in
theorem note_any (B H : Nat) (sv ov tv L V Q D E F R : Value) (k : KerD) (vs vq vd : List Value) (rs : List (Int × Int × Int)) (a b c : Int) (w : World) (hB : B ≤ w.heap.size) (hl : rs.length ≤ 1048576) (h : Wb w B H sv ov tv L V Q D E F R k vs vq vd rs) :
    Calls Tryz.prog 32 #[.pointer (some ⟨H, 0, none⟩), .int .i64 a, .int .i64 b, .int .i64 c] w fun e w' => e = .returned (.tuple #[]) ∧ ∃ ra rn rc, Wb w' B H sv ov tv L V Q D E F (.slice ra rn rc) k vs vq vd (rs ++ [(a, b, c)]) ∧ Below B w w' := by
  obtain ⟨i0, hi, hz0, hz1, hz2⟩ := info_parts Tryz.infoRc
  obtain ⟨ra, rm, rp, rfl⟩ := row_form h.r
  obtain ⟨⟨y0, y1, y2⟩, ⟨y3, y4, y5, y6, y7, y8⟩, y9⟩ := ten_cells h.o
  have f9 := froz h.o 9
  have hHl := lt_of_block h.o
  have HH := hid h
  clear h
  go_enter Tryz.func32, Tryz.ntmps32
  go_wp2_with (at_builtin; refine wpList_append_own _ rfl (.tmp 12) (.tmp 17) 36 rfl B 106 i0 (.agg #[.int .i64 0, .int .i64 0, .int .i64 0]) 3 24 Tryz.underlying36 hi hz0 hz1 hz2 rfl (by decide) (.slice ra rm rp) rs.length (rcC rs) rfl (ownsRow_below HH.out.r (below1 _ _)) ⟨w.heap.size, 0, none⟩ 1 1 [.int .i64 a, .int .i64 b, .int .i64 c] rfl rfl (World.news_of_block (heap_alloc_new w _)) (one3 _ _ _) (by unfold maxLen; omega) (by omega) (by simp; omega) ?_; intro v1 w1 hown hgrow _; obtain ⟨za, zm, zc, rfl⟩ := row_form hown; have N := HH.out.note1 (x := (a, b, c)) (below1 _ _) hgrow hown; have NW := hid N.2; obtain ⟨⟨z0, z1, z2⟩, ⟨z3, z4, z5, z6, z7, z8⟩, z9⟩ := ten_cells N.1; have g9 := froz N.1 9; have zl := lt_of_block N.1; have BB := hid (below_grown (Below.refl B w) hB HH.out.r hgrow); clear hown hgrow N)
  go_end0
  exact ⟨rfl, _, _, _, NW.out, BB.out.setCell HH.out.hH _⟩
end Go.Proofs.YthaklmdhkkfigaaGreat
namespace Go.Proofs.YthaklmdhkkfigaaGreat
open Go.RowKit Go.Sort
set_option linter.unusedVariables false
attribute [local go_sem ↓] Go.wp_at_zero Go.wp_at_succ

theorem getD_set_eq {α : Type} {l : List α} {i : Nat} {x d : α} (h : i < l.length) : (l.set i x).getD i d = x := by simp [List.getD_eq_getElem?_getD, h]
theorem getD_set_ne {α : Type} {l : List α} {i j : Nat} {x d : α} (h : i ≠ j) : (l.set i x).getD j d = l.getD j d := by simp [List.getD_eq_getElem?_getD, h]
/-- A list of events is put in the place of another. -/
theorem NestQ.put {X Y : World} {B g n c i : Nat} {x : Value} {vs : List Value} {qs : List (List (Int × Int))} {q : List (Int × Int)} (h : NestQ X B (.slice (some ⟨g, 0, none⟩) n c) vs qs) (kp : Kp [138, 70] X Y) (hx : EvRow Y B x q) (hi : i < vs.length) :
    NestQ (Y.setCell ⟨g, i, none⟩ x) B (.slice (some ⟨g, 0, none⟩) n c) (vs.set i x) (qs.set i q) := by
  have hY := h.kp kp (by simp) (by simp)
  obtain rfl := row_len h.row
  have st := World.ownsRow.stored hY.row i x
  have hb : ∃ cs, Y.heap[g]? = some (.cells cs 138 (0, 0)) := by
    rcases hY.row.2 with ⟨h0, _⟩ | ⟨g', cap, cur, h1, h2, h3, h4⟩
    · cases h0
    · simp only [Value.slice.injEq, Option.some.injEq, Addr.mk.injEq] at h1
      obtain ⟨⟨rfl, _⟩, _⟩ := h1
      exact ⟨_, h3⟩
  obtain ⟨cs, hcs⟩ := hb
  have k2 : Kp [70] Y (Y.setCell ⟨g, i, none⟩ x) := Kp.set hcs (by decide) x
  refine ⟨by simpa using st.1, by simp [h.len], fun j hj => ?_⟩
  have hj' : j < vs.length := by simpa using hj
  by_cases e : i = j
  · subst e
    rw [getD_set_eq hi, getD_set_eq (by rw [← h.len]; exact hi)]
    exact k2.own hx (by simp)
  · rw [getD_set_ne e, getD_set_ne e]
    exact k2.own (hY.inn j hj') (by simp)
end Go.Proofs.YthaklmdhkkfigaaGreat
namespace Go.Proofs.YthaklmdhkkfigaaGreat
open Go.RowKit Go.Sort
set_option linter.unusedVariables false
attribute [local go_sem ↓] Go.wp_at_zero Go.wp_at_succ

theorem ev_cell {w : World} {B g n c i : Nat} {vs : List Value} {qs : List (List (Int × Int))} (h : NestQ w B (.slice (some ⟨g, 0, none⟩) n c) vs qs) (hi : i < qs.length) : ∃ xa xc, w.cell? ⟨g, i, none⟩ = some (.slice xa (qs.getD i []).length xc) ∧ EvRow w B (.slice xa (qs.getD i []).length xc) (qs.getD i []) ∧ n = qs.length := by
  obtain rfl := row_len h.row
  have hi' : i < vs.length := by rw [h.len]; exact hi
  have c1 := World.ownsRow.cellAt h.row i (by omega)
  rw [List.getElem?_eq_getElem hi'] at c1
  have : vs[i] = vs.getD i undef := by simp [List.getD_eq_getElem?_getD, hi']
  have h1 := h.inn i hi'
  obtain ⟨xa, xm, xc, h2⟩ := row_form h1
  rw [h2] at h1
  obtain rfl := row_len h1
  exact ⟨xa, xc, by rw [c1, this, h2], h1, h.len⟩

set_option maxRecDepth 100000 in
set_option maxHeartbeats 1600000 in
theorem put_full (B H g n c ob off en ec : Nat) (sv tv L V D E F R : Value) (k : KerD) (vs vq vd : List Value) (rs : List (Int × Int × Int)) (i : Nat) (x1 x2 cap : Int) (w : World) (hB : B ≤ w.heap.size) (hl : rs.length ≤ 1048576) (hi : i < k.qs.length) (hq : k.qs.length ≤ 1048576) (hin : i < en) (hqi : (k.qs.getD i []).length ≤ 1048576) (hen : en ≤ 1048576) (hc : w.cell? ⟨ob, off + i * 8 + 1, none⟩ = some (.int .i64 cap)) (hfull : cap ≤ (k.qs.getD i []).length)
    (h : Wb w B H sv (.slice (some ⟨ob, off, none⟩) en ec) tv L V (.slice (some ⟨g, 0, none⟩) n c) D E F R k vs vq vd rs) :
    Calls Tryz.prog 33 #[.pointer (some ⟨H, 0, none⟩), .int .i64 i, .agg #[.int .i64 x1, .int .i64 x2], .bool false] w fun e w' => e = .returned (.bool false) ∧ ∃ ra rn rc, Wb w' B H sv (.slice (some ⟨ob, off, none⟩) en ec) tv L V (.slice (some ⟨g, 0, none⟩) n c) D E F (.slice ra rn rc) k vs vq vd (rs ++ [(2, (i : Int), x1)]) ∧ Below B w w' := by
  obtain ⟨xa, xc, hci, hcr, hn⟩ := ev_cell h.wk.q hi
  have B1 := below1 w (.cells #[.int .i64 x1, .int .i64 x2] 70)
  have h1 := h.below B1
  obtain ⟨⟨y0, y1, y2⟩, ⟨y3, y4, y5, y6, y7, y8⟩, y9⟩ := ten_cells h1.o
  have HN := hid (fun W hw => note_any B H sv (.slice (some ⟨ob, off, none⟩) en ec) tv L V (.slice (some ⟨g, 0, none⟩) n c) D E F R k vs vq vd rs 2 i x1 W (Nat.le_trans hB (Below.size (w' := W) hw)) hl (h.below hw))
  have hgl := World.block_lt_of_cell? w _ hci
  have hol := World.block_lt_of_cell? w _ hc
  have hin' : (i : Int) < (n : Int) := by omega
  have hie' : (i : Int) < (en : Int) := by omega
  have i0 : ¬ (i : Int) < 0 := by omega
  obtain ⟨m, hm⟩ : ∃ m, m = (k.qs.getD i []).length := ⟨_, rfl⟩
  rw [← hm] at hfull hci hcr hqi
  have hHl := lt_of_block h1.o
  have BB1 := hid B1
  have nb : B ≤ w.heap.size := hB
  clear h h1 hcr hm B1
  go_enter Tryz.func33, Tryz.ntmps33
  go_wp2_with (go_at_call 32; with_reducible refine (HN.out _ BB1.out).mono ?_; rintro e w1 ⟨rfl, ra, rn, rc, hw, hb⟩; have W1 := hid hw; have WB := hid hb; clear hw hb)
  go_ret
  exact ⟨rfl, ra, rn, rc, W1.out, (BB1.out.mono nb).trans WB.out⟩
end Go.Proofs.YthaklmdhkkfigaaGreat
namespace Go.Proofs.YthaklmdhkkfigaaGreat
open Go.RowKit Go.Sort
set_option linter.unusedVariables false
attribute [local go_sem ↓] Go.wp_at_zero Go.wp_at_succ

theorem own_cells {w : World} {B : Nat} {e : TypeId} {size n m c g : Nat} {xs : List Value} (h : w.ownsRow B e size (.slice (some ⟨g, 0, none⟩) m c) n xs) : ∃ cs, w.heap[g]? = some (.cells cs e (0, 0)) := by
  rcases h.2 with ⟨h0, _⟩ | ⟨g', cap, cur, h1, h2, h3, h4⟩
  · cases h0
  · simp only [Value.slice.injEq, Option.some.injEq, Addr.mk.injEq] at h1
    obtain ⟨⟨rfl, _⟩, _⟩ := h1
    exact ⟨_, h3⟩
theorem Wb.put {X Y : World} {B H g n c i : Nat} {sv ov tv L V D E F R x : Value} {k : KerD} {vs vq vd : List Value} {rs : List (Int × Int × Int)} {q : List (Int × Int)} (h : Wb X B H sv ov tv L V (.slice (some ⟨g, 0, none⟩) n c) D E F R k vs vq vd rs) (hb : Below X.heap.size X Y) (hx : EvRow Y B x q) (hi : i < k.qs.length) :
    Wb (Y.setCell ⟨g, i, none⟩ x) B H sv ov tv L V (.slice (some ⟨g, 0, none⟩) n c) D E F R { k with qs := k.qs.set i q } vs (vq.set i x) vd rs := by
  have G := h.below hb
  obtain ⟨cs, hcs⟩ := own_cells G.wk.q.row
  have kp : Kp [3, 26, 70, 106, 65] Y (Y.setCell ⟨g, i, none⟩ x) := Kp.set hcs (by decide) x
  have hD : (Y.setCell ⟨g, i, none⟩ x).ownsRow B 138 1 D vd.length vd := row_same G.wk.d.row (fun b _ e => Below.heap_setCell _ _ _ _ (fun (e2 : b = g) => G.wk.qd g rfl (by rw [e, e2])))
  exact ⟨kp _ _ _ _ G.o (by simp), G.hH, ⟨kp.own G.wk.l (by simp), G.wk.v.kp kp (by simp) (by simp), NestQ.put h.wk.q (Kp.below hb) hx (by rw [h.wk.q.len]; exact hi), ⟨hD, G.wk.d.len, fun j hj => kp.own (G.wk.d.inn j hj) (by simp)⟩, kp.own G.wk.e (by simp), kp.own G.wk.f (by simp), G.wk.qd, G.wk.el, G.wk.ef, G.wk.ev⟩, kp.own G.r (by simp)⟩
theorem one2 (a b : Int) : ∀ u ∈ [Value.int .i64 a, .int .i64 b], u.oneCell' = true := by intro u hu; simp at hu; rcases hu with rfl | rfl <;> rfl
abbrev O0 : Obj := .cells #[] 70
abbrev OEv (a b : Int) : Obj := .cells #[.int .i64 a, .int .i64 b] 70
theorem own_e0 {w : World} {B : Nat} (hB : B ≤ w.heap.size) : (w.alloc O0).ownsRow B 70 2 (.slice (some ⟨w.heap.size, 0, none⟩) 0 0) 0 [] := World.ownsRow_lit w #[] 0 hB (by decide) rfl
/-- What stands behind the first append. -/
theorem ev_first {U X w5 : World} {b : Nat} (hb : Below U.heap.size U X) (hz : U.heap.size ≤ b) (hg : X.grownBy w5 (Value.slice (some ⟨b, 0, none⟩) 0 0).ownBlock) : Below U.heap.size U w5 :=
  hb.grown hg hb.size (fun j hj => by have e : b = j := by simpa [Value.ownBlock] using hj
                                      omega)
theorem ev_second {U w5 X w6 : World} {n : Nat} {v5 : Value} {xs : List Value} (hb : Below U.heap.size U w5) (hx : Below w5.heap.size w5 X) (h : w5.ownsRow U.heap.size 70 2 v5 n xs) (hg : X.grownBy w6 v5.ownBlock) : Below U.heap.size U w6 :=
  (hb.trans (hx.mono hb.size)).grown hg (Nat.le_trans hb.size hx.size) (fun j hj => (h.lt j hj).1)
theorem news_two {W : World} {b : Nat} {x y : Value} {t : TypeId} {fr : Nat × Nat} (h : W.heap[b]? = some (.cells #[x, y] t fr)) : NewsAt W (some ⟨b, 0, none⟩) 1 [x, y] := by
  refine ⟨fun e => (by cases e), fun ad e j u hj => ?_⟩
  obtain rfl : ad = ⟨b, 0, none⟩ := by simpa using e.symm
  rw [addr_plus]
  match j, hj with
  | 0, hj => simp at hj; subst hj; unfold World.cell?; simp only []; rw [h]; rfl
  | 1, hj => simp at hj; subst hj; unfold World.cell?; simp only []; rw [h]; rfl
theorem kept_e {X w5 : World} {b d : Nat} {o : Obj} (h : X.heap[b]? = some o) (hne : (Value.slice (some ⟨d, 0, none⟩) 0 0).ownBlock ≠ some b) (hg : X.grownBy w5 (Value.slice (some ⟨d, 0, none⟩) 0 0).ownBlock) : w5.heap[b]? = some o := (hg.block b (lt_of_block h) (fun e => hne e.symm)).trans h
set_option maxRecDepth 100000 in
set_option maxHeartbeats 1600000 in
theorem put_room (B H g n c ob off en ec : Nat) (sv tv L V D E F R : Value) (k : KerD) (vs vq vd : List Value) (rs : List (Int × Int × Int)) (i : Nat) (x1 x2 cap : Int) (w : World) (hB : B ≤ w.heap.size) (hi : i < k.qs.length) (hq : k.qs.length ≤ 1048576) (hin : i < en) (hqi : (k.qs.getD i []).length ≤ 1048576) (hen : en ≤ 1048576) (hc : w.cell? ⟨ob, off + i * 8 + 1, none⟩ = some (.int .i64 cap)) (hroom : ¬ cap ≤ (k.qs.getD i []).length)
    (h : Wb w B H sv (.slice (some ⟨ob, off, none⟩) en ec) tv L V (.slice (some ⟨g, 0, none⟩) n c) D E F R k vs vq vd rs) :
    Calls Tryz.prog 33 #[.pointer (some ⟨H, 0, none⟩), .int .i64 i, .agg #[.int .i64 x1, .int .i64 x2], .bool false] w fun e w' => e = .returned (.bool true) ∧ (∃ x, Wb w' B H sv (.slice (some ⟨ob, off, none⟩) en ec) tv L V (.slice (some ⟨g, 0, none⟩) n c) D E F R { k with qs := k.qs.set i (k.qs.getD i [] ++ [(x1, x2)]) } vs (vq.set i x) vd rs) ∧ Below B w w' := by
  obtain ⟨i0, hi0, hz0, hz1, hz2⟩ := info_parts Tryz.infoEv
  obtain ⟨xa, xc, hci, hcr, hn⟩ := ev_cell h.wk.q hi
  obtain ⟨U, hU⟩ : ∃ U, U = w.alloc (OEv x1 x2) := ⟨_, rfl⟩
  have B1 : Below w.heap.size w U := by rw [hU]; exact below1 _ _
  have uE : U.heap[w.heap.size]? = some (.cells #[.int .i64 x1, .int .i64 x2] 70 (0, 0)) := by rw [hU]; exact heap_alloc_new _ _
  have h1 := h.below B1
  obtain ⟨⟨y0, y1, y2⟩, ⟨y3, y4, y5, y6, y7, y8⟩, y9⟩ := ten_cells h1.o
  obtain ⟨e0, e1⟩ := two_cells uE
  have hgl : g < w.heap.size := World.block_lt_of_cell? w _ hci
  have hol : ob < w.heap.size := World.block_lt_of_cell? w _ hc
  have hci2 := (B1.cell (p := ⟨g, i, none⟩) hgl).trans hci
  have hc2 := (B1.cell (p := ⟨ob, off + i * 8 + 1, none⟩) hol).trans hc
  have hin' : (i : Int) < (n : Int) := by omega
  have hie' : (i : Int) < (en : Int) := by omega
  have i0' : ¬ (i : Int) < 0 := by omega
  obtain ⟨q, hqe⟩ : ∃ q, q = k.qs.getD i [] := ⟨_, rfl⟩
  rw [← hqe] at hroom hci hci2 hcr hqi ⊢
  obtain ⟨m, hm⟩ : ∃ m, m = q.length := ⟨_, rfl⟩
  have HM := hid hm
  rw [← hm] at hroom hci hci2 hcr hqi
  have hHl := lt_of_block h1.o
  have HE := hid h1
  have HR : Hid (ItemsOf U xa m q) := hid (EvRow.items (by have := ownsRow_below hcr B1; rw [hm] at this ⊢; exact this))
  have BU := hid B1
  have UE := hid uE
  have sB : Hid (B ≤ U.heap.size) := hid (Nat.le_trans hB B1.size)
  have LQ : Hid ((evC q).length = m * 2) := hid (by rw [evC_len, hm])
  have HU := hid hU
  have hwl := lt_of_block uE
  have nHg : ¬ H = g := by
    intro e
    obtain ⟨cs, hcs⟩ := own_cells h.wk.q.row
    have := h.o
    rw [e, hcs] at this
    simp at this
  have nHg' : ¬ g = H := fun e => nHg e.symm
  have nwg : ¬ w.heap.size = g := by omega
  have nwg' : ¬ g = w.heap.size := by omega
  have hgU : g < U.heap.size := Nat.lt_of_lt_of_le hgl B1.size
  have fg : Hid (∀ X, Below U.heap.size U X → X.cell? ⟨g, i, none⟩ = some (.slice xa m xc) ∧ X.frozen? ⟨g, i, none⟩ = false) := hid (fun X hX => ⟨(hX.cell (p := ⟨g, i, none⟩) hgU).trans hci2, by obtain ⟨cs, hcs⟩ := own_cells (h1.below hX).wk.q.row; exact froz hcs i⟩)
  have fS : Hid (∀ X, Below U.heap.size U X → (X.cell? ⟨H, 5, none⟩ = some (.slice (some ⟨g, 0, none⟩) n c) ∧ X.cell? ⟨w.heap.size, 0, none⟩ = some (.int .i64 x1) ∧ X.cell? ⟨w.heap.size, 1, none⟩ = some (.int .i64 x2))) := hid (fun X hX => ⟨(hX.cell (p := ⟨H, 5, none⟩) hHl).trans y5, (hX.cell (p := ⟨w.heap.size, 0, none⟩) hwl).trans e0, (hX.cell (p := ⟨w.heap.size, 1, none⟩) hwl).trans e1⟩)
  have z1 := y1
  have z5 := y5
  have z6 := hci2
  have z7 := hc2
  have z8 := e0
  have z9 := e1
  rw [hU] at z1 z5 z6 z7 z8 z9
  clear h h1 hcr hm B1 uE hci hc hqe hU hn
  go_enter Tryz.func33, Tryz.ntmps33
  go_upto_region 7 with (fail)
  rw [← HU.out]
  clear z1 z5 z6 z7 z8 z9 y0 y1 y2 y3 y4 y6 y7 y8 y9 hc2 hci2
  have bA := hid (show Below U.heap.size U (U.alloc O0).drew from (below1 _ _).drew)
  have bB := hid (show Below U.heap.size U ((U.alloc O0).alloc (OEv x1 x2)).drew from (below2 _ _ _).drew)
  have bC := hid (show Below U.heap.size U ((U.alloc (OEv x1 x2)).alloc O0).drew from (below2 _ _ _).drew)
  have oA := hid (show (U.alloc O0).drew.ownsRow U.heap.size 70 2 (.slice (some ⟨U.heap.size, 0, none⟩) 0 0) 0 [] from ownsRow_below (own_e0 (Nat.le_refl _)) (Below.refl _ _).drew)
  have oB := hid (show ((U.alloc O0).alloc (OEv x1 x2)).drew.ownsRow U.heap.size 70 2 (.slice (some ⟨U.heap.size, 0, none⟩) 0 0) 0 [] from ownsRow_below (own_e0 (Nat.le_refl _)) (below1 _ _).drew)
  have oC := hid (show ((U.alloc (OEv x1 x2)).alloc O0).drew.ownsRow U.heap.size 70 2 (.slice (some ⟨U.heap.size + 1, 0, none⟩) 0 0) 0 [] from by have := ownsRow_below (own_e0 (w := U.alloc (OEv x1 x2)) (B := U.heap.size) (by simp)) (Below.refl _ _).drew; simpa using this)
  have eB := hid (show ((U.alloc O0).alloc (OEv x1 x2)).drew.heap[U.heap.size + 1]? = some (.cells #[.int .i64 x1, .int .i64 x2] 70 (0, 0)) from by have := heap_alloc_new (U.alloc O0) (OEv x1 x2); rw [World.size_alloc] at this; exact this)
  have eC := hid (show ((U.alloc (OEv x1 x2)).alloc O0).drew.heap[U.heap.size]? = some (.cells #[.int .i64 x1, .int .i64 x2] 70 (0, 0)) from block_below (heap_alloc_new U (OEv x1 x2)) (below1 _ _).drew)
  go_region_held3 (fun X => X.cell? ⟨H, 5, none⟩ = some (.slice (some ⟨g, 0, none⟩) n c) ∧ X.cell? ⟨w.heap.size, 0, none⟩ = some (.int .i64 x1) ∧ X.cell? ⟨w.heap.size, 1, none⟩ = some (.int .i64 x2)) (first | (with_reducible exact SY.out) | (with_reducible exact SX.out) | go_keep)
    (first
      | (refine step_append_opt _ (by rfl) _ _ _ (by rfl) U.heap.size 70 i0 _ 2 16 Tryz.underlying138 hi0 hz0 hz1 hz2 rfl (by omega) (.slice (some ⟨U.heap.size, 0, none⟩) 0 0) 0 [] (by simp [Act.eval]) oA.out xa m xc (evC q) (by simp [Act.eval]) LQ.out (news_ev HR.out bA.out) (evC_one q) (by unfold maxLen; omega) (by omega) bA.out.size ?_; intro v5 w5 hown hgrow _; obtain ⟨ya, ym, yc, rfl⟩ := row_form hown; have O5 := hid hown; have B5 := hid (ev_first bA.out (by omega) hgrow); have SX := hid (fS.out w5 B5.out); have E5 := hid (True.intro); clear hown hgrow)
      | (refine step_append_opt _ (by rfl) _ _ _ (by rfl) U.heap.size 70 i0 _ 2 16 Tryz.underlying138 hi0 hz0 hz1 hz2 rfl (by omega) (.slice (some ⟨U.heap.size, 0, none⟩) 0 0) 0 [] (by simp [Act.eval]) oB.out xa m xc (evC q) (by simp [Act.eval]) LQ.out (news_ev HR.out bB.out) (evC_one q) (by unfold maxLen; omega) (by omega) bB.out.size ?_; intro v5 w5 hown hgrow _; obtain ⟨ya, ym, yc, rfl⟩ := row_form hown; have O5 := hid hown; have B5 := hid (ev_first bB.out (by omega) hgrow); have SX := hid (fS.out w5 B5.out); have E5 := hid (kept_e (show ((U.alloc O0).alloc (OEv x1 x2)).drew.heap[U.heap.size + 1]? = some (.cells #[.int .i64 x1, .int .i64 x2] 70 (0, 0)) from eB.out) (by simp [Value.ownBlock]) hgrow); clear hown hgrow)
      | (refine step_append_opt _ (by rfl) _ _ _ (by rfl) U.heap.size 70 i0 _ 2 16 Tryz.underlying138 hi0 hz0 hz1 hz2 rfl (by omega) (.slice (some ⟨U.heap.size + 1, 0, none⟩) 0 0) 0 [] (by simp [Act.eval]) oC.out xa m xc (evC q) (by simp [Act.eval]) LQ.out (news_ev HR.out bC.out) (evC_one q) (by unfold maxLen; omega) (by omega) bC.out.size ?_; intro v5 w5 hown hgrow _; obtain ⟨ya, ym, yc, rfl⟩ := row_form hown; have O5 := hid hown; have B5 := hid (ev_first bC.out (by omega) hgrow); have SX := hid (fS.out w5 B5.out); have E5 := hid (kept_e (show ((U.alloc (OEv x1 x2)).alloc O0).drew.heap[U.heap.size]? = some (.cells #[.int .i64 x1, .int .i64 x2] 70 (0, 0)) from eC.out) (by simp [Value.ownBlock]) hgrow); clear hown hgrow)
      | (have q1 := hid (ownsRow_below O5.out (below1 w5 (OEv x1 x2))); have q2 := hid (news_two (heap_alloc_new w5 (OEv x1 x2))); have q3 := hid (Nat.le_trans B5.out.size (below1 w5 (OEv x1 x2)).size); refine step_append_opt (w5.alloc (OEv x1 x2)) (by rfl) _ _ _ (by rfl) U.heap.size 70 i0 _ 2 16 Tryz.underlying138 hi0 hz0 hz1 hz2 rfl (by omega) (.slice ya ym yc) (0 + m) ([] ++ evC q) (by simp [Act.eval]) q1.out (some ⟨w5.heap.size, 0, none⟩) 1 1 [.int .i64 x1, .int .i64 x2] (by simp [Act.eval]) rfl q2.out (one2 _ _) (by unfold maxLen; omega) (by omega) q3.out ?_; intro v6 w6 hown hgrow _; obtain ⟨za, zm, zc, rfl⟩ := row_form hown; have B6 := hid (ev_second B5.out (below1 w5 _) O5.out hgrow); have O6 := hid hown; have SY := hid (fS.out w6 B6.out); obtain ⟨s6, t6⟩ := fg.out w6 B6.out; clear hown hgrow)
      | (refine step_append_opt _ (by rfl) _ _ _ (by rfl) U.heap.size 70 i0 _ 2 16 Tryz.underlying138 hi0 hz0 hz1 hz2 rfl (by omega) (.slice ya ym yc) (0 + m) ([] ++ evC q) (by simp [Act.eval]) O5.out (some ⟨U.heap.size + 1, 0, none⟩) 1 1 [.int .i64 x1, .int .i64 x2] (by simp [Act.eval]) rfl (news_two E5.out) (one2 _ _) (by unfold maxLen; omega) (by omega) (Nat.le_trans B5.out.size (Below.refl w5.heap.size w5).size) ?_; intro v6 w6 hown hgrow _; obtain ⟨za, zm, zc, rfl⟩ := row_form hown; have B6 := hid (ev_second B5.out (Below.refl w5.heap.size w5) O5.out hgrow); have O6 := hid hown; have SY := hid (fS.out w6 B6.out); obtain ⟨s6, t6⟩ := fg.out w6 B6.out; clear hown hgrow)
      | (refine step_append_opt _ (by rfl) _ _ _ (by rfl) U.heap.size 70 i0 _ 2 16 Tryz.underlying138 hi0 hz0 hz1 hz2 rfl (by omega) (.slice ya ym yc) (0 + m) ([] ++ evC q) (by simp [Act.eval]) O5.out (some ⟨U.heap.size, 0, none⟩) 1 1 [.int .i64 x1, .int .i64 x2] (by simp [Act.eval]) rfl (news_two E5.out) (one2 _ _) (by unfold maxLen; omega) (by omega) (Nat.le_trans B5.out.size (Below.refl w5.heap.size w5).size) ?_; intro v6 w6 hown hgrow _; obtain ⟨za, zm, zc, rfl⟩ := row_form hown; have B6 := hid (ev_second B5.out (Below.refl w5.heap.size w5) O5.out hgrow); have O6 := hid hown; have SY := hid (fS.out w6 B6.out); obtain ⟨s6, t6⟩ := fg.out w6 B6.out; clear hown hgrow))
  all_goals
    go_wp2
    go_ret
    have X6 : EvRow w6 B (.slice za zm zc) (q ++ [(x1, x2)]) := row_base (by rw [evC_append, List.length_append, ← HM.out]; simpa [evC] using O6.out) sB.out
    exact ⟨rfl, ⟨_, HE.out.put B6.out X6 hi⟩, ((BU.out.mono hB).trans (B6.out.mono sB.out)).setCell (HE.out.wk.q.row.lt g rfl).1 _⟩
end Go.Proofs.YthaklmdhkkfigaaGreat
namespace Go.Proofs.YthaklmdhkkfigaaGreat
open Go.RowKit Go.Sort
set_option linter.unusedVariables false

theorem bet_of {x lo hi : Int} (h : betB x lo hi = true) : lo ≤ x ∧ x ≤ hi := by
  unfold betB at h
  simpa using h
/-- What a checked system says of an object's numbers. -/
theorem ob_caps {sg : Int} {os : List ObD} {ts : List (Int × Int)} {k : KerD} (h : kerB sg os ts k = true) {i : Nat} (hi : i < os.length) : (1 ≤ (os.getD i ob0).qcap ∧ (os.getD i ob0).qcap ≤ 1000) ∧ (0 ≤ (os.getD i ob0).dcap ∧ (os.getD i ob0).dcap ≤ 1000) := by
  have h0 : (sysFault sg os ts).1 = 0 := by unfold kerB at h; exact (of_decide_eq_true h).1
  have h1 := sys_objs h0 hi
  unfold objFault at h1
  split at h1
  · rename_i h2
    have h3 := h2.1
    unfold objOK at h3
    simp only [Bool.and_eq_true] at h3
    exact ⟨bet_of h3.2.1, bet_of h3.2.2.1⟩
  · simp at h1
end Go.Proofs.YthaklmdhkkfigaaGreat
