import Derived.Test.YtiimkhepplkocaaGreatZ18
import Derived.Test.YtiimkhepplkocaaGreatZp
namespace Go.Proofs.YtiimkhepplkocaaGreat
open Go.RowKit Go.Sort
set_option linter.unusedVariables false
attribute [local go_sem ↓] Go.wp_at_zero Go.wp_at_succ

/-- A row of a table. -/
structure RwD where
  tr : Int
  ex : List Nat
  en : List Nat
  nx : Int
def rw0 : RwD := ⟨0, [], [], 0⟩
def RowIn (X : World) (B : Nat) (d : RwD) (c : List Value) : Prop := ∃ xv nv, c = [.int .i64 d.tr, xv, nv, .int .i64 d.nx] ∧ X.ownsRow B 3 1 xv d.ex.length (ints d.ex) ∧ X.ownsRow B 3 1 nv d.en.length (ints d.en)
def RowsIn (X : World) (B : Nat) (ds : List RwD) (R : List (List Value)) : Prop := R.length = ds.length ∧ ∀ i, i < ds.length → RowIn X B (ds.getD i rw0) (R.getD i [])
theorem own_sl {w : World} {B : Nat} {v : Value} {l : List Nat} (h : w.ownsRow B 3 1 v l.length (ints l)) : ∃ ao c, v = .slice ao l.length c ∧ SliceOf w ao l.length (l.map fun (x : Nat) => (x : Int)) := by
  obtain ⟨ao, c, hv⟩ := own_any h
  refine ⟨ao, c, hv, by simp, fun h0 => ?_⟩
  obtain ⟨g, cap, e, _, h3⟩ := World.ownsRow.form h h0
  rw [hv] at e
  simp at e
  refine ⟨g, 0, e.1, h3, fun i hi => ?_⟩
  rw [hv, e.1, e.2] at h
  rw [Nat.zero_add, World.ownsRow.cellAt h i (by omega)]
  simp [ints, List.getD_eq_getElem?_getD, hi]
theorem eqInt_own (v1 v2 : Value) (B1 B2 : Nat) (l : List Nat) (w : World) (hn : l.length ≤ 1048576) (h1 : w.ownsRow B1 3 1 v1 l.length (ints l)) (h2 : w.ownsRow B2 3 1 v2 l.length (ints l)) :
    Calls Tryz.prog 78 #[v1, v2] w fun e w' => e = .returned (.bool true) ∧ Below w.heap.size w w' := by
  obtain ⟨ao, c, rfl, s1⟩ := own_sl h1
  obtain ⟨bo, d, rfl, s2⟩ := own_sl h2
  exact (eqIntS_any ao bo l.length l.length c d _ _ w hn (by omega) s1 s2).mono (by
    rintro e w' ⟨rfl, q, rfl⟩
    exact ⟨by simp, belowDraws (Below.refl _ _) q⟩)
set_option maxHeartbeats 1600000 in
theorem eqRow_same (d : RwD) (B1 B2 : Nat) (c1 c2 : List Value) (w : World) (hx : d.ex.length ≤ 1048576) (hn : d.en.length ≤ 1048576) (h1 : RowIn w B1 d c1) (h2 : RowIn w B2 d c2) :
    Calls Tryz.prog 80 #[.agg c1.toArray, .agg c2.toArray] w fun e w' => e = .returned (.bool true) ∧ Below w.heap.size w w' := by
  obtain ⟨x1, n1, rfl, ox1, on1⟩ := h1
  obtain ⟨x2, n2, rfl, ox2, on2⟩ := h2
  obtain ⟨xa, xc, rfl⟩ := own_any ox1
  obtain ⟨na, nc, rfl⟩ := own_any on1
  obtain ⟨xb, xd, rfl⟩ := own_any ox2
  obtain ⟨nb, nd, rfl⟩ := own_any on2
  obtain ⟨W, hW⟩ : ∃ W, W = (w.alloc (.cells #[.int .i64 d.tr, .slice xa d.ex.length xc, .slice na d.en.length nc, .int .i64 d.nx] 44)).alloc (.cells #[.int .i64 d.tr, .slice xb d.ex.length xd, .slice nb d.en.length nd, .int .i64 d.nx] 44) := ⟨_, rfl⟩
  have bW : Below w.heap.size w W := by rw [hW]; exact below2 _ _ _
  have q1 : W.heap[w.heap.size]? = some (.cells #[.int .i64 d.tr, .slice xa d.ex.length xc, .slice na d.en.length nc, .int .i64 d.nx] 44 (0, 0)) := by rw [hW]; exact block_below (heap_alloc_new w _) (below1 _ _)
  have q2 : W.heap[w.heap.size + 1]? = some (.cells #[.int .i64 d.tr, .slice xb d.ex.length xd, .slice nb d.en.length nd, .int .i64 d.nx] 44 (0, 0)) := by
    rw [hW]; simpa using heap_alloc_new (w.alloc (.cells #[.int .i64 d.tr, .slice xa d.ex.length xc, .slice na d.en.length nc, .int .i64 d.nx] 44)) (.cells #[.int .i64 d.tr, .slice xb d.ex.length xd, .slice nb d.en.length nd, .int .i64 d.nx] 44)
  have C1 := hid (fun X (hb : Below w.heap.size w X) => eqInt_own _ _ B1 B2 d.ex X hx (ownsRow_below ox1 hb) (ownsRow_below ox2 hb))
  have C2 := hid (fun X (hb : Below w.heap.size w X) => eqInt_own _ _ B1 B2 d.en X hn (ownsRow_below on1 hb) (ownsRow_below on2 hb))
  obtain ⟨tr, htr⟩ : ∃ x, x = d.tr := ⟨_, rfl⟩
  obtain ⟨nx, hnx⟩ : ∃ x, x = d.nx := ⟨_, rfl⟩
  obtain ⟨nex, hex⟩ : ∃ x, x = d.ex.length := ⟨_, rfl⟩
  obtain ⟨nen, hen⟩ : ∃ x, x = d.en.length := ⟨_, rfl⟩
  rw [← htr, ← hnx, ← hex, ← hen] at q1 q2 hW ⊢
  rw [← hex] at C1
  rw [← hen] at C2
  have Q1 := hid q1
  have Q2 := hid q2
  have BW := hid bW
  clear ox1 ox2 on1 on2 htr hnx hex hen
  go_enter Tryz.func80, Tryz.ntmps80
  go_upto_region 1 with fail
  rw [← hW]
  obtain ⟨a0, a1, a2, a3⟩ := quad_cells q1
  obtain ⟨b0, b1, b2, b3⟩ := quad_cells q2
  clear hW q1 q2 bW
  go_wp2_with (first
    | (go_at_call_of 78 (Value.slice xa nex xc); refine (C1.out _ BW.out).mono ?_; rintro e w1 ⟨rfl, hb⟩; have B1' := hid (BW.out.trans (hb.mono BW.out.size)); have Q3 := hid (block_below Q1.out hb); have Q4 := hid (block_below Q2.out hb); obtain ⟨a0, a1, a2, a3⟩ := quad_cells Q3.out; obtain ⟨b0, b1, b2, b3⟩ := quad_cells Q4.out; clear hb)
    | (go_at_call_of 78 (Value.slice na nen nc); refine (C2.out _ B1'.out).mono ?_; rintro e w2 ⟨rfl, hb⟩; have B2' := hid (B1'.out.trans (hb.mono B1'.out.size)); obtain ⟨a0, a1, a2, a3⟩ := quad_cells (block_below Q3.out hb); obtain ⟨b0, b1, b2, b3⟩ := quad_cells (block_below Q4.out hb); clear hb))
  go_ret
  exact ⟨rfl, B2'.out⟩
end Go.Proofs.YtiimkhepplkocaaGreat
namespace Go.Proofs.YtiimkhepplkocaaGreat
open Go.RowKit Go.Sort
set_option linter.unusedVariables false
attribute [local go_sem ↓] Go.wp_at_zero Go.wp_at_succ

theorem flat4 {R : List (List Value)} (hl : ∀ i, i < R.length → (R.getD i []).length = 4) : ∀ {i j : Nat}, i < R.length → j < 4 → R.flatten[i * 4 + j]? = (R.getD i [])[j]? := by
  induction R with
  | nil => intro i j hi; simp at hi
  | cons x r ih =>
    intro i j hi hj
    have hx : x.length = 4 := by simpa using hl 0 (by simp)
    cases i with
    | zero => rw [List.flatten_cons]; simp only [Nat.zero_mul, Nat.zero_add, List.getD_cons_zero]; exact List.getElem?_append_left (by omega)
    | succ i =>
      rw [List.flatten_cons, show (i + 1) * 4 + j = 4 + (i * 4 + j) by omega, List.getElem?_append_right (by omega), hx, show 4 + (i * 4 + j) - 4 = i * 4 + j by omega]
      have := ih (fun q hq => by simpa using hl (q + 1) (by simpa using hq)) (i := i) (j := j) (by simpa using hi) hj
      simpa using this
theorem RowIn.below {X Y : World} {B : Nat} {d : RwD} {c : List Value} (h : RowIn X B d c) (hb : Below X.heap.size X Y) : RowIn Y B d c := by
  obtain ⟨xv, nv, h1, h2, h3⟩ := h
  exact ⟨xv, nv, h1, ownsRow_below h2 hb, ownsRow_below h3 hb⟩
theorem RowsIn.below {X Y : World} {B : Nat} {ds : List RwD} {R : List (List Value)} (h : RowsIn X B ds R) (hb : Below X.heap.size X Y) : RowsIn Y B ds R := ⟨h.1, fun i hi => (h.2 i hi).below hb⟩
/-- The four cells of a row. -/
theorem rows_cells {X : World} {B C : Nat} {ds : List RwD} {R : List (List Value)} {v : Value} (h : RowsIn X B ds R) (ho : X.ownsRow C 44 4 v ds.length R.flatten) {a : Nat} (ha : a < ds.length) :
    ∃ g cap xa xc na nc, v = .slice (some ⟨g, 0, none⟩) ds.length cap ∧ R.getD a [] = [.int .i64 (ds.getD a rw0).tr, .slice xa (ds.getD a rw0).ex.length xc, .slice na (ds.getD a rw0).en.length nc, .int .i64 (ds.getD a rw0).nx] ∧ X.cell? ⟨g, a * 4, none⟩ = some (.int .i64 (ds.getD a rw0).tr) ∧ X.cell? ⟨g, a * 4 + 1, none⟩ = some (.slice xa (ds.getD a rw0).ex.length xc) ∧ X.cell? ⟨g, a * 4 + 2, none⟩ = some (.slice na (ds.getD a rw0).en.length nc) ∧ X.cell? ⟨g, a * 4 + 3, none⟩ = some (.int .i64 (ds.getD a rw0).nx) ∧ g < X.heap.size := by
  obtain ⟨g, cap, hv, _, hl⟩ := World.ownsRow.form ho (by omega)
  obtain ⟨xv, nv, hc, ox, on⟩ := h.2 a ha
  obtain ⟨xa, xc, rfl⟩ := own_any ox
  obtain ⟨na, nc, rfl⟩ := own_any on
  have h4 : ∀ i, i < R.length → (R.getD i []).length = 4 := fun i hi => by
    obtain ⟨_, _, e, _⟩ := h.2 i (by rw [← h.1]; exact hi)
    rw [e]; rfl
  have cell : ∀ j, j < 4 → X.cell? ⟨g, a * 4 + j, none⟩ = (R.getD a [])[j]? := fun j hj => by
    rw [hv] at ho
    rw [World.ownsRow.cellAt ho (a * 4 + j) (by omega), flat4 h4 (by rw [h.1]; exact ha) hj]
  rw [hc] at cell
  exact ⟨g, cap, xa, xc, na, nc, hv, hc, cell 0 (by omega), cell 1 (by omega), cell 2 (by omega), cell 3 (by omega), hl⟩

set_option maxRecDepth 100000 in
set_option maxHeartbeats 4000000 in
theorem eqRowS_same (ds : List RwD) (B1 B2 C1 C2 : Nat) (R1 R2 : List (List Value)) (v1 v2 : Value) (w : World) (hn : ds.length ≤ 2000000000) (hd : ∀ i, i < ds.length → (ds.getD i rw0).ex.length ≤ 1048576 ∧ (ds.getD i rw0).en.length ≤ 1048576) (h1 : RowsIn w B1 ds R1) (h2 : RowsIn w B2 ds R2) (o1 : w.ownsRow C1 44 4 v1 ds.length R1.flatten) (o2 : w.ownsRow C2 44 4 v2 ds.length R2.flatten) :
    Calls Tryz.prog 79 #[v1, v2] w fun e w' => e = .returned (.bool true) ∧ Below w.heap.size w w' := by
  obtain ⟨a1, c1, hv1⟩ := own_any o1
  obtain ⟨a2, c2, hv2⟩ := own_any o2
  obtain ⟨n, hnn⟩ : ∃ n, n = ds.length := ⟨_, rfl⟩
  have EN := hid hnn
  have H1 := hid h1
  have H2 := hid h2
  have O1 := hid o1
  have O2 := hid o2
  have HD := hid hd
  subst hv1
  subst hv2
  rw [← hnn] at hn ⊢
  clear h1 h2 o1 o2 hd hnn
  go_enter Tryz.func79, Tryz.ntmps79
  go_wp2_with fail
  go_loopg [5] n (fun mm i X => ∃ a : Nat, a ≤ n ∧ mm = n - a ∧ i = .int .i64 a ∧ Below w.heap.size w X)
  case atStart => exact ⟨0, by omega, by omega, rfl, Below.refl _ _⟩
  case round =>
    obtain ⟨a, ha, rfl, rfl, hB⟩ := hrel
    by_cases hlt : a < n
    · have had : a < ds.length := by rw [← EN.out]; exact hlt
      obtain ⟨g, cap, xa, xc, na, nc, e1, r1, x0, x1, x2, x3, l1⟩ := rows_cells (H1.out.below hB) (ownsRow_below O1.out hB) had
      obtain ⟨g', cap', xb, xd, nb, nd, e2, r2, y0, y1, y2, y3, l2⟩ := rows_cells (H2.out.below hB) (ownsRow_below O2.out hB) had
      have E := hid (fun X (hX : Below w.heap.size w X) => eqRow_same (ds.getD a rw0) B1 B2 _ _ X (HD.out a had).1 (HD.out a had).2 ((H1.out.below hX).2 a had) ((H2.out.below hX).2 a had))
      rw [r1, r2] at E
      obtain ⟨d, hd⟩ : ∃ d, d = ds.getD a rw0 := ⟨_, rfl⟩
      rw [← hd] at E x0 x1 x2 x3 y0 y1 y2 y3
      have e1' : a1 = some ⟨g, 0, none⟩ := by simp at e1; exact e1.1
      have e2' : a2 = some ⟨g', 0, none⟩ := by simp at e2; exact e2.1
      subst e1'
      subst e2'
      have BB := hid hB
      have ai : (a : Int) < (n : Int) := by omega
      have D := hid (hB.drew)
      have KP : Hid (∀ X, Below wr.heap.size wr X → (X.cell? ⟨g, a * 4, none⟩ = some (.int .i64 d.tr) ∧ X.cell? ⟨g, a * 4 + 1, none⟩ = some (.slice xa d.ex.length xc) ∧ X.cell? ⟨g, a * 4 + 2, none⟩ = some (.slice na d.en.length nc) ∧ X.cell? ⟨g, a * 4 + 3, none⟩ = some (.int .i64 d.nx)) ∧ (X.cell? ⟨g', a * 4, none⟩ = some (.int .i64 d.tr) ∧ X.cell? ⟨g', a * 4 + 1, none⟩ = some (.slice xb d.ex.length xd) ∧ X.cell? ⟨g', a * 4 + 2, none⟩ = some (.slice nb d.en.length nd) ∧ X.cell? ⟨g', a * 4 + 3, none⟩ = some (.int .i64 d.nx))) := hid (fun X hX => by
        exact ⟨⟨(hX.cell (p := ⟨g, a * 4, none⟩) l1).trans x0, (hX.cell (p := ⟨g, a * 4 + 1, none⟩) l1).trans x1, (hX.cell (p := ⟨g, a * 4 + 2, none⟩) l1).trans x2, (hX.cell (p := ⟨g, a * 4 + 3, none⟩) l1).trans x3⟩, ⟨(hX.cell (p := ⟨g', a * 4, none⟩) l2).trans y0, (hX.cell (p := ⟨g', a * 4 + 1, none⟩) l2).trans y1, (hX.cell (p := ⟨g', a * 4 + 2, none⟩) l2).trans y2, (hX.cell (p := ⟨g', a * 4 + 3, none⟩) l2).trans y3⟩⟩)
      clear hB e1 e2 r1 r2 had hd l1 l2
      go_upto_region 6 with fail
      go_region_held3 (fun X => (X.cell? ⟨g, a * 4, none⟩ = some (.int .i64 d.tr) ∧ X.cell? ⟨g, a * 4 + 1, none⟩ = some (.slice xa d.ex.length xc) ∧ X.cell? ⟨g, a * 4 + 2, none⟩ = some (.slice na d.en.length nc) ∧ X.cell? ⟨g, a * 4 + 3, none⟩ = some (.int .i64 d.nx)) ∧ (X.cell? ⟨g', a * 4, none⟩ = some (.int .i64 d.tr) ∧ X.cell? ⟨g', a * 4 + 1, none⟩ = some (.slice xb d.ex.length xd) ∧ X.cell? ⟨g', a * 4 + 2, none⟩ = some (.slice nb d.en.length nd) ∧ X.cell? ⟨g', a * 4 + 3, none⟩ = some (.int .i64 d.nx)))
        (first | with_reducible exact KP.out _ B2.out | exact KP.out _ ((Below.refl _ _).drew))
        (first | (go_at_call 80; refine (E.out _ D.out).mono ?_; rintro e w2 ⟨rfl, hb⟩; have B1' := hid (D.out.trans (hb.mono D.out.size)); have B2 : Hid (Below wr.heap.size wr w2) := hid (undrewH hb); clear hb))
      all_goals
        go_wp2_with fail
        go_roundg (n - (a + 1))
        case measure => omega
        case rel => exact ⟨a + 1, by omega, rfl, by go_num, B1'.out⟩
    · obtain rfl : a = n := by omega
      have BB := hid hB
      clear hB
      go_wp2_with fail
      go_ret
      exact ⟨rfl, BB.out⟩
end Go.Proofs.YtiimkhepplkocaaGreat
namespace Go.Proofs.YtiimkhepplkocaaGreat
open Go.RowKit Go.Sort
set_option linter.unusedVariables false
attribute [local go_sem ↓] Go.wp_at_zero Go.wp_at_succ

def tot (p q : Nat → Nat) : Nat → Nat
  | 0 => 0
  | i + 1 => tot p q i + (2 + p i + q i)
theorem tot_mono (p q : Nat → Nat) : ∀ {i j : Nat}, i ≤ j → tot p q i ≤ tot p q j := by
  intro i j h
  induction j with
  | zero => obtain rfl : i = 0 := by omega
            exact Nat.le_refl _
  | succ j ih =>
    by_cases e : i = j + 1
    · rw [e]; exact Nat.le_refl _
    · have := ih (by omega)
      simp only [tot]
      omega
/-- The blocks of the rows' lists. -/
def Inner (xv nv : Nat → Value) (n : Nat) (b : Nat) : Prop := ∃ i, i < n ∧ ((xv i).ownBlock = some b ∨ (nv i).ownBlock = some b)
/-- No two of the rows' lists share a block. -/
def ApartR (xv nv : Nat → Value) (n : Nat) : Prop := ∀ i j, i < n → j < n → (∀ b, (xv i).ownBlock = some b → (nv j).ownBlock ≠ some b) ∧ (i ≠ j → (∀ b, (xv i).ownBlock = some b → (xv j).ownBlock ≠ some b) ∧ ∀ b, (nv i).ownBlock = some b → (nv j).ownBlock ≠ some b)
def ShpR (xv nv : Nat → Value) (n : Nat) (fs : List Value) : Prop := ∀ i, i < n → (∃ z, fs[i * 4]? = some (.int .i64 z)) ∧ fs[i * 4 + 1]? = some (xv i) ∧ fs[i * 4 + 2]? = some (nv i) ∧ ∃ z, fs[i * 4 + 3]? = some (.int .i64 z)
/-- The rows below a are marked. -/
structure MkR (w0 : World) (B C n : Nat) (rv : Value) (xv nv : Nat → Value) (p q : Nat → Nat) (k : Int) (a : Nat) (X : World) : Prop where
  fr : OnlyP (fun b => rv.ownBlock = some b ∨ Inner xv nv n b) w0 X
  row : ∃ fs, X.ownsRow C 44 4 rv n fs ∧ ShpR xv nv n fs ∧ ∀ i, i < a → fs[i * 4]? = some (.int .i64 (k + tot p q i)) ∧ fs[i * 4 + 3]? = some (.int .i64 (k + tot p q i + 1 + p i + q i))
  mkd : ∀ i, i < a → MkdR X B 3 1 (xv i) (p i) (k + tot p q i + 1) ∧ MkdR X B 3 1 (nv i) (q i) (k + tot p q i + 1 + p i)
  un : ∀ i, a ≤ i → i < n → IntsR X B 3 1 (xv i) (p i) ∧ IntsR X B 3 1 (nv i) (q i)

theorem own_type {w : World} {B C : Nat} {s1 s2 : Nat} {v u : Value} {n m : Nat} {xs ys : List Value} (h : w.ownsRow B 3 s1 v n xs) (k : w.ownsRow C 44 s2 u m ys) : ∀ b, v.ownBlock = some b → u.ownBlock ≠ some b := fun b e e2 => by
  obtain ⟨cs, h1⟩ := own_has h b e
  exact own_tag k h1 (by decide) e2

set_option maxRecDepth 100000 in
set_option maxHeartbeats 4000000 in
theorem markRowS_own (B C n : Nat) (rv : Value) (xv nv : Nat → Value) (p q : Nat → Nat) (k : Int) (w : World) (hk : 0 ≤ k) (hb : k + tot p q n ≤ 1099511627776) (hn : n ≤ 2000000000) (hap : ApartR xv nv n) (h : MkR w B C n rv xv nv p q k 0 w) :
    Calls Tryz.prog 86 #[rv, .int .i64 k] w fun e w' => e = .returned (.int .i64 (k + tot p q n)) ∧ MkR w B C n rv xv nv p q k n w' := by
  have HM := hid h
  obtain ⟨fs0, hr0, _⟩ := h.row
  obtain ⟨ra, rc, rfl⟩ := own_any hr0
  have AP := hid hap
  clear h hap hr0
  go_enter Tryz.func86, Tryz.ntmps86
  go_wp2_with fail
  go_loopg [1, 5] n (fun mm kv i X => ∃ a : Nat, a ≤ n ∧ mm = n - a ∧ i = .int .i64 a ∧ kv = .int .i64 (k + tot p q a) ∧ MkR w B C n (.slice ra n rc) xv nv p q k a X)
  case atStart => exact ⟨0, by omega, by omega, rfl, by simp [tot], HM.out⟩
  case round =>
    obtain ⟨a, ha, rfl, rfl, rfl, hM⟩ := hrel
    by_cases hlt : a < n
    · obtain ⟨fs, hR, hS, hD⟩ := hM.row
      obtain ⟨g, cap, hv, _, hgl⟩ := World.ownsRow.form hR (by omega)
      have hga : ra = some ⟨g, 0, none⟩ ∧ rc = cap := by simpa using hv
      obtain ⟨rfl, rfl⟩ := hga
      obtain ⟨⟨z0, s0⟩, s1, s2, ⟨z3, s3⟩⟩ := hS a hlt
      obtain ⟨ux, un⟩ := hM.un a (Nat.le_refl _) hlt
      obtain ⟨xa, xc, hxv⟩ := ux.any
      obtain ⟨na, nc, hnv⟩ := un.any
      have c0 := (World.ownsRow.cellAt hR (a * 4) (by omega)).trans s0
      have c1 := (World.ownsRow.cellAt hR (a * 4 + 1) (by omega)).trans s1
      have c2 := (World.ownsRow.cellAt hR (a * 4 + 2) (by omega)).trans s2
      have c3 := (World.ownsRow.cellAt hR (a * 4 + 3) (by omega)).trans s3
      rw [hxv] at c1
      rw [hnv] at c2
      have f0 := World.ownsRow.frozenAt hR (a * 4)
      have f3 := World.ownsRow.frozenAt hR (a * 4 + 3)
      have lS : fs.length = n * 4 := hR.1
      have tm := tot_mono p q (show a + 1 ≤ n by omega)
      simp only [tot] at tm
      obtain ⟨kk, hkk⟩ : ∃ kk : Int, kk = k + tot p q a := ⟨_, rfl⟩
      have kb0 : 0 ≤ kk := by omega
      have kb1 : kk + 2 + p a + q a ≤ 1099511627776 := by omega
      -- the worlds: w1 behind Trans, w2 and w3 behind the lists, w4 behind Next
      have R1 := (World.ownsRow.stored hR (a * 4) (.int .i64 kk)).1
      have oX : ∀ b, (xv a).ownBlock = some b → b ≠ g := fun b e e2 => by obtain ⟨us, o, _⟩ := ux; exact own_type o hR b e (by rw [e2]; rfl)
      have oN : ∀ b, (nv a).ownBlock = some b → b ≠ g := fun b e e2 => by obtain ⟨us, o, _⟩ := un; exact own_type o hR b e (by rw [e2]; rfl)
      have oXN : ∀ b, (xv a).ownBlock = some b → (nv a).ownBlock ≠ some b := (AP.out a a hlt hlt).1
      have gB : (Value.slice (some ⟨g, 0, none⟩) n rc).ownBlock = some g := rfl
      have C1 : Hid (Calls Tryz.prog 85 #[.slice xa (p a) xc, .int .i64 (kk + 1)] (wr.setCell ⟨g, a * 4, none⟩ (.int .i64 kk)) fun e w' => e = .returned (.int .i64 (kk + 1 + p a)) ∧ MkdR w' B 3 1 (.slice xa (p a) xc) (p a) (kk + 1) ∧ Only (.slice xa (p a) xc) (wr.setCell ⟨g, a * 4, none⟩ (.int .i64 kk)) w') := hid (by
        have := markInt_own B (xv a) (p a) (kk + 1) (wr.setCell ⟨g, a * 4, none⟩ (.int .i64 kk)) (by omega) (by omega) ((OnlyP.set (P := fun b => b = g) _ rfl).ints ux (fun b e => oX b e))
        rw [hxv] at this
        exact this)
      have C2 : Hid (∀ X, IntsR X B 3 1 (.slice na (q a) nc) (q a) → Calls Tryz.prog 85 #[.slice na (q a) nc, .int .i64 (kk + 1 + p a)] X fun e w' => e = .returned (.int .i64 (kk + 1 + p a + q a)) ∧ MkdR w' B 3 1 (.slice na (q a) nc) (q a) (kk + 1 + p a) ∧ Only (.slice na (q a) nc) X w') := hid (fun X hX => markInt_own B (.slice na (q a) nc) (q a) (kk + 1 + p a) X (by omega) (by omega) hX)
      have UN1 : Hid (IntsR (wr.setCell ⟨g, a * 4, none⟩ (.int .i64 kk)) B 3 1 (.slice na (q a) nc) (q a)) := hid (by have := (OnlyP.set (P := fun b => b = g) (w := wr) (o := a * 4) (.int .i64 kk) rfl).ints un (fun b e => oN b e); rw [hnv] at this; exact this)
      have RR1 := hid R1
      have OX : Hid (∀ b, (Value.slice xa (p a) xc).ownBlock = some b → b ≠ g ∧ (Value.slice na (q a) nc).ownBlock ≠ some b) := hid (fun b e => ⟨oX b (by rw [hxv]; exact e), by rw [← hnv]; exact oXN b (by rw [hxv]; exact e)⟩)
      have ON : Hid (∀ b, (Value.slice na (q a) nc).ownBlock = some b → b ≠ g) := hid (fun b e => oN b (by rw [hnv]; exact e))
      have HXV := hid hxv
      have HNV := hid hnv
      have MM := hid hM
      have SS := hid hS
      have DDn := hid hD
      have LS := hid lS
      have KK := hid hkk
      have ai : (a : Int) < (n : Int) := by omega
      rw [← hkk]
      clear hM hR hS hD s0 s1 s2 s3 ux un hv hxv hnv R1 oX oN oXN lS tm hkk z3 f3 c3 c2
      go_wp2_with (first
        | (go_at_call_of 85 (Value.slice xa (p a) xc); refine C1.out.mono ?_; rintro e w2 ⟨rfl, hm, ho⟩; have M2 := hid hm; have O2 := hid ho; have G2 := hid (ho.own RR1.out (fun b e e2 => by have := OX.out b e2; simp [Value.ownBlock] at e; omega)); have U2 := hid (ho.ints UN1.out (fun b e e2 => (OX.out b e2).2 e)); have c2 : w2.cell? ⟨g, a * 4 + 2, none⟩ = some (.slice na (q a) nc) := (by have h := World.ownsRow.cellAt G2.out (a * 4 + 2) (by omega); rw [h, List.getElem?_set_ne (by omega), (SS.out a hlt).2.2.1, HNV.out]); clear hm ho)
        | (go_at_call_of 85 (Value.slice na (q a) nc); refine (C2.out _ U2.out).mono ?_; rintro e w3 ⟨rfl, hm, ho⟩; have M3 := hid hm; have O3 := hid ho; have G3 := hid (ho.own G2.out (fun b e e2 => by have := ON.out b e2; simp [Value.ownBlock] at e; omega)); have f3 := World.ownsRow.frozenAt G3.out (a * 4 + 3); obtain ⟨z3, s3⟩ := (SS.out a hlt).2.2.2; have c3 : w3.cell? ⟨g, a * 4 + 3, none⟩ = some (.int .i64 z3) := (by have h := World.ownsRow.cellAt G3.out (a * 4 + 3) (by omega); rw [h, List.getElem?_set_ne (by omega), s3]); clear hm ho s3))
      go_roundg (n - (a + 1))
      case measure => omega
      case rel =>
        have hk2 := KK.out
        have hlS := LS.out
        have P4 : OnlyP (fun b => b = g ∨ (xv a).ownBlock = some b ∨ (nv a).ownBlock = some b) wr (w3.setCell ⟨g, a * 4 + 3, none⟩ (.int .i64 (kk + 1 + p a + q a))) :=
          (((OnlyP.set _ (.inl rfl)).trans (O2.out.toP (fun b e => .inr (.inl (by rw [HXV.out]; exact e))))).trans (O3.out.toP (fun b e => .inr (.inr (by rw [HNV.out]; exact e))))).trans (OnlyP.set _ (.inl rfl))
        obtain ⟨fsM, hRM, _⟩ := MM.out.row
        have far : ∀ {i : Nat}, i < n → ∀ b, ((xv i).ownBlock = some b ∨ (nv i).ownBlock = some b) → b ≠ g := fun {i} hi b e e2 => by
          have hx : ∃ us vs, wr.ownsRow B 3 1 (xv i) (p i) us ∧ wr.ownsRow B 3 1 (nv i) (q i) vs := by
            by_cases h : i < a
            · obtain ⟨⟨us, o1, _⟩, ⟨vs, o2, _⟩⟩ := MM.out.mkd i h
              exact ⟨us, vs, o1, o2⟩
            · obtain ⟨⟨us, o1, _⟩, ⟨vs, o2, _⟩⟩ := MM.out.un i (by omega) hi
              exact ⟨us, vs, o1, o2⟩
          obtain ⟨us, vs, o1, o2⟩ := hx
          rcases e with e | e
          · exact own_type o1 hRM b e (by rw [e2]; rfl)
          · exact own_type o2 hRM b e (by rw [e2]; rfl)
        have keep : ∀ {i : Nat}, i < n → i ≠ a → ∀ b, ((xv i).ownBlock = some b ∨ (nv i).ownBlock = some b) → ¬ (b = g ∨ (xv a).ownBlock = some b ∨ (nv a).ownBlock = some b) := fun {i} hi hne b e hh => by
          rcases hh with h | h | h
          · exact far hi b e h
          · rcases e with e | e
            · exact ((AP.out i a hi hlt).2 hne).1 b e h
            · exact (AP.out a i hlt hi).1 b h e
          · rcases e with e | e
            · exact (AP.out i a hi hlt).1 b e h
            · exact ((AP.out i a hi hlt).2 hne).2 b e h
        have S4 := (World.ownsRow.stored G3.out (a * 4 + 3) (.int .i64 (kk + 1 + p a + q a))).1
        have at4 : ∀ j, ((fs.set (a * 4) (.int .i64 kk)).set (a * 4 + 3) (.int .i64 (kk + 1 + p a + q a)))[j]? = if j = a * 4 + 3 then some (.int .i64 (kk + 1 + p a + q a)) else if j = a * 4 then some (.int .i64 kk) else fs[j]? := fun j => by
          rw [List.getElem?_set, List.getElem?_set, List.length_set]
          by_cases h1 : j = a * 4 + 3
          · subst h1; rw [if_pos rfl, if_pos rfl, if_pos (by omega)]
          · rw [if_neg (fun e => h1 e.symm), if_neg h1]
            by_cases h2 : j = a * 4
            · subst h2; rw [if_pos rfl, if_pos rfl, if_pos (by omega)]
            · rw [if_neg (fun e => h2 e.symm), if_neg h2]
        have M2' : MkdR (w3.setCell ⟨g, a * 4 + 3, none⟩ (.int .i64 (kk + 1 + p a + q a))) B 3 1 (xv a) (p a) (kk + 1) := by
          rw [HXV.out]
          exact (OnlyP.set (P := fun b => b = g) _ rfl).mkd (O3.out.mkd M2.out (fun b e e2 => (OX.out b e).2 e2)) (fun b e => (OX.out b e).1)
        have M3' : MkdR (w3.setCell ⟨g, a * 4 + 3, none⟩ (.int .i64 (kk + 1 + p a + q a))) B 3 1 (nv a) (q a) (kk + 1 + p a) := by
          rw [HNV.out]
          exact (OnlyP.set (P := fun b => b = g) _ rfl).mkd M3.out (fun b e => ON.out b e)
        refine ⟨a + 1, by omega, rfl, by go_num, by congr 1; simp only [tot]; omega, MM.out.fr.trans (P4.mono (fun b e => ?_)), ⟨_, S4, fun i hi => ?_, fun i hi => ?_⟩, fun i hi => ?_, fun i h1 h2 => ?_⟩
        · rcases e with e | e | e
          · exact .inl (by rw [e]; rfl)
          · exact .inr ⟨a, hlt, .inl e⟩
          · exact .inr ⟨a, hlt, .inr e⟩
        · obtain ⟨⟨y0, r0⟩, r1, r2, ⟨y3, r3⟩⟩ := SS.out i hi
          refine ⟨?_, ?_, ?_, ?_⟩
          · rw [at4]; by_cases h : i = a
            · subst h; rw [if_neg (by omega), if_pos rfl]; exact ⟨_, rfl⟩
            · rw [if_neg (by omega), if_neg (by omega)]; exact ⟨_, r0⟩
          · rw [at4, if_neg (by omega), if_neg (by omega)]; exact r1
          · rw [at4, if_neg (by omega), if_neg (by omega)]; exact r2
          · rw [at4]; by_cases h : i = a
            · subst h; rw [if_pos rfl]; exact ⟨_, rfl⟩
            · rw [if_neg (by omega), if_neg (by omega)]; exact ⟨_, r3⟩
        · by_cases h : i = a
          · subst h
            rw [at4, at4, if_neg (by omega), if_pos rfl, if_pos rfl, hk2]
            exact ⟨rfl, rfl⟩
          · obtain ⟨d0, d3⟩ := DDn.out i (by omega)
            rw [at4, at4, if_neg (by omega), if_neg (by omega), if_neg (by omega), if_neg (by omega)]
            exact ⟨d0, d3⟩
        · by_cases h : i = a
          · subst h
            rw [← hk2]
            exact ⟨M2', M3'⟩
          · obtain ⟨d0, d3⟩ := MM.out.mkd i (by omega)
            exact ⟨P4.mkd d0 (fun b e => keep (by omega) h b (.inl e)), P4.mkd d3 (fun b e => keep (by omega) h b (.inr e))⟩
        · obtain ⟨d0, d3⟩ := MM.out.un i (by omega) h2
          exact ⟨P4.ints d0 (fun b e => keep h2 (by omega) b (.inl e)), P4.ints d3 (fun b e => keep h2 (by omega) b (.inr e))⟩
    · obtain rfl : a = n := by omega
      have M1 := hid hM
      clear hM
      go_wp2_with fail
      go_ret
      exact ⟨rfl, M1.out⟩
end Go.Proofs.YtiimkhepplkocaaGreat
namespace Go.Proofs.YtiimkhepplkocaaGreat
open Go.RowKit Go.Sort
set_option linter.unusedVariables false
attribute [local go_sem ↓] Go.wp_at_zero Go.wp_at_succ

set_option maxRecDepth 100000 in
set_option maxHeartbeats 4000000 in
theorem heldRowS_own (w0 : World) (B C n : Nat) (rv : Value) (xv nv : Nat → Value) (p q : Nat → Nat) (k : Int) (w : World) (hk : 0 ≤ k) (hb : k + tot p q n ≤ 1099511627776) (hn : n ≤ 2000000000) (h : MkR w0 B C n rv xv nv p q k n w) :
    Calls Tryz.prog 89 #[rv, .int .i64 k] w fun e w' => e = .returned (.int .i64 (k + tot p q n)) ∧ w' = w := by
  obtain ⟨fs, hR, hS, hD⟩ := h.row
  obtain ⟨ra, rc, rfl⟩ := own_any hR
  have MK := hid h.mkd
  have RR := hid hR
  have SS := hid hS
  have DD := hid hD
  clear h hR hS hD
  go_enter Tryz.func89, Tryz.ntmps89
  go_wp2_with fail
  go_loopg [1, 5] n (fun mm kv i X => ∃ a : Nat, a ≤ n ∧ mm = n - a ∧ i = .int .i64 a ∧ kv = .int .i64 (k + tot p q a) ∧ X = w)
  case atStart => exact ⟨0, by omega, by omega, rfl, by simp [tot], rfl⟩
  case round =>
    obtain ⟨a, ha, rfl, rfl, rfl, rfl⟩ := hrel
    by_cases hlt : a < n
    · obtain ⟨g, cap, hv, _, hgl⟩ := World.ownsRow.form RR.out (by omega)
      have hga : ra = some ⟨g, 0, none⟩ ∧ rc = cap := by simpa using hv
      obtain ⟨rfl, rfl⟩ := hga
      obtain ⟨_, s1, s2, _⟩ := SS.out a hlt
      obtain ⟨s0, s3⟩ := DD.out a hlt
      obtain ⟨m1, m2⟩ := MK.out a hlt
      obtain ⟨xa, xc, hxv⟩ := m1.any
      obtain ⟨na, nc, hnv⟩ := m2.any
      have c0 := (World.ownsRow.cellAt RR.out (a * 4) (by omega)).trans s0
      have c1 := (World.ownsRow.cellAt RR.out (a * 4 + 1) (by omega)).trans s1
      have c2 := (World.ownsRow.cellAt RR.out (a * 4 + 2) (by omega)).trans s2
      have c3 := (World.ownsRow.cellAt RR.out (a * 4 + 3) (by omega)).trans s3
      have tm := tot_mono p q (show a + 1 ≤ n by omega)
      simp only [tot] at tm
      obtain ⟨kk, hkk⟩ : ∃ kk : Int, kk = k + tot p q a := ⟨_, rfl⟩
      rw [← hkk] at c0 c3 m1 m2 ⊢
      have kb0 : 0 ≤ kk := by omega
      have kb1 : kk + 2 + p a + q a ≤ 1099511627776 := by omega
      have C1 := hid (heldInt_own B _ (p a) (kk + 1) wr (by omega) (by omega) m1)
      have C2 := hid (heldInt_own B _ (q a) (kk + 1 + p a) wr (by omega) (by omega) m2)
      rw [hxv] at c1 C1
      rw [hnv] at c2 C2
      have p1 : ¬ (kk + 1 + p a : Int) < 0 := by omega
      have p2 : ¬ (kk + 1 + p a + q a : Int) < 0 := by omega
      have KK := hid hkk
      have ai : (a : Int) < (n : Int) := by omega
      clear s0 s1 s2 s3 m1 m2 hxv hnv hv tm hkk
      go_wp2_with (first
        | (go_at_call_of 88 (Value.slice xa (p a) xc); refine C1.out.mono ?_; rintro e w1 ⟨rfl, hw⟩; obtain rfl := hw.symm)
        | (go_at_call_of 88 (Value.slice na (q a) nc); refine C2.out.mono ?_; rintro e w2 ⟨rfl, hw⟩; obtain rfl := hw.symm))
      go_roundg (n - (a + 1))
      case measure => omega
      case rel =>
        have hk2 := KK.out
        exact ⟨a + 1, by omega, rfl, by go_num, by congr 1; simp only [tot]; omega, by first | rfl | trivial⟩
    · obtain rfl : a = n := by omega
      go_wp2_with fail
      go_ret
      exact ⟨rfl, rfl⟩

set_option maxHeartbeats 1600000 in
theorem markRow_own (B : Nat) (tr nx : Int) (xv nv : Value) (p q : Nat) (k : Int) (w : World) (hk : 0 ≤ k) (hb : k + p + q ≤ 1099511627776) (hx : IntsR w B 3 1 xv p) (hn : IntsR w B 3 1 nv q) (hne : ∀ b, xv.ownBlock = some b → nv.ownBlock ≠ some b) :
    Calls Tryz.prog 87 #[.agg #[.int .i64 tr, xv, nv, .int .i64 nx], .int .i64 k] w fun e w' => e = .returned (.int .i64 (k + p + q)) ∧ (MkdR w' B 3 1 xv p k ∧ MkdR w' B 3 1 nv q (k + p)) ∧ OnlyP (fun b => xv.ownBlock = some b ∨ nv.ownBlock = some b) w w' := by
  obtain ⟨xa, xc, rfl⟩ := hx.any
  obtain ⟨na, nc, rfl⟩ := hn.any
  obtain ⟨W, hW⟩ : ∃ W, W = w.alloc (.cells #[.int .i64 tr, .slice xa p xc, .slice na q nc, .int .i64 nx] 44) := ⟨_, rfl⟩
  have bW : Below w.heap.size w W := by rw [hW]; exact below1 _ _
  have qW : W.heap[w.heap.size]? = some (.cells #[.int .i64 tr, .slice xa p xc, .slice na q nc, .int .i64 nx] 44 (0, 0)) := by rw [hW]; exact heap_alloc_new _ _
  have nX : ∀ b, (Value.slice xa p xc).ownBlock = some b → b ≠ w.heap.size := fun b e e2 => by obtain ⟨us, o, _⟩ := hx; have := (o.lt b e).2; omega
  have C1 := hid (markInt_own B _ p k W hk (by omega) (hx.below bW))
  have C2 := hid (fun X (h : IntsR X B 3 1 (.slice na q nc) q) => markInt_own B _ q (k + p) X (by omega) (by omega) h)
  have UN := hid (hn.below bW)
  have NX := hid nX
  have NE := hid hne
  have QW := hid qW
  have BW := hid bW
  have HW := hid hW
  rw [hW] at C1
  clear hx hn hne nX hW bW qW
  go_enter Tryz.func87, Tryz.ntmps87
  go_wp2_with (first
    | (go_at_call_of 85 (Value.slice xa p xc); refine C1.out.mono ?_; rintro e w1 ⟨rfl, hm, ho⟩; rw [← HW.out] at ho; have M1 := hid hm; have O1 := hid ho; have U1 := hid (ho.ints UN.out (fun b e e2 => NE.out b e2 e)); obtain ⟨c0, c1, c2, c3⟩ := quad_cells ((ho.block _ (fun e => NX.out _ e rfl)).trans QW.out); clear hm ho)
    | (go_at_call_of 85 (Value.slice na q nc); refine (C2.out _ U1.out).mono ?_; rintro e w2 ⟨rfl, hm, ho⟩; have M2 := hid hm; have O2 := hid ho; clear hm ho))
  go_ret
  exact ⟨rfl, ⟨O2.out.mkd M1.out (fun b e => NE.out b e), M2.out⟩, ((Below.toP BW.out).trans (O1.out.toP (fun b e => .inl e))).trans (O2.out.toP (fun b e => .inr e))⟩
set_option maxHeartbeats 1600000 in
theorem heldRow_own (B : Nat) (tr nx : Int) (xv nv : Value) (p q : Nat) (k : Int) (w : World) (hk : 0 ≤ k) (hb : k + p + q ≤ 1099511627776) (hx : MkdR w B 3 1 xv p k) (hn : MkdR w B 3 1 nv q (k + p)) :
    Calls Tryz.prog 90 #[.agg #[.int .i64 tr, xv, nv, .int .i64 nx], .int .i64 k] w fun e w' => e = .returned (.int .i64 (k + p + q)) ∧ Below w.heap.size w w' := by
  obtain ⟨xa, xc, rfl⟩ := hx.any
  obtain ⟨na, nc, rfl⟩ := hn.any
  have C1 := hid (heldInt_own B _ p k (w.alloc (.cells #[.int .i64 tr, .slice xa p xc, .slice na q nc, .int .i64 nx] 44)) hk (by omega) (hx.below (below1 _ _)))
  have C2 := hid (heldInt_own B _ q (k + p) (w.alloc (.cells #[.int .i64 tr, .slice xa p xc, .slice na q nc, .int .i64 nx] 44)) (by omega) (by omega) (hn.below (below1 _ _)))
  have p1 : ¬ (k + p : Int) < 0 := by omega
  have p2 : ¬ (k + p + q : Int) < 0 := by omega
  clear hx hn
  go_enter Tryz.func90, Tryz.ntmps90
  go_wp2_with (first
    | (go_at_call_of 88 (Value.slice xa p xc); refine C1.out.mono ?_; rintro e w1 ⟨rfl, hw⟩; obtain rfl := hw.symm)
    | (go_at_call_of 88 (Value.slice na q nc); refine C2.out.mono ?_; rintro e w2 ⟨rfl, hw⟩; obtain rfl := hw.symm))
  go_ret
  exact ⟨rfl, below1 _ _⟩
end Go.Proofs.YtiimkhepplkocaaGreat
namespace Go.Proofs.YtiimkhepplkocaaGreat
open Go.RowKit Go.Sort
set_option linter.unusedVariables false
attribute [local go_sem ↓] Go.wp_at_zero Go.wp_at_succ

theorem eight_cells {w : World} {H : Nat} {a b c d e f g h : Value} {t : TypeId} (k : w.heap[H]? = some (.cells #[a, b, c, d, e, f, g, h] t (0, 0))) : w.cell? ⟨H, 0, none⟩ = some a ∧ w.cell? ⟨H, 1, none⟩ = some b ∧ w.cell? ⟨H, 2, none⟩ = some c ∧ w.cell? ⟨H, 3, none⟩ = some d ∧ w.cell? ⟨H, 4, none⟩ = some e ∧ w.cell? ⟨H, 5, none⟩ = some f ∧ w.cell? ⟨H, 6, none⟩ = some g ∧ w.cell? ⟨H, 7, none⟩ = some h := by simp [World.cell?, k]
/-- A table. -/
structure TbD where
  sg : Int
  lv : List Nat
  st : List Nat
  rw : List RwD
  bt : RwD
/-- The lists of a table that hold numbers: leaves, starts, the first step's two. -/
def Outer (lv sv bx bn : Value) (b : Nat) : Prop := lv.ownBlock = some b ∨ sv.ownBlock = some b ∨ bx.ownBlock = some b ∨ bn.ownBlock = some b
/-- A table that lies in memory of its own. -/
structure Tab (X : World) (B : Nat) (d : TbD) (lv sv rv bx bn : Value) : Prop where
  l : X.ownsRow B 3 1 lv d.lv.length (ints d.lv)
  s : X.ownsRow B 3 1 sv d.st.length (ints d.st)
  x : X.ownsRow B 3 1 bx d.bt.ex.length (ints d.bt.ex)
  n : X.ownsRow B 3 1 bn d.bt.en.length (ints d.bt.en)
  r : ∃ R, RowsIn X B d.rw R ∧ X.ownsRow B 44 4 rv d.rw.length R.flatten
theorem Tab.below {X Y : World} {B : Nat} {d : TbD} {lv sv rv bx bn : Value} (h : Tab X B d lv sv rv bx bn) (hb : Below X.heap.size X Y) : Tab Y B d lv sv rv bx bn := by
  obtain ⟨R, h1, h2⟩ := h.r
  exact ⟨ownsRow_below h.l hb, ownsRow_below h.s hb, ownsRow_below h.x hb, ownsRow_below h.n hb, R, h1.below hb, ownsRow_below h2 hb⟩
structure TabFits (d : TbD) : Prop where
  l : d.lv.length ≤ 1048576
  s : d.st.length ≤ 1048576
  x : d.bt.ex.length ≤ 1048576
  n : d.bt.en.length ≤ 1048576
  r : d.rw.length ≤ 2000000000
  e : ∀ i, i < d.rw.length → (d.rw.getD i rw0).ex.length ≤ 400 ∧ (d.rw.getD i rw0).en.length ≤ 400
abbrev tabV (d : TbD) (lv sv rv bx bn : Value) : Value := .agg #[.int .i64 d.sg, lv, sv, rv, .int .i64 d.bt.tr, bx, bn, .int .i64 d.bt.nx]
set_option maxRecDepth 100000 in
set_option maxHeartbeats 4000000 in
theorem eqTable_same (d : TbD) (B1 B2 : Nat) (l1 s1 r1 x1 n1 l2 s2 r2 x2 n2 : Value) (w : World) (hf : TabFits d) (h1 : Tab w B1 d l1 s1 r1 x1 n1) (h2 : Tab w B2 d l2 s2 r2 x2 n2) :
    Calls Tryz.prog 27 #[tabV d l1 s1 r1 x1 n1, tabV d l2 s2 r2 x2 n2] w fun e w' => e = .returned (.bool true) ∧ Below w.heap.size w w' := by
  have T1 := hid h1
  have T2 := hid h2
  obtain ⟨R1, _, or1⟩ := h1.r
  obtain ⟨R2, _, or2⟩ := h2.r
  obtain ⟨la, lc, rfl⟩ := own_any h1.l
  obtain ⟨sa, sc, rfl⟩ := own_any h1.s
  obtain ⟨xa, xc, rfl⟩ := own_any h1.x
  obtain ⟨na, nc, rfl⟩ := own_any h1.n
  obtain ⟨ra, rc, rfl⟩ := own_any or1
  obtain ⟨lb, ld, rfl⟩ := own_any h2.l
  obtain ⟨sb, sd, rfl⟩ := own_any h2.s
  obtain ⟨xb, xd, rfl⟩ := own_any h2.x
  obtain ⟨nb, nd, rfl⟩ := own_any h2.n
  obtain ⟨rb, rd, rfl⟩ := own_any or2
  have CL := hid (fun X (hb : Below w.heap.size w X) => eqInt_own _ _ B1 B2 d.lv X hf.l (T1.out.below hb).l (T2.out.below hb).l)
  have CS := hid (fun X (hb : Below w.heap.size w X) => eqInt_own _ _ B1 B2 d.st X hf.s (T1.out.below hb).s (T2.out.below hb).s)
  have CR := hid (fun X (hb : Below w.heap.size w X) => by
    obtain ⟨R1, a1, b1⟩ := (T1.out.below hb).r
    obtain ⟨R2, a2, b2⟩ := (T2.out.below hb).r
    exact eqRowS_same d.rw B1 B2 B1 B2 R1 R2 _ _ X hf.r (fun i hi => ⟨Nat.le_trans (hf.e i hi).1 (by omega), Nat.le_trans (hf.e i hi).2 (by omega)⟩) a1 a2 b1 b2)
  have CB := hid (fun X (hb : Below w.heap.size w X) => eqRow_same d.bt B1 B2 _ _ X hf.x hf.n ⟨_, _, rfl, (T1.out.below hb).x, (T1.out.below hb).n⟩ ⟨_, _, rfl, (T2.out.below hb).x, (T2.out.below hb).n⟩)
  unfold tabV
  obtain ⟨ln, hln⟩ : ∃ x, x = d.lv.length := ⟨_, rfl⟩
  obtain ⟨sn, hsn⟩ : ∃ x, x = d.st.length := ⟨_, rfl⟩
  obtain ⟨rn, hrn⟩ : ∃ x, x = d.rw.length := ⟨_, rfl⟩
  obtain ⟨xn, hxn⟩ : ∃ x, x = d.bt.ex.length := ⟨_, rfl⟩
  obtain ⟨nn, hnn⟩ : ∃ x, x = d.bt.en.length := ⟨_, rfl⟩
  obtain ⟨g0, hg0⟩ : ∃ x, x = d.sg := ⟨_, rfl⟩
  obtain ⟨b0, hb0⟩ : ∃ x, x = d.bt.tr := ⟨_, rfl⟩
  obtain ⟨b3, hb3⟩ : ∃ x, x = d.bt.nx := ⟨_, rfl⟩
  rw [← hln] at CL
  rw [← hsn] at CS
  rw [← hrn] at CR
  rw [← hxn, ← hnn, ← hb0, ← hb3] at CB
  rw [← hln, ← hsn, ← hrn, ← hxn, ← hnn, ← hg0, ← hb0, ← hb3]
  obtain ⟨W, hW⟩ : ∃ W, W = (w.alloc (.cells #[.int .i64 g0, .slice la ln lc, .slice sa sn sc, .slice ra rn rc, .int .i64 b0, .slice xa xn xc, .slice na nn nc, .int .i64 b3] 46)).alloc (.cells #[.int .i64 g0, .slice lb ln ld, .slice sb sn sd, .slice rb rn rd, .int .i64 b0, .slice xb xn xd, .slice nb nn nd, .int .i64 b3] 46) := ⟨_, rfl⟩
  have bW : Below w.heap.size w W := by rw [hW]; exact below2 _ _ _
  have q1 : W.heap[w.heap.size]? = some (.cells #[.int .i64 g0, .slice la ln lc, .slice sa sn sc, .slice ra rn rc, .int .i64 b0, .slice xa xn xc, .slice na nn nc, .int .i64 b3] 46 (0, 0)) := by rw [hW]; exact block_below (heap_alloc_new w _) (below1 _ _)
  have q2 : W.heap[w.heap.size + 1]? = some (.cells #[.int .i64 g0, .slice lb ln ld, .slice sb sn sd, .slice rb rn rd, .int .i64 b0, .slice xb xn xd, .slice nb nn nd, .int .i64 b3] 46 (0, 0)) := by
    rw [hW]; simpa using heap_alloc_new (w.alloc (.cells #[.int .i64 g0, .slice la ln lc, .slice sa sn sc, .slice ra rn rc, .int .i64 b0, .slice xa xn xc, .slice na nn nc, .int .i64 b3] 46)) (.cells #[.int .i64 g0, .slice lb ln ld, .slice sb sn sd, .slice rb rn rd, .int .i64 b0, .slice xb xn xd, .slice nb nn nd, .int .i64 b3] 46)
  have Q1 := hid q1
  have Q2 := hid q2
  have BW := hid bW
  clear h1 h2 or1 or2 hln hsn hrn hxn hnn hg0 hb0 hb3
  go_enter Tryz.func27, Tryz.ntmps27
  go_upto_region 1 with fail
  rw [← hW]
  obtain ⟨a0, a1, a2, a3, a4, a5, a6, a7⟩ := eight_cells q1
  obtain ⟨c0, c1, c2, c3, c4, c5, c6, c7⟩ := eight_cells q2
  clear hW q1 q2 bW
  go_wp2_with (first
    | (go_at_call_of 78 (Value.slice la ln lc); refine (CL.out _ BW.out).mono ?_; rintro e w1 ⟨rfl, hb⟩; have B1' := hid (BW.out.trans (hb.mono BW.out.size)); have Q3 := hid (block_below Q1.out hb); have Q4 := hid (block_below Q2.out hb); obtain ⟨a0, a1, a2, a3, a4, a5, a6, a7⟩ := eight_cells Q3.out; obtain ⟨c0, c1, c2, c3, c4, c5, c6, c7⟩ := eight_cells Q4.out; clear hb)
    | (go_at_call_of 78 (Value.slice sa sn sc); refine (CS.out _ B1'.out).mono ?_; rintro e w2 ⟨rfl, hb⟩; have B2' := hid (B1'.out.trans (hb.mono B1'.out.size)); have Q5 := hid (block_below Q3.out hb); have Q6 := hid (block_below Q4.out hb); obtain ⟨a0, a1, a2, a3, a4, a5, a6, a7⟩ := eight_cells Q5.out; obtain ⟨c0, c1, c2, c3, c4, c5, c6, c7⟩ := eight_cells Q6.out; clear hb)
    | (go_at_call 79; refine (CR.out _ B2'.out).mono ?_; rintro e w3 ⟨rfl, hb⟩; have B3' := hid (B2'.out.trans (hb.mono B2'.out.size)); obtain ⟨a0, a1, a2, a3, a4, a5, a6, a7⟩ := eight_cells (block_below Q5.out hb); obtain ⟨c0, c1, c2, c3, c4, c5, c6, c7⟩ := eight_cells (block_below Q6.out hb); clear hb)
    | (go_at_call 80; refine (CB.out _ B3'.out).mono ?_; rintro e w4 ⟨rfl, hb⟩; have B4' := hid (B3'.out.trans (hb.mono B3'.out.size)); clear hb))
  go_ret
  exact ⟨rfl, B4'.out⟩
end Go.Proofs.YtiimkhepplkocaaGreat
namespace Go.Proofs.YtiimkhepplkocaaGreat
open Go.RowKit Go.Sort
set_option linter.unusedVariables false
attribute [local go_sem ↓] Go.wp_at_zero Go.wp_at_succ

/-- The rows, ahead of a marking. -/
def RS (X : World) (B C n : Nat) (rv : Value) (xv nv : Nat → Value) (p q : Nat → Nat) : Prop := (∃ fs, X.ownsRow C 44 4 rv n fs ∧ ShpR xv nv n fs) ∧ ∀ i, i < n → IntsR X B 3 1 (xv i) (p i) ∧ IntsR X B 3 1 (nv i) (q i)
theorem RS.keep {X Y : World} {B C n : Nat} {rv : Value} {xv nv : Nat → Value} {p q : Nat → Nat} {P : Nat → Prop} (h : RS X B C n rv xv nv p q) (hP : OnlyP P X Y) (hn : ∀ b, (rv.ownBlock = some b ∨ Inner xv nv n b) → ¬ P b) : RS Y B C n rv xv nv p q := by
  obtain ⟨⟨fs, h1, h2⟩, h3⟩ := h
  exact ⟨⟨fs, hP.own h1 (fun b e => hn b (.inl e)), h2⟩, fun i hi => ⟨hP.ints (h3 i hi).1 (fun b e => hn b (.inr ⟨i, hi, .inl e⟩)), hP.ints (h3 i hi).2 (fun b e => hn b (.inr ⟨i, hi, .inr e⟩))⟩⟩
theorem RS.start {X : World} {B C n : Nat} {rv : Value} {xv nv : Nat → Value} {p q : Nat → Nat} (h : RS X B C n rv xv nv p q) (k : Int) : MkR X B C n rv xv nv p q k 0 X := by
  obtain ⟨⟨fs, h1, h2⟩, h3⟩ := h
  exact ⟨OnlyP.refl _ _, ⟨fs, h1, h2, fun i hi => absurd hi (by omega)⟩, fun i hi => absurd hi (by omega), fun i _ hi => h3 i hi⟩
theorem MkR.keep {w0 X Y : World} {B C n : Nat} {rv : Value} {xv nv : Nat → Value} {p q : Nat → Nat} {k : Int} {P : Nat → Prop} (h : MkR w0 B C n rv xv nv p q k n X) (hP : OnlyP P X Y) (hn : ∀ b, (rv.ownBlock = some b ∨ Inner xv nv n b) → ¬ P b) : MkR Y B C n rv xv nv p q k n Y := by
  obtain ⟨fs, h1, h2, h3⟩ := h.row
  exact ⟨OnlyP.refl _ _, ⟨fs, hP.own h1 (fun b e => hn b (.inl e)), h2, h3⟩, fun i hi => ⟨hP.mkd (h.mkd i hi).1 (fun b e => hn b (.inr ⟨i, hi, .inl e⟩)), hP.mkd (h.mkd i hi).2 (fun b e => hn b (.inr ⟨i, hi, .inr e⟩))⟩, fun i h1 h2 => absurd h2 (by omega)⟩
abbrev Off (u v : Value) : Prop := ∀ b, u.ownBlock = some b → v.ownBlock ≠ some b
/-- No two lists of a table share a block. -/
structure ApT (lv sv rv bx bn : Value) (xv nv : Nat → Value) (n : Nat) : Prop where
  ls : Off lv sv
  lx : Off lv bx
  ln : Off lv bn
  sx : Off sv bx
  sn : Off sv bn
  xn : Off bx bn
  inn : ∀ b, Outer lv sv bx bn b → ¬ (rv.ownBlock = some b ∨ Inner xv nv n b)
  row : ApartR xv nv n
structure TSh (X : World) (B : Nat) (lv sv rv bx bn : Value) (a b n e f : Nat) (xv nv : Nat → Value) (p q : Nat → Nat) : Prop where
  l : IntsR X B 3 1 lv a
  s : IntsR X B 3 1 sv b
  r : RS X B B n rv xv nv p q
  x : IntsR X B 3 1 bx e
  n : IntsR X B 3 1 bn f
structure TMk (X : World) (B : Nat) (lv sv rv bx bn : Value) (a b n e f : Nat) (xv nv : Nat → Value) (p q : Nat → Nat) (k : Int) : Prop where
  l : MkdR X B 3 1 lv a k
  s : MkdR X B 3 1 sv b (k + a)
  r : MkR X B B n rv xv nv p q (k + a + b) n X
  x : MkdR X B 3 1 bx e (k + a + b + tot p q n)
  n : MkdR X B 3 1 bn f (k + a + b + tot p q n + e)
theorem intsR_lt {X : World} {B : Nat} {e : TypeId} {size : Nat} {v : Value} {n : Nat} (h : IntsR X B e size v n) : ∀ b, v.ownBlock = some b → B ≤ b ∧ b < X.heap.size := fun b hb => by
  obtain ⟨xs, o, _⟩ := h
  exact o.lt b hb
theorem rs_lt {X : World} {B C n : Nat} {rv : Value} {xv nv : Nat → Value} {p q : Nat → Nat} (h : RS X B C n rv xv nv p q) : ∀ b, (rv.ownBlock = some b ∨ Inner xv nv n b) → b < X.heap.size := fun b e => by
  obtain ⟨⟨fs, h1, h2⟩, h3⟩ := h
  rcases e with e | ⟨i, hi, e | e⟩
  · exact (h1.lt b e).2
  · exact (intsR_lt (h3 i hi).1 b e).2
  · exact (intsR_lt (h3 i hi).2 b e).2

set_option maxRecDepth 100000 in
set_option maxHeartbeats 8000000 in
theorem markTable_own (B : Nat) (sg btr bnx : Int) (lv sv rv bx bn : Value) (a b n e f : Nat) (xv nv : Nat → Value) (p q : Nat → Nat) (k : Int) (w : World) (hk : 0 ≤ k) (hb : k + a + b + tot p q n + e + f ≤ 1099511627776) (hn : n ≤ 2000000000) (hA : ApT lv sv rv bx bn xv nv n) (h : TSh w B lv sv rv bx bn a b n e f xv nv p q) :
    Calls Tryz.prog 30 #[.agg #[.int .i64 sg, lv, sv, rv, .int .i64 btr, bx, bn, .int .i64 bnx], .int .i64 k] w fun r w' => r = .returned (.int .i64 (k + a + b + tot p q n + e + f)) ∧ TMk w' B lv sv rv bx bn a b n e f xv nv p q k ∧ OnlyP (fun c => Outer lv sv bx bn c ∨ rv.ownBlock = some c ∨ Inner xv nv n c) w w' := by
  have AP := hid hA
  have HH := hid h
  obtain ⟨⟨fs, hrr, _⟩, _⟩ := h.r
  obtain ⟨la, lc, hl⟩ := h.l.any
  obtain ⟨sa, sc, hs⟩ := h.s.any
  obtain ⟨ra, rc, hr⟩ := own_any hrr
  obtain ⟨xa, xc, hx⟩ := h.x.any
  obtain ⟨na, nc, hnn⟩ := h.n.any
  clear hrr h
  subst hl
  subst hs
  subst hr
  subst hx
  subst hnn
  obtain ⟨W, hW⟩ : ∃ W, W = w.alloc (.cells #[.int .i64 sg, .slice la a lc, .slice sa b sc, .slice ra n rc, .int .i64 btr, .slice xa e xc, .slice na f nc, .int .i64 bnx] 46) := ⟨_, rfl⟩
  have bW : Below w.heap.size w W := by rw [hW]; exact below1 _ _
  have qW : W.heap[w.heap.size]? = some (.cells #[.int .i64 sg, .slice la a lc, .slice sa b sc, .slice ra n rc, .int .i64 btr, .slice xa e xc, .slice na f nc, .int .i64 bnx] 46 (0, 0)) := by rw [hW]; exact heap_alloc_new _ _
  have BP : Hid (OnlyP (fun _ => False) w W) := hid (Below.toP bW)
  have LT : Hid (∀ c, (Outer (.slice la a lc) (.slice sa b sc) (.slice xa e xc) (.slice na f nc) c ∨ (Value.slice ra n rc).ownBlock = some c ∨ Inner xv nv n c) → c ≠ w.heap.size) := hid (fun c hc e2 => by
    have : c < w.heap.size := by
      rcases hc with (h | h | h | h) | h
      · exact (intsR_lt HH.out.l c h).2
      · exact (intsR_lt HH.out.s c h).2
      · exact (intsR_lt HH.out.x c h).2
      · exact (intsR_lt HH.out.n c h).2
      · exact rs_lt HH.out.r c h
    omega)
  have C1 := hid (markInt_own B _ a k W hk (by omega) (HH.out.l.below bW))
  have S1 := hid (HH.out.s.below bW)
  have R1 := hid (HH.out.r.keep BP.out (fun _ _ h => h))
  have X1 := hid (HH.out.x.below bW)
  have N1 := hid (HH.out.n.below bW)
  have QW := hid qW
  have BW := hid bW
  have HW := hid hW
  rw [hW] at C1
  have k1 : 0 ≤ k + a := by omega
  have k2 : 0 ≤ k + a + b := by omega
  have k3 : 0 ≤ k + a + b + tot p q n := by omega
  clear hW bW qW hA
  go_enter Tryz.func30, Tryz.ntmps30
  go_wp2_with (first
    | (go_at_call_of 85 (Value.slice la a lc); refine C1.out.mono ?_; rintro r w1 ⟨rfl, hm, ho⟩; rw [← HW.out] at ho; have M1 := hid hm; have P1 : Hid (OnlyP (fun c => (Value.slice la a lc).ownBlock = some c) W w1) := hid (ho.toP (fun _ h => h)); have S2 := hid (P1.out.ints S1.out (fun c h1 h2 => AP.out.ls c h2 h1)); have R2 := hid (R1.out.keep P1.out (fun c h1 h2 => AP.out.inn c (.inl h2) h1)); have X2 := hid (P1.out.ints X1.out (fun c h1 h2 => AP.out.lx c h2 h1)); have N2 := hid (P1.out.ints N1.out (fun c h1 h2 => AP.out.ln c h2 h1)); have Q1 := hid ((ho.block _ (fun h => LT.out _ (.inl (.inl h)) rfl)).trans QW.out); obtain ⟨a0, a1, a2, a3, a4, a5, a6, a7⟩ := eight_cells Q1.out; have L1 := hid (lt_of_block Q1.out); clear hm ho)
    | (go_at_call_of 85 (Value.slice sa b sc); refine (markInt_own B _ b (k + a) _ k1 (by omega) S2.out).mono ?_; rintro r w2 ⟨rfl, hm, ho⟩; have M2 := hid hm; have P2 : Hid (OnlyP (fun c => (Value.slice sa b sc).ownBlock = some c) w1 w2) := hid (ho.toP (fun _ h => h)); have M1b := hid (P2.out.mkd M1.out (fun c h1 h2 => AP.out.ls c h1 h2)); have R3 := hid (R2.out.keep P2.out (fun c h1 h2 => AP.out.inn c (.inr (.inl h2)) h1)); have X3 := hid (P2.out.ints X2.out (fun c h1 h2 => AP.out.sx c h2 h1)); have N3 := hid (P2.out.ints N2.out (fun c h1 h2 => AP.out.sn c h2 h1)); have Q2 := hid ((ho.block _ (fun h => LT.out _ (.inl (.inr (.inl h))) rfl)).trans Q1.out); obtain ⟨a0, a1, a2, a3, a4, a5, a6, a7⟩ := eight_cells Q2.out; clear hm ho)
    | (go_at_call 86; refine (markRowS_own B B n _ xv nv p q (k + a + b) _ k2 (by omega) hn AP.out.row (R3.out.start _)).mono ?_; rintro r w3 ⟨rfl, hm⟩; have M3 := hid hm; have P3 := hid hm.fr; have M1c := hid (P3.out.mkd M1b.out (fun c h1 h2 => AP.out.inn c (.inl h1) h2)); have M2c := hid (P3.out.mkd M2.out (fun c h1 h2 => AP.out.inn c (.inr (.inl h1)) h2)); have X4 := hid (P3.out.ints X3.out (fun c h1 h2 => AP.out.inn c (.inr (.inr (.inl h1))) h2)); have N4 := hid (P3.out.ints N3.out (fun c h1 h2 => AP.out.inn c (.inr (.inr (.inr h1))) h2)); have Q3 := hid ((P3.out.block _ (lt_of_block Q2.out) (fun h => LT.out _ (.inr h) rfl)).trans Q2.out); obtain ⟨a0, a1, a2, a3, a4, a5, a6, a7⟩ := eight_cells Q3.out; clear hm)
    | (go_at_call 87; refine (markRow_own B btr bnx _ _ e f (k + a + b + tot p q n) _ k3 (by omega) X4.out N4.out AP.out.xn).mono ?_; rintro r w4 ⟨rfl, hm, ho⟩; have M4 := hid hm; have P4 := hid ho; clear hm ho))
  go_ret
  refine ⟨rfl, ⟨P4.out.mkd M1c.out (fun c h1 h2 => ?_), P4.out.mkd M2c.out (fun c h1 h2 => ?_), M3.out.keep P4.out (fun c h1 h2 => ?_), M4.out.1, M4.out.2⟩, ?_⟩
  · rcases h2 with h2 | h2
    · exact AP.out.lx c h1 h2
    · exact AP.out.ln c h1 h2
  · rcases h2 with h2 | h2
    · exact AP.out.sx c h1 h2
    · exact AP.out.sn c h1 h2
  · rcases h2 with h2 | h2
    · exact AP.out.inn c (.inr (.inr (.inl h2))) h1
    · exact AP.out.inn c (.inr (.inr (.inr h2))) h1
  · refine ((((BP.out.mono (fun _ h => h.elim)).trans (P1.out.mono (fun c h => .inl (.inl h)))).trans (P2.out.mono (fun c h => .inl (.inr (.inl h))))).trans (P3.out.mono (fun c h => .inr h))).trans (P4.out.mono (fun c h => ?_))
    rcases h with h | h
    · exact .inl (.inr (.inr (.inl h)))
    · exact .inl (.inr (.inr (.inr h)))

set_option maxRecDepth 100000 in
set_option maxHeartbeats 4000000 in
theorem heldTable_own (B : Nat) (sg btr bnx : Int) (lv sv rv bx bn : Value) (a b n e f : Nat) (xv nv : Nat → Value) (p q : Nat → Nat) (k : Int) (w : World) (hk : 0 ≤ k) (hb : k + a + b + tot p q n + e + f ≤ 1099511627776) (hn : n ≤ 2000000000) (h : TMk w B lv sv rv bx bn a b n e f xv nv p q k) :
    Calls Tryz.prog 31 #[.agg #[.int .i64 sg, lv, sv, rv, .int .i64 btr, bx, bn, .int .i64 bnx], .int .i64 k] w fun r w' => r = .returned (.int .i64 (k + a + b + tot p q n + e + f)) ∧ Below w.heap.size w w' := by
  have HH := hid h
  obtain ⟨fs, hrr, _⟩ := h.r.row
  obtain ⟨la, lc, hl⟩ := h.l.any
  obtain ⟨sa, sc, hs⟩ := h.s.any
  obtain ⟨ra, rc, hr⟩ := own_any hrr
  obtain ⟨xa, xc, hx⟩ := h.x.any
  obtain ⟨na, nc, hnn⟩ := h.n.any
  clear hrr h
  subst hl
  subst hs
  subst hr
  subst hx
  subst hnn
  obtain ⟨W, hW⟩ : ∃ W, W = w.alloc (.cells #[.int .i64 sg, .slice la a lc, .slice sa b sc, .slice ra n rc, .int .i64 btr, .slice xa e xc, .slice na f nc, .int .i64 bnx] 46) := ⟨_, rfl⟩
  have bW : Below w.heap.size w W := by rw [hW]; exact below1 _ _
  have C1 := hid (heldInt_own B _ a k W hk (by omega) (HH.out.l.below bW))
  have C2 := hid (heldInt_own B _ b (k + a) W (by omega) (by omega) (HH.out.s.below bW))
  have C3 := hid (heldRowS_own W B B n _ xv nv p q (k + a + b) W (by omega) (by omega) hn (HH.out.r.keep (P := fun _ => False) (Below.toP bW) (fun _ _ h => h)))
  have C4 := hid (heldRow_own B btr bnx _ _ e f (k + a + b + tot p q n) W (by omega) (by omega) (HH.out.x.below bW) (HH.out.n.below bW))
  have BW := hid bW
  have HW := hid hW
  rw [hW] at C1 C2 C3 C4
  have p1 : ¬ (k + a : Int) < 0 := by omega
  have p2 : ¬ (k + a + b : Int) < 0 := by omega
  have p3 : ¬ (k + a + b + tot p q n : Int) < 0 := by omega
  have p4 : ¬ (k + a + b + tot p q n + e + f : Int) < 0 := by omega
  clear hW bW
  go_enter Tryz.func31, Tryz.ntmps31
  go_wp2_with (first
    | (go_at_call_of 88 (Value.slice la a lc); refine C1.out.mono ?_; rintro r w1 ⟨rfl, hw⟩; obtain rfl := hw.symm)
    | (go_at_call_of 88 (Value.slice sa b sc); refine C2.out.mono ?_; rintro r w2 ⟨rfl, hw⟩; obtain rfl := hw.symm)
    | (go_at_call 89; refine C3.out.mono ?_; rintro r w3 ⟨rfl, hw⟩; obtain rfl := hw.symm)
    | (go_at_call 90; refine C4.out.mono ?_; rintro r w4 ⟨rfl, hb⟩; have B4 := hid (BW.out.trans (by rw [HW.out]; exact hb.mono (by simp))); clear hb))
  go_ret
  exact ⟨rfl, B4.out⟩
end Go.Proofs.YtiimkhepplkocaaGreat
