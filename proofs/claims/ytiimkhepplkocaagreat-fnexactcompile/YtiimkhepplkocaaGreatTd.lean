import Derived.Test.YtiimkhepplkocaaGreatZt11a
import Derived.Test.YtiimkhepplkocaaGreatZ18
import Derived.Test.YtiimkhepplkocaaGreatZt10
import Derived.Test.YtiimkhepplkocaaGreatZt11
namespace Go.Proofs.YtiimkhepplkocaaGreat
open Go.RowKit Go.Sort
set_option linter.unusedVariables false
attribute [local go_sem ↓] Go.wp_at_zero Go.wp_at_succ

def tb0 : TbD := ⟨0, [], [], [], rw0⟩
/-- What Compile answers, for any chart. -/
def tbC (ss : List StD) (ts : List TrD) (l : LimD) : TbD := if (checkOf ss ts l).1 = 0 then tblX ss ts l.s.toNat else tb0
theorem row_len {ss : List StD} {ts : List TrD} {l : LimD} (hC : Chk ss ts l) {leaf : Nat} (hl : leaf < ss.length) {q : Nat} (hq : Way ss ts leaf q) : (rowX ss ts leaf q).ex.length ≤ 400 ∧ (rowX ss ts leaf q).en.length ≤ 400 := by
  have n2 := hC.good.n2
  have h2 := hC.tgt q hq.lt
  unfold rowX exX enX
  by_cases he : (ts.getD q tr0).target = -1
  · rw [if_pos he, if_pos he]; simp
  · rw [if_neg he, if_neg he]
    have ht : (ts.getD q tr0).target.toNat < ss.length := by omega
    have h3 := below_len hC.good.tree hl (dom ss (ts.getD q tr0).src.toNat (ts.getD q tr0).target.toNat)
    have h4 := below_len hC.good.tree ht (dom ss (ts.getD q tr0).src.toNat (ts.getD q tr0).target.toNat)
    have h5 := down_len hC.good (ss.length - (ts.getD q tr0).target.toNat) (ts.getD q tr0).target.toNat ht rfl
    simp only [exitsOf, entersOf, List.length_append, List.length_reverse]
    omega
theorem cells_row {ss : List StD} {ts : List TrD} {l : LimD} (hC : Chk ss ts l) {sg : Nat} {L : List Nat} (hL : ∀ x, x ∈ L → x < ss.length) : ∀ r, r ∈ (cellsX ss ts sg L).flatten → r.ex.length ≤ 400 ∧ r.en.length ≤ 400 := by
  intro r hr
  obtain ⟨c, hc, hrc⟩ := List.mem_flatten.1 hr
  unfold cellsX at hc
  simp only [List.mem_flatMap, List.mem_map, List.mem_range] at hc
  obtain ⟨x, hx, s, _, rfl⟩ := hc
  unfold rowsX at hrc
  obtain ⟨q, hq, rfl⟩ := List.mem_map.1 hrc
  exact row_len hC (hL x hx) (way_of hC (hL x hx) hq)
theorem tblX_len {ss : List StD} {ts : List TrD} {l : LimD} (hC : Chk ss ts l) {sg : Nat} (hs : sg ≤ 64) : (tblX ss ts sg).lv.length ≤ 200 ∧ (tblX ss ts sg).st.length ≤ 12801 ∧ (tblX ss ts sg).rw.length ≤ 1280000000 ∧ (tblX ss ts sg).bt.ex.length = 0 ∧ (tblX ss ts sg).bt.en.length ≤ 201 := by
  have n2 := hC.good.n2
  have h1 := leaves_len ss ss.length
  have h2 : (cellsX ss ts sg (leavesOf ss ss.length)).length ≤ 200 * 64 := by
    rw [cellsX_len]
    exact Nat.mul_le_mul (by omega) hs
  have h3 := flat_len (C := cellsX ss ts sg (leavesOf ss ss.length)) (m := 100000) (cellsX_mem hC (leaves_lt ss ss.length))
  have h4 := Nat.mul_le_mul h2 (Nat.le_refl 100000)
  have h5 := bootOf_len hC.good
  have h6 : (stOf (cellsX ss ts sg (leavesOf ss ss.length))).length = (cellsX ss ts sg (leavesOf ss ss.length)).length + 1 := by unfold stOf; rw [List.length_append, stB_len, List.length_singleton]
  refine ⟨?_, ?_, ?_, rfl, ?_⟩
  · show (leavesOf ss ss.length).length ≤ 200
    omega
  · show (stOf (cellsX ss ts sg (leavesOf ss ss.length))).length ≤ 12801
    omega
  · show (cellsX ss ts sg (leavesOf ss ss.length)).flatten.length ≤ 1280000000
    omega
  · exact h5
theorem tbC_fits (ss : List StD) (ts : List TrD) (l : LimD) : TabFits (tbC ss ts l) ∧ (tbC ss ts l).lv.length ≤ 200 ∧ (tbC ss ts l).st.length ≤ 12801 ∧ (tbC ss ts l).rw.length ≤ 1280000000 ∧ (tbC ss ts l).bt.ex.length = 0 ∧ (tbC ss ts l).bt.en.length ≤ 201 := by
  unfold tbC
  by_cases hc : (checkOf ss ts l).1 = 0
  · rw [if_pos hc]
    have hC := chk_of hc
    have hlim := hC.lim.2.1
    have hL := tblX_len (ts := ts) hC (sg := l.s.toNat) (by omega)
    refine ⟨⟨by omega, by omega, by omega, by omega, by omega, fun i hi => ?_⟩, hL⟩
    have hm : (tblX ss ts l.s.toNat).rw.getD i rw0 ∈ (cellsX ss ts l.s.toNat (leavesOf ss ss.length)).flatten := by
      rw [List.getD_eq_getElem?_getD, List.getElem?_eq_getElem hi]
      exact List.getElem_mem hi
    exact cells_row hC (leaves_lt ss ss.length) _ hm
  · rw [if_neg hc]
    exact ⟨⟨by simp [tb0], by simp [tb0], by simp [tb0, rw0], by simp [tb0, rw0], by simp [tb0], fun i hi => absurd hi (by simp [tb0])⟩, by simp [tb0, rw0]⟩
theorem tot_le {p q : Nat → Nat} : ∀ {n : Nat}, (∀ i, i < n → p i ≤ 400 ∧ q i ≤ 400) → tot p q n ≤ n * 802 := by
  intro n
  induction n with
  | zero => intro _; simp [tot]
  | succ n ih =>
    intro h
    have h1 := ih (fun i hi => h i (by omega))
    have h2 := h n (by omega)
    simp only [tot]
    omega

/-- A table in memory of its own, its lists apart. -/
structure TabO (X : World) (B : Nat) (d : TbD) (lv sv rv bx bn : Value) (R : List (List Value)) : Prop where
  l : X.ownsRow B 3 1 lv d.lv.length (ints d.lv)
  s : X.ownsRow B 3 1 sv d.st.length (ints d.st)
  x : X.ownsRow B 3 1 bx d.bt.ex.length (ints d.bt.ex)
  n : X.ownsRow B 3 1 bn d.bt.en.length (ints d.bt.en)
  ri : RowsIn X B d.rw R
  ro : X.ownsRow B 44 4 rv d.rw.length R.flatten
  ap : ApT lv sv rv bx bn (xvOf R) (nvOf R) d.rw.length
section
variable {X Y : World} {B : Nat} {d : TbD} {lv sv rv bx bn : Value} {R : List (List Value)} {P : Nat → Prop}
theorem TabO.tab (h : TabO X B d lv sv rv bx bn R) : Tab X B d lv sv rv bx bn := ⟨h.l, h.s, h.x, h.n, R, h.ri, h.ro⟩
theorem TabO.below (h : TabO X B d lv sv rv bx bn R) (hb : Below X.heap.size X Y) : TabO Y B d lv sv rv bx bn R := ⟨ownsRow_below h.l hb, ownsRow_below h.s hb, ownsRow_below h.x hb, ownsRow_below h.n hb, h.ri.below hb, ownsRow_below h.ro hb, h.ap⟩
theorem TabO.base {C : Nat} (h : TabO X B d lv sv rv bx bn R) (hb : C ≤ B) : TabO X C d lv sv rv bx bn R := ⟨ownsRow_base h.l hb, ownsRow_base h.s hb, ownsRow_base h.x hb, ownsRow_base h.n hb, h.ri.base hb, ownsRow_base h.ro hb, h.ap⟩
theorem TabO.keep (h : TabO X B d lv sv rv bx bn R) (hP : OnlyP P X Y) (hn : ∀ b, TbB d lv sv rv bx bn R b → ¬ P b) : TabO Y B d lv sv rv bx bn R :=
  ⟨hP.own h.l (fun b e => hn b (.inl (.inl e))), hP.own h.s (fun b e => hn b (.inl (.inr (.inl e)))), hP.own h.x (fun b e => hn b (.inl (.inr (.inr (.inl e))))), hP.own h.n (fun b e => hn b (.inl (.inr (.inr (.inr e))))), h.ri.keep hP (fun b hi => hn b (.inr (.inr hi))), hP.own h.ro (fun b e => hn b (.inr (.inl e))), h.ap⟩
theorem TabO.lt (h : TabO X B d lv sv rv bx bn R) : ∀ b, TbB d lv sv rv bx bn R b → B ≤ b ∧ b < X.heap.size := by
  rintro b ((e | e | e | e) | e | ⟨i, hi, e | e⟩)
  · exact h.l.lt b e
  · exact h.s.lt b e
  · exact h.x.lt b e
  · exact h.n.lt b e
  · exact h.ro.lt b e
  · exact (h.ri.vals hi).1.lt b e
  · exact (h.ri.vals hi).2.lt b e
theorem TabO.far (h : TabO X B d lv sv rv bx bn R) {H : Nat} {cs : Array Value} {t : TypeId} (hb : X.heap[H]? = some (.cells cs t (0, 0))) (h1 : t ≠ 3) (h2 : t ≠ 44) : ¬ TbB d lv sv rv bx bn R H := by
  rintro ((e | e | e | e) | e | ⟨i, hi, e | e⟩)
  · exact own_tag h.l hb h1 e
  · exact own_tag h.s hb h1 e
  · exact own_tag h.x hb h1 e
  · exact own_tag h.n hb h1 e
  · exact own_tag h.ro hb h2 e
  · exact own_tag (h.ri.vals hi).1 hb h1 e
  · exact own_tag (h.ri.vals hi).2 hb h1 e
theorem ints_nat {w : World} {B : Nat} {v : Value} {l : List Nat} (h : w.ownsRow B 3 1 v l.length (ints l)) : IntsR w B 3 1 v l.length := ⟨_, h, fun j hj => ⟨(l[j]'(by omega) : Nat), by simp [ints, show j < l.length by omega]⟩⟩
theorem TabO.sh (h : TabO X B d lv sv rv bx bn R) : TSh X B lv sv rv bx bn d.lv.length d.st.length d.rw.length d.bt.ex.length d.bt.en.length (xvOf R) (nvOf R) (fun i => (d.rw.getD i rw0).ex.length) (fun i => (d.rw.getD i rw0).en.length) := by
  have h4 : ∀ i, i < R.length → (R.getD i []).length = 4 := fun i hi => by
    obtain ⟨xv, nv, e, _⟩ := h.ri.2 i (by rw [← h.ri.1]; exact hi)
    rw [e]; rfl
  refine ⟨ints_nat h.l, ints_nat h.s, ⟨⟨R.flatten, h.ro, fun i hi => ?_⟩, fun i hi => ⟨ints_nat (h.ri.vals hi).1, ints_nat (h.ri.vals hi).2⟩⟩, ints_nat h.x, ints_nat h.n⟩
  have hi' : i < R.length := by rw [h.ri.1]; exact hi
  obtain ⟨xv, nv, e, _⟩ := h.ri.2 i hi
  have f0 := flat4 h4 (i := i) (j := 0) hi' (by omega)
  have f1 := flat4 h4 (i := i) (j := 1) hi' (by omega)
  have f2 := flat4 h4 (i := i) (j := 2) hi' (by omega)
  have f3 := flat4 h4 (i := i) (j := 3) hi' (by omega)
  rw [e] at f0 f1 f2 f3
  refine ⟨⟨_, f0⟩, ?_, ?_, ⟨_, f3⟩⟩
  · rw [f1]; unfold xvOf; rw [e]; rfl
  · rw [f2]; unfold nvOf; rw [e]; rfl
theorem TbI.tabO {w : World} {HB C r : Nat} (h : TbI w HB d lv sv rv bx bn R X) (hP : OnlyP (fun b => b = r) X Y) (hr : r < w.heap.size) (hB : C ≤ w.heap.size) : TabO Y C d lv sv rv bx bn R := by
  have no : ∀ {u : Value} {t : TypeId} {k n : Nat} {xs : List Value}, X.ownsRow w.heap.size t k u n xs → Y.ownsRow C t k u n xs := fun hu => ownsRow_base (hP.own hu (fun b e e2 => by have := (hu.lt b e).1; omega)) hB
  exact ⟨no h.l, no h.s, no h.x, no h.n, (h.ri.keep hP (fun b hi e => by have := (h.inner b hi).1; omega)).base hB, no h.ro, h.ap⟩
theorem tabO_nil (X : World) (B : Nat) : TabO X B tb0 (.slice none 0 0) (.slice none 0 0) (.slice none 0 0) (.slice none 0 0) (.slice none 0 0) [] := by
  have off : ∀ u : Value, Off (.slice none 0 0) u := fun u b e => by simp [Value.ownBlock] at e
  refine ⟨World.ownsRow_nil _ _ _ _, World.ownsRow_nil _ _ _ _, World.ownsRow_nil _ _ _ _, World.ownsRow_nil _ _ _ _, ⟨rfl, fun i hi => absurd hi (by simp [tb0])⟩, World.ownsRow_nil _ _ _ _, ⟨off _, off _, off _, off _, off _, off _, fun b e => ?_, fun i j hi => absurd hi (by simp [tb0])⟩⟩
  rcases e with e | e | e | e <;> simp [Value.ownBlock] at e
theorem Mk.tabO {L : Nat} (h : Mk L X Y) (ho : TabO X B d lv sv rv bx bn R) : TabO Y B d lv sv rv bx bn R := by
  have k : ∀ {C n : Nat} {u : Value} {us : List Value}, X.ownsRow C 3 1 u n us → Y.ownsRow C 3 1 u n us := fun hu => h.own hu (by decide) (by decide) (by decide) (by decide)
  refine ⟨k ho.l, k ho.s, k ho.x, k ho.n, ⟨ho.ri.1, fun i hi => ?_⟩, h.own ho.ro (by decide) (by decide) (by decide) (by decide), ho.ap⟩
  obtain ⟨xv, nv, e, h1, h2⟩ := ho.ri.2 i hi
  exact ⟨xv, nv, e, k h1, k h2⟩
end
abbrev tagsT : List TypeId := [3, 205, 210, 65, 60, 44]
def FarT (bs : BoxL) : Prop := ∀ p ∈ bs, p.2.2 ∉ tagsT
theorem FarT.add {bs : BoxL} (h : FarT bs) {n : Nat} {c : Array Value} {t : TypeId} (ht : t ∉ tagsT) : FarT ((n, c, t) :: bs) := by
  intro p hp
  rcases List.mem_cons.mp hp with rfl | hp
  · exact ht
  · exact h p hp
theorem Boxes.mkT {L : Nat} {bs : BoxL} {X Y : World} (h : Boxes bs X) (hf : FarT bs) (hm : Mk L X Y) : Boxes bs Y := fun p hp => by
  have := hf p hp
  simp only [tagsT, List.mem_cons, List.not_mem_nil, not_or, or_false] at this
  exact hm.box (h p hp) this.2.1 this.2.2.1 this.2.2.2.1 this.2.2.2.2.1
theorem Boxes.tabs {bs : BoxL} {X Y : World} {B : Nat} {d : TbD} {lv sv rv bx bn : Value} {R : List (List Value)} (h : Boxes bs X) (hf : FarT bs) (ho : TabO X B d lv sv rv bx bn R) (hP : OnlyP (fun c => Outer lv sv bx bn c ∨ rv.ownBlock = some c ∨ Inner (xvOf R) (nvOf R) d.rw.length c) X Y) : Boxes bs Y := fun p hp => by
  have := hf p hp
  simp only [tagsT, List.mem_cons, List.not_mem_nil, not_or, or_false] at this
  exact (hP.block _ (lt_of_block (h p hp)) (ho.far (h p hp) this.1 this.2.2.2.2.2)).trans (h p hp)
abbrev tbA (d : TbD) (lv sv rv bx bn : Value) : Array Value := #[.int .i64 d.sg, lv, sv, rv, .int .i64 d.bt.tr, bx, bn, .int .i64 d.bt.nx]
/-- Behind a call that made a table, her box among the law's. -/
structure Lt (w : World) (bs : BoxL) (d : TbD) (lv sv rv xv nv : Value) (R : List (List Value)) (X : World) : Prop where
  bel : Below w.heap.size w X
  bx : Boxes bs X
  o : TabO X w.heap.size d lv sv rv xv nv R
structure Et (w : World) (bs : BoxL) (H : Nat) (X : World) : Prop where
  z : X.heap[H]? = some ZT
  lt : ∀ p ∈ bs, p.1 < H
  le : w.heap.size ≤ H
theorem Et.below {w : World} {bs : BoxL} {H : Nat} {X Y : World} (h : Et w bs H X) (hb : Below X.heap.size X Y) : Et w bs H Y := ⟨block_below h.z hb, h.lt, h.le⟩
theorem et_new {w : World} {bs : BoxL} {X : World} (h : Lw w bs X) : Et w bs X.heap.size (X.alloc ZT) := ⟨heap_alloc_new _ _, fun p hp => lt_of_block (h.bx p hp), h.bel.size⟩
theorem Boxes.set8 {bs : BoxL} {X : World} {H : Nat} {a b c d e f g i : Value} (h : Boxes bs X) (hl : ∀ p ∈ bs, p.1 < H) : Boxes bs (Proofs.YtiimkhepplkocaaGreat.set8 X H a b c d e f g i) := fun p hp => (only8.block _ (lt_of_block (h p hp)) (Nat.ne_of_lt (hl p hp))).trans (h p hp)
section
variable {w W : World} {bs : BoxL} {d : TbD} {lv sv rv bx bn : Value} {R : List (List Value)} {X Y : World} {l2 s2 r2 x2 n2 : Value} {R2 : List (List Value)} {es : List StD} {xs : List TrD} {y1 y2 : Value}
theorem Lt.below (h : Lt w bs d lv sv rv bx bn R X) (hb : Below X.heap.size X Y) : Lt w bs d lv sv rv bx bn R Y := ⟨h.bel.trans (hb.mono h.bel.size), h.bx.below hb, h.o.below hb⟩
theorem Lt.lw (h : Lt w bs d lv sv rv bx bn R X) : Lw w bs X := ⟨h.bel, h.bx⟩
theorem Lt.new (h : Lw w bs X) (ho : TabO X w.heap.size d lv sv rv bx bn R) : Lt w ((X.heap.size, tbA d lv sv rv bx bn, 46) :: bs) d lv sv rv bx bn R (X.alloc (.cells (tbA d lv sv rv bx bn) 46)) := ⟨h.bel.alloc h.bel.size _, h.bx.add _ _, ho.below (below1 _ _)⟩
theorem Lt.set {H : Nat} (h : Lw w bs X) (z : Et w bs H X) (ho : TabO X w.heap.size d lv sv rv bx bn R) : Lt w ((H, tbA d lv sv rv bx bn, 46) :: bs) d lv sv rv bx bn R (set8 X H (.int .i64 d.sg) lv sv rv (.int .i64 d.bt.tr) bx bn (.int .i64 d.bt.nx)) :=
  ⟨h.bel.trans (only8.toBelow (fun b e => by have := z.le; omega) h.bel.size), Boxes.cons (row8 z.z) (h.bx.set8 z.lt), ho.keep only8 (fun b hb e => ho.far z.z (by decide) (by decide) (by subst e; exact hb))⟩
/-- Behind the program's call: two tables, and the chart that was handed in. -/
structure LtB (w W : World) (bs : BoxL) (d : TbD) (lv sv rv xv nv : Value) (R : List (List Value)) (l2 s2 r2 x2 n2 : Value) (R2 : List (List Value)) (es : List StD) (xs : List TrD) (y1 y2 : Value) (X : World) : Prop where
  bel : Below w.heap.size w X
  bx : Boxes bs X
  os : TabO X w.heap.size d lv sv rv xv nv R
  oi : TabO X W.heap.size d l2 s2 r2 x2 n2 R2
  tt : TT X w.heap.size y1 es
  tr : TR X w.heap.size y2 xs
  lt : ∀ b, TbB d lv sv rv xv nv R b → b < W.heap.size
  wW : w.heap.size ≤ W.heap.size
theorem LtB.below (h : LtB w W bs d lv sv rv bx bn R l2 s2 r2 x2 n2 R2 es xs y1 y2 X) (hb : Below X.heap.size X Y) : LtB w W bs d lv sv rv bx bn R l2 s2 r2 x2 n2 R2 es xs y1 y2 Y :=
  ⟨h.bel.trans (hb.mono h.bel.size), h.bx.below hb, h.os.below hb, h.oi.below hb, h.tt.of_below hb, h.tr.of_below hb, h.lt, h.wW⟩
theorem LtB.mk' (h : LtB w W bs d lv sv rv bx bn R l2 s2 r2 x2 n2 R2 es xs y1 y2 X) (hf : FarT bs) (hm : Mk w.heap.size X Y) : LtB w W bs d lv sv rv bx bn R l2 s2 r2 x2 n2 R2 es xs y1 y2 Y :=
  ⟨h.bel.trans hm.below, h.bx.mkT hf hm, hm.tabO h.os, hm.tabO h.oi, hm.tt _ _ h.tt, hm.tr _ _ h.tr, h.lt, h.wW⟩
theorem LtB.marked (h : LtB w W bs d lv sv rv bx bn R l2 s2 r2 x2 n2 R2 es xs y1 y2 X) (hf : FarT bs) (hP : OnlyP (fun c => Outer l2 s2 x2 n2 c ∨ r2.ownBlock = some c ∨ Inner (xvOf R2) (nvOf R2) d.rw.length c) X Y) : Lt w bs d lv sv rv bx bn R Y :=
  ⟨h.bel.trans (hP.toBelow (fun b e => by have := (h.oi.lt b e).1; have := h.wW; omega) h.bel.size), h.bx.tabs hf h.oi hP, h.os.keep hP (fun b hb e => by have := h.lt b hb; have := (h.oi.lt b e).1; omega)⟩
end
/-- What marking a table counts up to. -/
def mT (d : TbD) : Int := 1 + d.lv.length + d.st.length + tot (fun i => (d.rw.getD i rw0).ex.length) (fun i => (d.rw.getD i rw0).en.length) d.rw.length + d.bt.ex.length + d.bt.en.length
theorem mT_bd (ss : List StD) (ts : List TrD) (l : LimD) : 0 ≤ mT (tbC ss ts l) ∧ mT (tbC ss ts l) ≤ 1099511627776 ∧ (tbC ss ts l).rw.length ≤ 2000000000 := by
  obtain ⟨hf, h1, h2, h3, h4, h5⟩ := tbC_fits ss ts l
  have h6 := tot_le (p := fun i => ((tbC ss ts l).rw.getD i rw0).ex.length) (q := fun i => ((tbC ss ts l).rw.getD i rw0).en.length) (n := (tbC ss ts l).rw.length) hf.e
  unfold mT
  omega
abbrev TMkD (X : World) (B : Nat) (d : TbD) (lv sv rv bx bn : Value) (R : List (List Value)) : Prop := TMk X B lv sv rv bx bn d.lv.length d.st.length d.rw.length d.bt.ex.length d.bt.en.length (xvOf R) (nvOf R) (fun i => (d.rw.getD i rw0).ex.length) (fun i => (d.rw.getD i rw0).en.length) 1
theorem markTab {X : World} {B : Nat} {d : TbD} {lv sv rv bx bn : Value} {R : List (List Value)} (h : TabO X B d lv sv rv bx bn R) (hb : 0 ≤ mT d ∧ mT d ≤ 1099511627776 ∧ d.rw.length ≤ 2000000000) :
    Calls Tryz.prog 30 #[.agg (tbA d lv sv rv bx bn), .int .i64 1] X fun r w' => r = .returned (.int .i64 (mT d)) ∧ TMkD w' B d lv sv rv bx bn R ∧ OnlyP (fun c => Outer lv sv bx bn c ∨ rv.ownBlock = some c ∨ Inner (xvOf R) (nvOf R) d.rw.length c) X w' :=
  markTable_own B _ _ _ lv sv rv bx bn _ _ _ _ _ _ _ _ _ 1 X (by omega) hb.2.1 hb.2.2 h.ap h.sh
theorem heldTab {X : World} {B : Nat} {d : TbD} {lv sv rv bx bn : Value} {R : List (List Value)} (h : TMkD X B d lv sv rv bx bn R) (hb : 0 ≤ mT d ∧ mT d ≤ 1099511627776 ∧ d.rw.length ≤ 2000000000) :
    Calls Tryz.prog 31 #[.agg (tbA d lv sv rv bx bn), .int .i64 1] X fun r w' => r = .returned (.int .i64 (mT d)) ∧ Below X.heap.size X w' :=
  heldTable_own B _ _ _ lv sv rv bx bn _ _ _ _ _ _ _ _ _ 1 X (by omega) hb.2.1 hb.2.2 h
end Go.Proofs.YtiimkhepplkocaaGreat
namespace Go.Proofs.YtiimkhepplkocaaGreat
open Go.RowKit Go.Sort
set_option linter.unusedVariables false
attribute [local go_sem ↓] Go.wp_at_zero Go.wp_at_succ

set_option maxRecDepth 100000 in
set_option maxHeartbeats 4000000 in
theorem implCompile_no (so tq : Option Addr) (n sc tn tc : Nat) (ss : List StD) (ts : List TrD) (o s t v : Int) (w : World) (hn : n ≤ 9223372036854775807) (htn : tn ≤ 9223372036854775807) (hs : StatesOf w so n ss) (ht : TransOf w tq tn ts) (hc : ¬ (checkOf ss ts ⟨o, s, t, v⟩).1 = 0) :
    Calls Tryz.prog 10 #[.agg #[.slice so n sc, .slice tq tn tc], .agg #[.int .i64 o, .int .i64 s, .int .i64 t, .int .i64 v]] w fun e w' => e = .returned (tabV tb0 (.slice none 0 0) (.slice none 0 0) (.slice none 0 0) (.slice none 0 0) (.slice none 0 0)) ∧ Below w.heap.size w w' := by
  have EN := hid (cq_start w #[.slice so n sc, .slice tq tn tc] #[.int .i64 o, .int .i64 s, .int .i64 t, .int .i64 v])
  have C := hid (machineOf_no so tq n sc tn tc ss ts o s t v _ hn htn (hs.below EN.out.bel) (ht.below EN.out.bel) hc)
  clear hs ht hc
  go_enter Tryz.func10, Tryz.ntmps10
  go_wp2_with (go_at_call 43; refine C.out.mono ?_; rintro e w1 ⟨rfl, hb⟩; have B1 := hid (EN.out.below hb); obtain ⟨r0, r1, r2, r3, r4, r5, r6, r7⟩ := eight_cells B1.out.r; have fz := six_fr B1.out.r; have rl := lt_of_block B1.out.r; clear hb)
  obtain ⟨c0, c1, c2, c3, c4, c5, c6, c7⟩ := eight_cells (row8 (a := .int .i64 0) (b := .slice none 0 0) (c := .slice none 0 0) (d := .slice none 0 0) (e := .int .i64 0) (f := .slice none 0 0) (g := .slice none 0 0) (i := .int .i64 0) B1.out.r)
  refine bodyPost_ret (v := tabV tb0 (.slice none 0 0) (.slice none 0 0) (.slice none 0 0) (.slice none 0 0) (.slice none 0 0)) (by simp [results, Tryz.results10, go_sem, c0, c1, c2, c3, c4, c5, c6, c7, tb0, rw0]) rfl ?_
  exact ⟨rfl, B1.out.bel.trans (only8.toBelow (fun b e => by omega) B1.out.bel.size)⟩
set_option maxRecDepth 100000 in
set_option maxHeartbeats 4000000 in
theorem specCompile_no (so tq : Option Addr) (n sc tn tc : Nat) (ss : List StD) (ts : List TrD) (o s t v : Int) (w : World) (hn : n ≤ 9223372036854775807) (htn : tn ≤ 9223372036854775807) (hs : StatesOf w so n ss) (ht : TransOf w tq tn ts) (hc : ¬ (checkOf ss ts ⟨o, s, t, v⟩).1 = 0) :
    Calls Tryz.prog 11 #[.agg #[.slice so n sc, .slice tq tn tc], .agg #[.int .i64 o, .int .i64 s, .int .i64 t, .int .i64 v]] w fun e w' => e = .returned (tabV tb0 (.slice none 0 0) (.slice none 0 0) (.slice none 0 0) (.slice none 0 0) (.slice none 0 0)) ∧ Below w.heap.size w w' := by
  have EN := hid (cr0_start w #[.slice so n sc, .slice tq tn tc] #[.int .i64 o, .int .i64 s, .int .i64 t, .int .i64 v])
  have C := hid (specCheck_any so tq n sc tn tc ss ts o s t v _ hn htn (hs.below EN.out.bel) (ht.below EN.out.bel))
  obtain ⟨f0, hf0⟩ : ∃ f, f = (checkOf ss ts ⟨o, s, t, v⟩).1 := ⟨_, rfl⟩
  obtain ⟨f1, hf1⟩ : ∃ f, f = (checkOf ss ts ⟨o, s, t, v⟩).2 := ⟨_, rfl⟩
  rw [← hf0, ← hf1] at C
  rw [← hf0] at hc
  clear hs ht hf0 hf1
  go_enter Tryz.func11, Tryz.ntmps11
  go_wp2_with (go_at_call 48; refine C.out.mono ?_; rintro e w1 ⟨rfl, hb⟩; have B1 := hid (EN.out.below hb); obtain ⟨r0, r1, r2, r3, r4, r5, r6, r7⟩ := eight_cells B1.out.r; have fz := six_fr B1.out.r; have rl := lt_of_block B1.out.r; clear hb)
  obtain ⟨c0, c1, c2, c3, c4, c5, c6, c7⟩ := eight_cells (row8 (a := .int .i64 0) (b := .slice none 0 0) (c := .slice none 0 0) (d := .slice none 0 0) (e := .int .i64 0) (f := .slice none 0 0) (g := .slice none 0 0) (i := .int .i64 0) B1.out.r)
  refine bodyPost_ret (v := tabV tb0 (.slice none 0 0) (.slice none 0 0) (.slice none 0 0) (.slice none 0 0) (.slice none 0 0)) (by simp [results, Tryz.results11, go_sem, c0, c1, c2, c3, c4, c5, c6, c7, tb0, rw0]) rfl ?_
  exact ⟨rfl, B1.out.bel.trans (only8.toBelow (fun b e => by omega) B1.out.bel.size)⟩
theorem implCompile_any (so tq : Option Addr) (n sc tn tc : Nat) (ss : List StD) (ts : List TrD) (o s t v : Int) (w : World) (hn : n ≤ 9223372036854775807) (htn : tn ≤ 9223372036854775807) (hs : StatesOf w so n ss) (ht : TransOf w tq tn ts) :
    Calls Tryz.prog 10 #[.agg #[.slice so n sc, .slice tq tn tc], .agg #[.int .i64 o, .int .i64 s, .int .i64 t, .int .i64 v]] w fun e w' => ∃ lv sv rv bx bn R, e = .returned (tabV (tbC ss ts ⟨o, s, t, v⟩) lv sv rv bx bn) ∧ TabO w' w.heap.size (tbC ss ts ⟨o, s, t, v⟩) lv sv rv bx bn R ∧ Below w.heap.size w w' := by
  by_cases hc : (checkOf ss ts ⟨o, s, t, v⟩).1 = 0
  · have e : tbC ss ts ⟨o, s, t, v⟩ = tblX ss ts s.toNat := by unfold tbC; rw [if_pos hc]
    rw [e]
    exact (implCompile_ok so tq n sc tn tc ss ts o s t v w hn htn hs ht hc).mono (by
      rintro e w' ⟨lv, sv, rv, bx, bn, R, HB, w1, rfl, hz, ⟨X, hT, hP, hr⟩, hb⟩
      exact ⟨lv, sv, rv, bx, bn, R, rfl, hT.tabO hP hr hz, hb⟩)
  · have e : tbC ss ts ⟨o, s, t, v⟩ = tb0 := by unfold tbC; rw [if_neg hc]
    rw [e]
    exact (implCompile_no so tq n sc tn tc ss ts o s t v w hn htn hs ht hc).mono (by
      rintro e w' ⟨rfl, hb⟩
      exact ⟨_, _, _, _, _, [], rfl, tabO_nil _ _, hb⟩)
theorem specCompile_any (so tq : Option Addr) (n sc tn tc : Nat) (ss : List StD) (ts : List TrD) (o s t v : Int) (w : World) (hn : n ≤ 9223372036854775807) (htn : tn ≤ 9223372036854775807) (hs : StatesOf w so n ss) (ht : TransOf w tq tn ts) :
    Calls Tryz.prog 11 #[.agg #[.slice so n sc, .slice tq tn tc], .agg #[.int .i64 o, .int .i64 s, .int .i64 t, .int .i64 v]] w fun e w' => ∃ lv sv rv bx bn R, e = .returned (tabV (tbC ss ts ⟨o, s, t, v⟩) lv sv rv bx bn) ∧ TabO w' w.heap.size (tbC ss ts ⟨o, s, t, v⟩) lv sv rv bx bn R ∧ Below w.heap.size w w' := by
  by_cases hc : (checkOf ss ts ⟨o, s, t, v⟩).1 = 0
  · have e : tbC ss ts ⟨o, s, t, v⟩ = tblX ss ts s.toNat := by unfold tbC; rw [if_pos hc]
    rw [e]
    exact (specCompile_ok so tq n sc tn tc ss ts o s t v w hn htn hs ht hc).mono (by
      rintro e w' ⟨lv, sv, rv, bx, bn, R, HB, w1, rfl, hz, ⟨X, hT, hP, hr⟩, hb⟩
      exact ⟨lv, sv, rv, bx, bn, R, rfl, hT.tabO hP hr hz, hb⟩)
  · have e : tbC ss ts ⟨o, s, t, v⟩ = tb0 := by unfold tbC; rw [if_neg hc]
    rw [e]
    exact (specCompile_no so tq n sc tn tc ss ts o s t v w hn htn hs ht hc).mono (by
      rintro e w' ⟨rfl, hb⟩
      exact ⟨_, _, _, _, _, [], rfl, tabO_nil _ _, hb⟩)
end Go.Proofs.YtiimkhepplkocaaGreat
namespace Go.Proofs.YtiimkhepplkocaaGreat
open Go.RowKit Go.Sort
set_option linter.unusedVariables false
attribute [local go_sem ↓] Go.wp_at_zero Go.wp_at_succ

/-- What the calls of 't := Compile(..)' have made, each if it has come up: the chart's copy, the table, the box. -/
structure GT (v0 : World) (bs : BoxL) (D : TbD) (en xn : Nat) (es : List StD) (xs : List TrD) (cp tp bp : Prop) (sC sT sB : Value) (X : World) : Prop where
  lw : Lw v0 bs X
  c : cp → ∃ a b, sC = .agg #[.slice (some ⟨a, 0, none⟩) en en, .slice (some ⟨b, 0, none⟩) xn xn] ∧ StatesOf X (some ⟨a, 0, none⟩) en es ∧ TransOf X (some ⟨b, 0, none⟩) xn xs
  t : tp → ∃ lv sv rv bx bn R, sT = tabV D lv sv rv bx bn ∧ TabO X v0.heap.size D lv sv rv bx bn R
  b : bp → ∃ H, sB = .pointer (some ⟨H, 0, none⟩) ∧ Et v0 bs H X
section
variable {v0 : World} {bs : BoxL} {D : TbD} {en xn : Nat} {es : List StD} {xs : List TrD} {cp tp bp : Prop} {sC sT sB : Value} {X Y : World}
theorem GT.below (h : GT v0 bs D en xn es xs cp tp bp sC sT sB X) (hb : Below X.heap.size X Y) : GT v0 bs D en xn es xs cp tp bp sC sT sB Y :=
  ⟨h.lw.below hb, fun k => by obtain ⟨a, b, e, h1, h2⟩ := h.c k; exact ⟨a, b, e, h1.below hb, h2.below hb⟩, fun k => by obtain ⟨lv, sv, rv, bx, bn, R, e, ho⟩ := h.t k; exact ⟨lv, sv, rv, bx, bn, R, e, ho.below hb⟩, fun k => by obtain ⟨H, e, z⟩ := h.b k; exact ⟨H, e, z.below hb⟩⟩
theorem GT.imp {cp' tp' bp' : Prop} (h : GT v0 bs D en xn es xs cp tp bp sC sT sB X) (hc : cp' → cp) (ht : tp' → tp) (hb : bp' → bp) : GT v0 bs D en xn es xs cp' tp' bp' sC sT sB X := ⟨h.lw, fun k => h.c (hc k), fun k => h.t (ht k), fun k => h.b (hb k)⟩
theorem gt_start (h : Lw v0 bs X) : GT v0 bs D en xn es xs False False False sC sT sB X := ⟨h, False.elim, False.elim, False.elim⟩
theorem GT.addC {a b : Nat} (h : GT v0 bs D en xn es xs cp tp bp sC sT sB X) (h1 : StatesOf Y (some ⟨a, 0, none⟩) en es ∧ TransOf Y (some ⟨b, 0, none⟩) xn xs) (hb : Below X.heap.size X Y) : GT v0 bs D en xn es xs True tp bp (.agg #[.slice (some ⟨a, 0, none⟩) en en, .slice (some ⟨b, 0, none⟩) xn xn]) sT sB Y :=
  have k := h.below hb
  ⟨k.lw, fun _ => ⟨a, b, rfl, h1.1, h1.2⟩, k.t, k.b⟩
theorem GT.addT {lv sv rv bx bn : Value} {R : List (List Value)} (h : GT v0 bs D en xn es xs cp tp bp sC sT sB X) (ho : TabO Y X.heap.size D lv sv rv bx bn R) (hb : Below X.heap.size X Y) : GT v0 bs D en xn es xs cp True bp sC (tabV D lv sv rv bx bn) sB Y :=
  have k := h.below hb
  ⟨k.lw, k.c, fun _ => ⟨lv, sv, rv, bx, bn, R, rfl, ho.base h.lw.bel.size⟩, k.b⟩
theorem GT.addB (h : GT v0 bs D en xn es xs cp tp bp sC sT sB X) : GT v0 bs D en xn es xs cp tp True sC sT (.pointer (some ⟨X.heap.size, 0, none⟩)) (X.alloc ZT) :=
  have k := h.below (below1 X ZT)
  ⟨k.lw, k.c, k.t, fun _ => ⟨_, rfl, et_new h.lw⟩⟩
/-- 't := Compile(toChart(c), toLimits(l))', between two of its operations. -/
structure G7 (v0 : World) (bs : BoxL) (D : TbD) (en xn : Nat) (es : List StD) (xs : List TrD) (cv lv : Value) (l : Array Bool) (s0 s1 s2 s3 s4 s5 : Value) (X : World) : Prop where
  z : l.size = 7
  u : l.getD 6 false = false
  a0 : l.getD 0 false = true → s0 = cv
  a2 : l.getD 2 false = true → s2 = lv
  a3 : l.getD 3 false = true → s3 = lv
  d1 : l.getD 1 false = true → l.getD 0 false = true
  d3 : l.getD 3 false = true → l.getD 2 false = true
  d4 : l.getD 4 false = true → l.getD 1 false = true ∧ l.getD 3 false = true
  g : GT v0 bs D en xn es xs (l.getD 1 false = true) (l.getD 4 false = true) (l.getD 5 false = true) s1 s4 s5 X
variable {cv lv : Value} {l : Array Bool} {s0 s1 s2 s3 s4 s5 : Value}
theorem no_rep (n j : Nat) : ¬ (Array.replicate n false).getD j false = true := fun e => by
  by_cases h : j < n
  · simp [h] at e
  · simp [h] at e
theorem g7_start (h : Lw v0 bs X) : G7 v0 bs D en xn es xs cv lv (Array.replicate 7 false) s0 s1 s2 s3 s4 s5 X :=
  ⟨rfl, rfl, fun h => absurd h (no_rep _ _), fun h => absurd h (no_rep _ _), fun h => absurd h (no_rep _ _), fun h => absurd h (no_rep _ _), fun h => absurd h (no_rep _ _), fun h => absurd h (no_rep _ _), (gt_start h).imp (fun h => absurd h (no_rep _ _)) (fun h => absurd h (no_rep _ _)) (fun h => absurd h (no_rep _ _))⟩
theorem G7.t0 (h : G7 v0 bs D en xn es xs cv lv l s0 s1 s2 s3 s4 s5 X) : G7 v0 bs D en xn es xs cv lv (l.setIfInBounds 0 true) cv s1 s2 s3 s4 s5 X := by
  have n : ∀ j, 0 ≠ j → (l.setIfInBounds 0 true).getD j false = l.getD j false := fun j hj => set_ne hj
  refine ⟨by simpa using h.z, ?_, fun _ => rfl, ?_, ?_, fun _ => set_eq (by rw [h.z]; decide), ?_, ?_, ?_⟩
  all_goals simp only [n 1 (by decide), n 2 (by decide), n 3 (by decide), n 4 (by decide), n 5 (by decide), n 6 (by decide)]
  · exact h.u
  · exact h.a2
  · exact h.a3
  · exact h.d3
  · exact h.d4
  · exact h.g
theorem G7.t2 (h : G7 v0 bs D en xn es xs cv lv l s0 s1 s2 s3 s4 s5 X) : G7 v0 bs D en xn es xs cv lv (l.setIfInBounds 2 true) s0 s1 lv s3 s4 s5 X := by
  have n : ∀ j, 2 ≠ j → (l.setIfInBounds 2 true).getD j false = l.getD j false := fun j hj => set_ne hj
  refine ⟨by simpa using h.z, ?_, ?_, fun _ => rfl, ?_, ?_, fun _ => set_eq (by rw [h.z]; decide), ?_, ?_⟩
  all_goals simp only [n 0 (by decide), n 1 (by decide), n 3 (by decide), n 4 (by decide), n 5 (by decide), n 6 (by decide)]
  · exact h.u
  · exact h.a0
  · exact h.a3
  · exact h.d1
  · exact h.d4
  · exact h.g
theorem G7.t1 {a b : Nat} (h : G7 v0 bs D en xn es xs cv lv l s0 s1 s2 s3 s4 s5 X) (h0 : l.getD 0 false = true) (h1 : StatesOf Y (some ⟨a, 0, none⟩) en es ∧ TransOf Y (some ⟨b, 0, none⟩) xn xs) (hb : Below X.heap.size X Y) : G7 v0 bs D en xn es xs cv lv (l.setIfInBounds 1 true) s0 (.agg #[.slice (some ⟨a, 0, none⟩) en en, .slice (some ⟨b, 0, none⟩) xn xn]) s2 s3 s4 s5 Y := by
  have n : ∀ j, 1 ≠ j → (l.setIfInBounds 1 true).getD j false = l.getD j false := fun j hj => set_ne hj
  refine ⟨by simpa using h.z, ?_, ?_, ?_, ?_, ?_, ?_, ?_, ?_⟩
  all_goals simp only [n 0 (by decide), n 2 (by decide), n 3 (by decide), n 4 (by decide), n 5 (by decide), n 6 (by decide)]
  · exact h.u
  · exact h.a0
  · exact h.a2
  · exact h.a3
  · exact fun _ => h0
  · exact h.d3
  · exact fun k => ⟨set_eq (by rw [h.z]; decide), (h.d4 k).2⟩
  · exact (h.g.addC h1 hb).imp (fun _ => trivial) id id
theorem G7.t3 (h : G7 v0 bs D en xn es xs cv lv l s0 s1 s2 s3 s4 s5 X) (h2 : l.getD 2 false = true) (hb : Below X.heap.size X Y) : G7 v0 bs D en xn es xs cv lv (l.setIfInBounds 3 true) s0 s1 s2 lv s4 s5 Y := by
  have n : ∀ j, 3 ≠ j → (l.setIfInBounds 3 true).getD j false = l.getD j false := fun j hj => set_ne hj
  refine ⟨by simpa using h.z, ?_, ?_, ?_, fun _ => rfl, ?_, ?_, ?_, ?_⟩
  all_goals simp only [n 0 (by decide), n 1 (by decide), n 2 (by decide), n 4 (by decide), n 5 (by decide), n 6 (by decide)]
  · exact h.u
  · exact h.a0
  · exact h.a2
  · exact h.d1
  · exact fun _ => h2
  · exact fun k => ⟨(h.d4 k).1, set_eq (by rw [h.z]; decide)⟩
  · exact h.g.below hb
theorem G7.t4 {tl ts tr tx tn : Value} {R : List (List Value)} (h : G7 v0 bs D en xn es xs cv lv l s0 s1 s2 s3 s4 s5 X) (h1 : l.getD 1 false = true) (h3 : l.getD 3 false = true) (ho : TabO Y X.heap.size D tl ts tr tx tn R) (hb : Below X.heap.size X Y) : G7 v0 bs D en xn es xs cv lv (l.setIfInBounds 4 true) s0 s1 s2 s3 (tabV D tl ts tr tx tn) s5 Y := by
  have n : ∀ j, 4 ≠ j → (l.setIfInBounds 4 true).getD j false = l.getD j false := fun j hj => set_ne hj
  refine ⟨by simpa using h.z, ?_, ?_, ?_, ?_, ?_, ?_, ?_, ?_⟩
  all_goals simp only [n 0 (by decide), n 1 (by decide), n 2 (by decide), n 3 (by decide), n 5 (by decide), n 6 (by decide)]
  · exact h.u
  · exact h.a0
  · exact h.a2
  · exact h.a3
  · exact h.d1
  · exact h.d3
  · exact fun _ => ⟨h1, h3⟩
  · exact (h.g.addT ho hb).imp id (fun _ => trivial) id
theorem G7.t5 (h : G7 v0 bs D en xn es xs cv lv l s0 s1 s2 s3 s4 s5 X) : G7 v0 bs D en xn es xs cv lv (l.setIfInBounds 5 true) s0 s1 s2 s3 s4 (.pointer (some ⟨X.heap.size, 0, none⟩)) (X.alloc ZT) := by
  have n : ∀ j, 5 ≠ j → (l.setIfInBounds 5 true).getD j false = l.getD j false := fun j hj => set_ne hj
  refine ⟨by simpa using h.z, ?_, ?_, ?_, ?_, ?_, ?_, ?_, ?_⟩
  all_goals simp only [n 0 (by decide), n 1 (by decide), n 2 (by decide), n 3 (by decide), n 4 (by decide), n 6 (by decide)]
  · exact h.u
  · exact h.a0
  · exact h.a2
  · exact h.a3
  · exact h.d1
  · exact h.d3
  · exact h.d4
  · exact h.g.addB.imp id id (fun _ => trivial)
theorem G7.all (h : G7 v0 bs D en xn es xs cv lv l s0 s1 s2 s3 s4 s5 X) (h4 : l.getD 4 false = true) (h5 : l.getD 5 false = true) : l.setIfInBounds 6 true = Array.replicate 7 true := by
  obtain ⟨h1, h3⟩ := h.d4 h4
  have h0 := h.d1 h1
  have h2 := h.d3 h3
  have z := h.z
  apply Array.ext
  · simp [z]
  · intro i hi hj
    have hi7 : i < 7 := by simpa [z] using hi
    rcases (show i = 0 ∨ i = 1 ∨ i = 2 ∨ i = 3 ∨ i = 4 ∨ i = 5 ∨ i = 6 by omega) with rfl | rfl | rfl | rfl | rfl | rfl | rfl
    all_goals simp_all
/-- 't := Compile(c, toLimits(l))', between two of its operations. -/
structure G6 (v0 : World) (bs : BoxL) (D : TbD) (en xn : Nat) (es : List StD) (xs : List TrD) (cv lv : Value) (l : Array Bool) (s0 s1 s2 s3 s4 : Value) (X : World) : Prop where
  z : l.size = 6
  u : l.getD 5 false = false
  a0 : l.getD 0 false = true → s0 = cv
  a1 : l.getD 1 false = true → s1 = lv
  a2 : l.getD 2 false = true → s2 = lv
  d2 : l.getD 2 false = true → l.getD 1 false = true
  d3 : l.getD 3 false = true → l.getD 0 false = true ∧ l.getD 2 false = true
  g : GT v0 bs D en xn es xs False (l.getD 3 false = true) (l.getD 4 false = true) undef s3 s4 X
theorem g6_start (h : Lw v0 bs X) : G6 v0 bs D en xn es xs cv lv (Array.replicate 6 false) s0 s1 s2 s3 s4 X :=
  ⟨rfl, rfl, fun h => absurd h (no_rep _ _), fun h => absurd h (no_rep _ _), fun h => absurd h (no_rep _ _), fun h => absurd h (no_rep _ _), fun h => absurd h (no_rep _ _), (gt_start h).imp id (fun h => absurd h (no_rep _ _)) (fun h => absurd h (no_rep _ _))⟩
theorem G6.t0 (h : G6 v0 bs D en xn es xs cv lv l s0 s1 s2 s3 s4 X) : G6 v0 bs D en xn es xs cv lv (l.setIfInBounds 0 true) cv s1 s2 s3 s4 X := by
  have n : ∀ j, 0 ≠ j → (l.setIfInBounds 0 true).getD j false = l.getD j false := fun j hj => set_ne hj
  refine ⟨by simpa using h.z, ?_, fun _ => rfl, ?_, ?_, ?_, ?_, ?_⟩
  all_goals simp only [n 1 (by decide), n 2 (by decide), n 3 (by decide), n 4 (by decide), n 5 (by decide)]
  · exact h.u
  · exact h.a1
  · exact h.a2
  · exact h.d2
  · exact fun k => ⟨set_eq (by rw [h.z]; decide), (h.d3 k).2⟩
  · exact h.g
theorem G6.t1 (h : G6 v0 bs D en xn es xs cv lv l s0 s1 s2 s3 s4 X) : G6 v0 bs D en xn es xs cv lv (l.setIfInBounds 1 true) s0 lv s2 s3 s4 X := by
  have n : ∀ j, 1 ≠ j → (l.setIfInBounds 1 true).getD j false = l.getD j false := fun j hj => set_ne hj
  refine ⟨by simpa using h.z, ?_, ?_, fun _ => rfl, ?_, fun _ => set_eq (by rw [h.z]; decide), ?_, ?_⟩
  all_goals simp only [n 0 (by decide), n 2 (by decide), n 3 (by decide), n 4 (by decide), n 5 (by decide)]
  · exact h.u
  · exact h.a0
  · exact h.a2
  · exact h.d3
  · exact h.g
theorem G6.t2 (h : G6 v0 bs D en xn es xs cv lv l s0 s1 s2 s3 s4 X) (h1 : l.getD 1 false = true) (hb : Below X.heap.size X Y) : G6 v0 bs D en xn es xs cv lv (l.setIfInBounds 2 true) s0 s1 lv s3 s4 Y := by
  have n : ∀ j, 2 ≠ j → (l.setIfInBounds 2 true).getD j false = l.getD j false := fun j hj => set_ne hj
  refine ⟨by simpa using h.z, ?_, ?_, ?_, fun _ => rfl, ?_, ?_, ?_⟩
  all_goals simp only [n 0 (by decide), n 1 (by decide), n 3 (by decide), n 4 (by decide), n 5 (by decide)]
  · exact h.u
  · exact h.a0
  · exact h.a1
  · exact fun _ => h1
  · exact fun k => ⟨(h.d3 k).1, set_eq (by rw [h.z]; decide)⟩
  · exact h.g.below hb
theorem G6.t3 {tl ts tr tx tn : Value} {R : List (List Value)} (h : G6 v0 bs D en xn es xs cv lv l s0 s1 s2 s3 s4 X) (h0 : l.getD 0 false = true) (h2 : l.getD 2 false = true) (ho : TabO Y X.heap.size D tl ts tr tx tn R) (hb : Below X.heap.size X Y) : G6 v0 bs D en xn es xs cv lv (l.setIfInBounds 3 true) s0 s1 s2 (tabV D tl ts tr tx tn) s4 Y := by
  have n : ∀ j, 3 ≠ j → (l.setIfInBounds 3 true).getD j false = l.getD j false := fun j hj => set_ne hj
  refine ⟨by simpa using h.z, ?_, ?_, ?_, ?_, ?_, ?_, ?_⟩
  all_goals simp only [n 0 (by decide), n 1 (by decide), n 2 (by decide), n 4 (by decide), n 5 (by decide)]
  · exact h.u
  · exact h.a0
  · exact h.a1
  · exact h.a2
  · exact h.d2
  · exact fun _ => ⟨h0, h2⟩
  · exact (h.g.addT ho hb).imp id (fun _ => trivial) id
theorem G6.t4 (h : G6 v0 bs D en xn es xs cv lv l s0 s1 s2 s3 s4 X) : G6 v0 bs D en xn es xs cv lv (l.setIfInBounds 4 true) s0 s1 s2 s3 (.pointer (some ⟨X.heap.size, 0, none⟩)) (X.alloc ZT) := by
  have n : ∀ j, 4 ≠ j → (l.setIfInBounds 4 true).getD j false = l.getD j false := fun j hj => set_ne hj
  refine ⟨by simpa using h.z, ?_, ?_, ?_, ?_, ?_, ?_, ?_⟩
  all_goals simp only [n 0 (by decide), n 1 (by decide), n 2 (by decide), n 3 (by decide), n 5 (by decide)]
  · exact h.u
  · exact h.a0
  · exact h.a1
  · exact h.a2
  · exact h.d2
  · exact h.d3
  · exact h.g.addB.imp id id (fun _ => trivial)
theorem G6.all (h : G6 v0 bs D en xn es xs cv lv l s0 s1 s2 s3 s4 X) (h3 : l.getD 3 false = true) (h4 : l.getD 4 false = true) : l.setIfInBounds 5 true = Array.replicate 6 true := by
  obtain ⟨h0, h2⟩ := h.d3 h3
  have h1 := h.d2 h2
  have z := h.z
  apply Array.ext
  · simp [z]
  · intro i hi hj
    have hi7 : i < 6 := by simpa [z] using hi
    rcases (show i = 0 ∨ i = 1 ∨ i = 2 ∨ i = 3 ∨ i = 4 ∨ i = 5 by omega) with rfl | rfl | rfl | rfl | rfl | rfl
    all_goals simp_all
end
end Go.Proofs.YtiimkhepplkocaaGreat
