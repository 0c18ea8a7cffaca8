import Derived.Test.YthaklmdhkkfigaaGreatKy6
import Derived.Test.YthaklmdhkkfigaaGreatYc
import Derived.Test.YthaklmdhkkfigaaGreatZa
import Derived.Test.YthaklmdhkkfigaaGreatKx11
import Derived.Test.YthaklmdhkkfigaaGreatXf
import Derived.Test.YthaklmdhkkfigaaGreatUb
import Derived.Test.YthaklmdhkkfigaaGreatKz8
namespace Go.Proofs.YthaklmdhkkfigaaGreat
open Go.RowKit Go.Sort
set_option linter.unusedVariables false

section
variable {X Y : World} {L U U' B : Nat}
theorem TN.up {t : TypeId} {sz : Nat} {v : Value} {n : Nat} (h : TN X L U t sz v n) (hU : U ≤ U') : TN X L U' t sz v n := by
  obtain ⟨g, F, h1, h2⟩ := h
  exact ⟨g, F, ⟨h1.1, by omega⟩, h2⟩
theorem TO.up {v : Value} {os : List ObD} (h : TO X L U v os) (hU : U ≤ U') : TO X L U' v os := by
  obtain ⟨g, F, h1, h2, h3, h4⟩ := h
  exact ⟨g, F, ⟨h1.1, by omega⟩, h2, h3, fun i hi => ⟨(h4 i hi).1, ⟨(h4 i hi).2.1.1.up hU, (h4 i hi).2.1.2.1.up hU, (h4 i hi).2.1.2.2.up hU⟩, (h4 i hi).2.2⟩⟩
theorem SyT.of_below {v1 v2 : Value} {os : List ObD} {n : Nat} (h : SyT X L U v1 v2 os n) (hb : Below X.heap.size X Y) : SyT Y L U v1 v2 os n := ⟨h.o.of_below hb, h.t.of_below hb⟩
theorem row_mj {e : TypeId} {size n : Nat} {v : Value} {xs : List Value} (h : X.ownsRow B e size v n xs) (m : Mj L U X Y) (hU : U ≤ B) (he : notC e) : Y.ownsRow B e size v n xs := by
  refine row_same h (fun b hb e1 => ?_)
  rcases h.2 with ⟨h0, _⟩ | ⟨g, cap, cur, h1, _, h3, _⟩
  · rw [h0] at e1; cases e1
  · have hl := (h.lt b e1).1
    rw [h1] at e1
    simp [Value.ownBlock] at e1
    subst e1
    exact m.other _ _ _ _ h3 he (.inl (by omega))
theorem fin_rc : notC 106 := ⟨by decide, by decide, by decide, by decide⟩
theorem Rw.mj {L1 V Q D E F : Value} {vs vq vd : List Value} {k : KerD} (h : Rw X B L1 V Q D E F vs vq vd k) (m : Mj L U X Y) (hU : U ≤ B) : Rw Y B L1 V Q D E F vs vq vd k :=
  ⟨row_mj h.l m hU fin_int, ⟨row_mj h.v.row m hU fin_ii.1, h.v.len, fun i hi => row_mj (h.v.inn i hi) m hU fin_int⟩, ⟨row_mj h.q.row m hU fin_ee.1, h.q.len, fun i hi => row_mj (h.q.inn i hi) m hU fin_ev⟩, ⟨row_mj h.d.row m hU fin_ee.1, h.d.len, fun i hi => row_mj (h.d.inn i hi) m hU fin_ev⟩, row_mj h.e m hU fin_int, row_mj h.f m hU fin_int⟩
theorem Rw.ker {h : KerS} {vs vq vd : List Value} {k : KerD} (g : Rw X B (.slice h.lo h.ln h.lc) (.slice h.vo h.vn h.vc) (.slice h.qo h.qn h.qc) (.slice h.po h.pn h.pc) (.slice h.eo h.en h.ec) (.slice h.fo h.fn h.fc) vs vq vd k) : KerOf X h k := ⟨ints_slice g.l, g.v.nest, g.q.nest, g.d.nest, ints_slice g.e, ints_slice g.f⟩
theorem ints_rc {v : Value} {rs : List (Int × Int × Int)} (h : RcRow X B v rs) : IntsR X B 106 3 v rs.length := ⟨_, h, fun j hj => by
  have hm : j / 3 < rs.length := by omega
  obtain ⟨e1, e2, e3⟩ := rcC_get rs (j / 3) hm
  have hp : j % 3 = 0 ∨ j % 3 = 1 ∨ j % 3 = 2 := by omega
  rcases hp with hp | hp | hp
  · rw [show j / 3 * 3 = j by omega] at e1; exact ⟨_, e1⟩
  · rw [show j / 3 * 3 + 1 = j by omega] at e2; exact ⟨_, e2⟩
  · rw [show j / 3 * 3 + 2 = j by omega] at e3; exact ⟨_, e3⟩⟩
end
theorem row_ow {X Y : World} {B C : Nat} {e : TypeId} {size n : Nat} {v : Value} {xs : List Value} (h : X.ownsRow C e size v n xs) (m : Ow B X Y) (h1 : e ≠ 3 := by decide) (h2 : e ≠ 70 := by decide) : Y.ownsRow C e size v n xs := by
  refine row_same h (fun b hb e1 => ?_)
  rcases h.2 with ⟨h0, _⟩ | ⟨g, cap, cur, k1, _, k3, _⟩
  · rw [h0] at e1; cases e1
  · rw [k1] at e1
    simp [Value.ownBlock] at e1
    subst e1
    exact m.other _ _ _ _ k3 h1 h2
theorem mkd_below {X Y : World} {B : Nat} {e : TypeId} {size n : Nat} {v : Value} {k : Int} (h : MkdR X B e size v n k) (hb : Below X.heap.size X Y) : MkdR Y B e size v n k := by
  obtain ⟨xs, ho, hz⟩ := h
  exact ⟨xs, ownsRow_below ho hb, hz⟩
theorem sumTo_bd {f : Nat → Nat} {M : Nat} : ∀ n, (∀ i, i < n → f i ≤ M) → sumTo f n ≤ n * M
  | 0, _ => by simp [sumTo]
  | n + 1, h => by
    have h1 := sumTo_bd n (fun i hi => h i (by omega))
    have h2 := h n (by omega)
    have h3 := sumTo_step f (k := n) (m := f n) rfl
    rw [h3, Nat.add_mul]
    omega
/-- An answer that is small. -/
structure Small (r : KerD × List (Int × Int × Int)) : Prop where
  fits : FitsKer r.1
  v : r.1.vals.length ≤ 64
  q : r.1.qs.length ≤ 64
  d : r.1.ds.length ≤ 64
  rs : r.2.length ≤ 1048576
theorem small_sum {α : Type} {l : List (List α)} (h : FitsN l) (hl : l.length ≤ 64) {n : Nat} (hn : n = l.length) : sumTo (fun i => (l.map List.length).getD i 0) n ≤ 67108864 := by
  subst hn
  have := sumTo_bd (f := fun i => (l.map List.length).getD i 0) (M := 1048576) l.length (fun i hi => by
    show (l.map List.length).getD i 0 ≤ 1048576
    rw [show (l.map List.length).getD i 0 = (l.getD i []).length by simp [List.getD_eq_getElem?_getD, hi]]
    exact h.2 i hi)
  have h2 : l.length * 1048576 ≤ 64 * 1048576 := Nat.mul_le_mul_right _ hl
  omega
/-- A kernel's six slices, as cells. -/
abbrev kerA (h : KerS) : Array Value := #[.slice h.lo h.ln h.lc, .slice h.vo h.vn h.vc, .slice h.qo h.qn h.qc, .slice h.po h.pn h.pc, .slice h.eo h.en h.ec, .slice h.fo h.fn h.fc]
/-- The law's boxes and the model's answer. -/
structure LP (w : World) (c d : Array Value) (H : Nat) (k : KerS) (ra : Option Addr) (rn : Nat) (r : KerD × List (Int × Int × Int)) (X : World) : Prop where
  bx : LKBox w X c d
  b12 : X.heap[H]? = some (.cells (kerA k) 35 (0, 0))
  ko : KerOf X k r.1
  ro : RecsOf X ra rn r.2
section
variable {w X Y : World} {c d : Array Value} {H : Nat} {k : KerS} {ra : Option Addr} {rn rc : Nat} {r : KerD × List (Int × Int × Int)}
theorem LP.below (h : LP w c d H k ra rn r X) (hb : Below X.heap.size X Y) : LP w c d H k ra rn r Y := ⟨h.bx.below hb, block_below h.b12 hb, h.ko.below hb, h.ro.below hb⟩
theorem lp_new (h : LKBox w X c d) (hk : KerOf X k r.1) (hr : RecsOf X ra rn r.2) : LP w c d X.heap.size k ra rn r (X.alloc (.cells (kerA k) 35)) := ⟨h.below (below1 _ _), heap_alloc_new _ _, hk.below (below1 _ _), hr.below (below1 _ _)⟩
/-- A box that was made ahead. -/
structure Lz (w : World) (H : Nat) (X : World) : Prop where
  z : X.heap[H]? = some (.cells kerZ 35 (0, 0))
  gt : w.heap.size + 1 < H
theorem Lz.below (h : Lz w H X) (hb : Below X.heap.size X Y) : Lz w H Y := ⟨block_below h.z hb, h.gt⟩
theorem lz_new (h : LKBox w X c d) : Lz w X.heap.size (X.alloc OZ) := ⟨heap_alloc_new _ _, lt_of_block h.ke⟩
theorem wk_far {B b : Nat} {L V Q D E F : Value} {kk : KerD} {vs vq vd : List Value} (g : Wk X B L V Q D E F kk vs vq vd) (hY : ∀ b, B ≤ b → Y.heap[b]? = X.heap[b]?) : Wk Y B L V Q D E F kk vs vq vd := by
  have rs : ∀ {e : TypeId} {size n : Nat} {v : Value} {xs : List Value}, X.ownsRow B e size v n xs → Y.ownsRow B e size v n xs := fun ho => row_same ho (fun b _ e => hY b (ho.lt b e).1)
  exact ⟨rs g.l, ⟨rs g.v.row, g.v.len, fun i hi => rs (g.v.inn i hi)⟩, ⟨rs g.q.row, g.q.len, fun i hi => rs (g.q.inn i hi)⟩, ⟨rs g.d.row, g.d.len, fun i hi => rs (g.d.inn i hi)⟩, rs g.e, rs g.f, g.qd, g.el, g.ef, g.ev⟩
theorem lp_set {B C : Nat} {vs vq vd : List Value} (h : LKBox w X c d) (z : Lz w H X) (hB : H < B) (hC : H < C) (g : Wk X B (.slice k.lo k.ln k.lc) (.slice k.vo k.vn k.vc) (.slice k.qo k.qn k.qc) (.slice k.po k.pn k.pc) (.slice k.eo k.en k.ec) (.slice k.fo k.fn k.fc) r.1 vs vq vd) (hr : RcRow X C (.slice ra rn rc) r.2) :
    LP w c d H k ra rn r (put6 X H (.slice k.lo k.ln k.lc) (.slice k.vo k.vn k.vc) (.slice k.qo k.qn k.qc) (.slice k.po k.pn k.pc) (.slice k.eo k.en k.ec) (.slice k.fo k.fn k.fc)) := by
  have far : ∀ b, b ≠ H → (put6 X H (.slice k.lo k.ln k.lc) (.slice k.vo k.vn k.vc) (.slice k.qo k.qn k.qc) (.slice k.po k.pn k.pc) (.slice k.eo k.en k.ec) (.slice k.fo k.fn k.fc)).heap[b]? = X.heap[b]? := fun b hb => put6_far hb
  have gt := z.gt
  have s := set6 (a := .slice k.lo k.ln k.lc) (b := .slice k.vo k.vn k.vc) (c := .slice k.qo k.qn k.qc) (d := .slice k.po k.pn k.pc) (e := .slice k.eo k.en k.ec) (f := .slice k.fo k.fn k.fc) z.z h.bel (by omega)
  refine ⟨⟨s.2.2, (far _ (by omega)).trans h.sy, (far _ (by omega)).trans h.ke⟩, s.1, (wk_far (b := 0) g (fun b hb => far b (by omega))).ker, RcRow.recs (cap := rc) (B := C) (row_same hr (fun b _ e => far b (by have := (hr.lt b e).1; omega)))⟩
end
/-- The second call's answer. -/
structure LR (WA : World) (H : Nat) (k : KerS) (ra : Option Addr) (rn : Nat) (r : KerD × List (Int × Int × Int)) (X : World) : Prop where
  ba : Below WA.heap.size WA X
  b : X.heap[H]? = some (.cells (kerA k) 35 (0, 0))
  ko : KerOf X k r.1
  ro : RecsOf X ra rn r.2
structure Lz2 (WA : World) (H : Nat) (X : World) : Prop where
  z : X.heap[H]? = some (.cells kerZ 35 (0, 0))
  ge : WA.heap.size ≤ H
section
variable {WA X Y : World} {H : Nat} {k : KerS} {ra : Option Addr} {rn rc : Nat} {r : KerD × List (Int × Int × Int)}
theorem Lz2.below (h : Lz2 WA H X) (hb : Below X.heap.size X Y) : Lz2 WA H Y := ⟨block_below h.z hb, h.ge⟩
theorem lz2_new (h : Below WA.heap.size WA X) : Lz2 WA X.heap.size (X.alloc OZ) := ⟨heap_alloc_new _ _, h.size⟩
theorem lr_new (h : Below WA.heap.size WA X) (hk : KerOf X k r.1) (hr : RecsOf X ra rn r.2) : LR WA X.heap.size k ra rn r (X.alloc (.cells (kerA k) 35)) := ⟨h.alloc h.size _, heap_alloc_new _ _, hk.below (below1 _ _), hr.below (below1 _ _)⟩
theorem lr_set {B : Nat} {vs vq vd : List Value} (h : Below WA.heap.size WA X) (z : Lz2 WA H X) (hB : H < B) (g : Rw X B (.slice k.lo k.ln k.lc) (.slice k.vo k.vn k.vc) (.slice k.qo k.qn k.qc) (.slice k.po k.pn k.pc) (.slice k.eo k.en k.ec) (.slice k.fo k.fn k.fc) vs vq vd r.1) (hr : RcRow X B (.slice ra rn rc) r.2) :
    LR WA H k ra rn r (put6 X H (.slice k.lo k.ln k.lc) (.slice k.vo k.vn k.vc) (.slice k.qo k.qn k.qc) (.slice k.po k.pn k.pc) (.slice k.eo k.en k.ec) (.slice k.fo k.fn k.fc)) := by
  have far : ∀ b, b ≠ H → (put6 X H (.slice k.lo k.ln k.lc) (.slice k.vo k.vn k.vc) (.slice k.qo k.qn k.qc) (.slice k.po k.pn k.pc) (.slice k.eo k.en k.ec) (.slice k.fo k.fn k.fc)).heap[b]? = X.heap[b]? := fun b hb => put6_far hb
  have s := set6 (a := .slice k.lo k.ln k.lc) (b := .slice k.vo k.vn k.vc) (c := .slice k.qo k.qn k.qc) (d := .slice k.po k.pn k.pc) (e := .slice k.eo k.en k.ec) (f := .slice k.fo k.fn k.fc) z.z h z.ge
  exact ⟨s.2.2, s.1, Rw.ker (g.kp s.2.1 (fun _ h => h)), RcRow.recs (cap := rc) (B := B) (row_same hr (fun b _ e => far b (by have := (hr.lt b e).1; omega)))⟩
end
/-- All that the law holds behind the program's call. -/
structure LQ (L U : Nat) (sg : Int) (es : List ObD) (xs : List (Int × Int)) (en xn : Nat) (kd : KerD) (r : KerD × List (Int × Int × Int)) (H14 H15 H16 : Nat) (a b : Nat) (kx kg : KerS) (B : Nat) (ra : Option Addr) (rn rc : Nat) (vs vq vd : List Value) (X : World) : Prop where
  b14 : X.heap[H14]? = some (.cells #[.int .i64 sg, .slice (some ⟨a, 0, none⟩) en en, .slice (some ⟨b, 0, none⟩) xn xn] 42 (0, 0))
  b15 : X.heap[H15]? = some (.cells (kerA kx) 35 (0, 0))
  b16 : X.heap[H16]? = some (.cells (kerA kg) 35 (0, 0))
  sy : SyT X L U (.slice (some ⟨a, 0, none⟩) en en) (.slice (some ⟨b, 0, none⟩) xn xn) es xn
  ke : KeT X L U kx kd
  rw : Rw X B (.slice kg.lo kg.ln kg.lc) (.slice kg.vo kg.vn kg.vc) (.slice kg.qo kg.qn kg.qc) (.slice kg.po kg.pn kg.pc) (.slice kg.eo kg.en kg.ec) (.slice kg.fo kg.fn kg.fc) vs vq vd r.1
  far : Far6 (.slice kg.lo kg.ln kg.lc) (.slice kg.qo kg.qn kg.qc) (.slice kg.po kg.pn kg.pc) (.slice kg.eo kg.en kg.ec) (.slice kg.fo kg.fn kg.fc) vs vq vd
  rr : RcRow X B (.slice ra rn rc) r.2
  up : U ≤ B ∧ L ≤ U
section
variable {L U : Nat} {sg : Int} {es : List ObD} {xs : List (Int × Int)} {en xn : Nat} {kd : KerD} {r : KerD × List (Int × Int × Int)} {H14 H15 H16 a b : Nat} {kx kg : KerS} {B : Nat} {ra : Option Addr} {rn rc : Nat} {vs vq vd : List Value} {X Y : World}
theorem LQ.below (h : LQ L U sg es xs en xn kd r H14 H15 H16 a b kx kg B ra rn rc vs vq vd X) (hb : Below X.heap.size X Y) : LQ L U sg es xs en xn kd r H14 H15 H16 a b kx kg B ra rn rc vs vq vd Y :=
  ⟨block_below h.b14 hb, block_below h.b15 hb, block_below h.b16 hb, h.sy.of_below hb, h.ke.of_below hb, h.rw.below hb, h.far, ownsRow_below h.rr hb, h.up⟩
theorem LQ.mj (h : LQ L U sg es xs en xn kd r H14 H15 H16 a b kx kg B ra rn rc vs vq vd X) (m : Mj L U X Y) : LQ L U sg es xs en xn kd r H14 H15 H16 a b kx kg B ra rn rc vs vq vd Y :=
  ⟨m.box h.b14 fin_sy.1 (.inr fin_sy.2), m.box h.b15 fin_ke.1 (.inr fin_ke.2), m.box h.b16 fin_ke.1 (.inr fin_ke.2), ⟨m.ob _ _ h.sy.o, m.tn _ _ _ _ fin_tm h.sy.t⟩, h.ke.mj m, h.rw.mj m h.up.1, h.far, row_mj h.rr m h.up.1 fin_rc, h.up⟩
theorem LQ.an (h : LQ L U sg es xs en xn kd r H14 H15 H16 a b kx kg B ra rn rc vs vq vd X) : An X B (.slice kg.lo kg.ln kg.lc) (.slice kg.vo kg.vn kg.vc) (.slice kg.qo kg.qn kg.qc) (.slice kg.po kg.pn kg.pc) (.slice kg.eo kg.en kg.ec) (.slice kg.fo kg.fn kg.fc) vs vq vd r.1.leaf.length (r.1.vals.map List.length) (r.1.qs.map List.length) (r.1.ds.map List.length) r.1.left.length r.1.every.length := KI.an h.rw h.far
end
end Go.Proofs.YthaklmdhkkfigaaGreat
namespace Go.Proofs.YthaklmdhkkfigaaGreat
open Go.RowKit Go.Sort
set_option linter.unusedVariables false
attribute [local go_sem ↓] Go.wp_at_zero Go.wp_at_succ

theorem small_no : Small (kd0, []) := ⟨⟨by simp, ⟨by simp, fun i hi => by simp at hi⟩, ⟨by simp, fun i hi => by simp at hi⟩, ⟨by simp, fun i hi => by simp at hi⟩, by simp, by simp⟩, by simp, by simp, by simp, by simp⟩
theorem putK_small {sg : Int} {os : List ObD} {ts : List (Int × Int)} {k : KerD} (hy : kerB sg os ts k = true) {k' : KerD} (hs : SameK k k') (hf : FitsKer k') (rs : List (Int × Int × Int)) (hr : rs.length ≤ 1048576) : Small (k', rs) := by
  obtain ⟨l, ⟨_, ⟨_, o⟩, _⟩, _⟩ := ker_parts hy
  exact ⟨hf, by show k'.vals.length ≤ 64; rw [hs.v, l.1.2.1]; exact o, by show k'.qs.length ≤ 64; rw [hs.q, l.1.2.2.1]; exact o, by show k'.ds.length ≤ 64; rw [hs.d, l.1.2.2.2]; exact o, hr⟩
end Go.Proofs.YthaklmdhkkfigaaGreat
