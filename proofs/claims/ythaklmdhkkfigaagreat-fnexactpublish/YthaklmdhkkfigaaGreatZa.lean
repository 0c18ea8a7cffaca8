import Derived.Test.YthaklmdhkkfigaaGreatXe
import Derived.Test.YthaklmdhkkfigaaGreatXf
import Derived.Test.YthaklmdhkkfigaaGreatXc
import Derived.Test.YthaklmdhkkfigaaGreatXd
import Derived.Test.YthaklmdhkkfigaaGreatYc
import Derived.Test.YthaklmdhkkfigaaGreatKx6
namespace Go.Proofs.YthaklmdhkkfigaaGreat
open Go.RowKit Go.Sort
set_option linter.unusedVariables false

/-- Where an actor lies: its box, its two rings, what it holds of the arguments. -/
structure Ac where
  lo : Nat
  hi : Nat
  a : Nat
  P : Nat
  S : Nat
  P' : Nat
  S' : Nat
  uo : Option Addr
  un : Nat
  uc : Nat
  vo : Option Addr
  vn : Nat
  vc : Nat
def ac0 : Ac := ⟨0, 0, 0, 0, 0, 0, 0, none, 0, 0, none, 0, 0⟩
/-- The cells of an actor's box that are read. -/
def AcC (cs : Array Value) (i : Nat) (p : Int) (c : Ac) (lf : Int) : Prop :=
  (cs[0]? = some (.int .i64 (i : Int)) ∧ cs[1]? = some (.int .i64 p) ∧ cs[6]? = some (.slice c.uo c.un c.uc)) ∧ (cs[13]? = some (.int .i64 lf) ∧ cs[15]? = some (.slice c.vo c.vn c.vc)) ∧ cs[17]? = some (.pointer (some ⟨c.P, 0, none⟩)) ∧ cs[18]? = some (.pointer (some ⟨c.P', 0, none⟩))
/-- An actor, its box and its rings. -/
structure ActAt (w0 w : World) (c : Ac) (i : Nat) (o : ObD) (lf : Int) (vl : List Int) (qs ds : List (Int × Int)) : Prop where
  bx : ∃ cs, w.heap[c.a]? = some (.cells cs 155 (0, 0)) ∧ AcC cs i o.prio c lf
  q : RingAt w w0.heap.size c.P c.S o.qcap.toNat qs
  d : RingAt w w0.heap.size c.P' c.S' o.dcap.toNat ds
  us : SliceOf w0 c.uo c.un o.subs
  vs : SliceOf w0 c.vo c.vn vl
  vn : c.vn ≤ 1048576 ∧ c.un ≤ 1048576
  lo : w0.heap.size ≤ c.lo
  ia : c.lo ≤ c.a ∧ c.a < c.hi
  iq : (c.lo ≤ c.P ∧ c.P < c.hi) ∧ (c.lo ≤ c.S ∧ c.S < c.hi)
  id : (c.lo ≤ c.P' ∧ c.P' < c.hi) ∧ (c.lo ≤ c.S' ∧ c.S' < c.hi)
  ne : c.P ≠ c.P' ∧ c.S ≠ c.S'
  hi : c.hi ≤ w.heap.size
section
variable {w0 w w' : World} {c : Ac} {i : Nat} {o : ObD} {lf : Int} {vl : List Int} {qs ds : List (Int × Int)}
theorem ActAt.tn {K : Nat → Prop} (h : ActAt w0 w c i o lf vl qs ds) (t : Tn K w w') (ha : ¬ K c.a) (h1 : ¬ K c.P) (h2 : ¬ K c.S) (h3 : ¬ K c.P') (h4 : ¬ K c.S') : ActAt w0 w' c i o lf vl qs ds := by
  obtain ⟨cs, b1, b2⟩ := h.bx
  exact ⟨⟨cs, t.at b1 ha, b2⟩, h.q.tn t h1 h2, h.d.tn t h3 h4, h.us, h.vs, h.vn, h.lo, h.ia, h.iq, h.id, h.ne, Nat.le_trans h.hi t.size⟩
theorem ActAt.below (h : ActAt w0 w c i o lf vl qs ds) (hb : Below w.heap.size w w') : ActAt w0 w' c i o lf vl qs ds := h.tn (K := fun _ => False) (Tn.of_below hb) (fun x => x) (fun x => x) (fun x => x) (fun x => x) (fun x => x)
/-- Only a box of another kind was written. -/
theorem ActAt.tag {H : Nat} {cs : Array Value} {t : TypeId} (h : ActAt w0 w c i o lf vl qs ds) (hH : w.heap[H]? = some (.cells cs t (0, 0))) (h1 : t ≠ 155) (h2 : t ≠ 182) (h3 : t ≠ 70) {K : Nat → Prop} (tn : Tn K w w') (hK : ∀ b, K b → b = H ∨ w0.heap.size > b ∨ ∃ cb tb, w.heap[b]? = some (.cells cb tb (0, 0)) ∧ tb ≠ 155 ∧ tb ≠ 182 ∧ tb ≠ 70) : ActAt w0 w' c i o lf vl qs ds := by
  obtain ⟨cs', b1, b2⟩ := h.bx
  obtain ⟨⟨p1, q1⟩, ⟨s1, r1⟩⟩ := h.q.boxes
  obtain ⟨⟨p2, q2⟩, ⟨s2, r2⟩⟩ := h.d.boxes
  have lo := h.lo
  have ia := h.ia
  have iq := h.iq
  have id := h.id
  have key : ∀ b cb tb, w.heap[b]? = some (.cells cb tb (0, 0)) → w0.heap.size ≤ b → (tb = 155 ∨ tb = 182 ∨ tb = 70) → ¬ K b := by
    intro b cb tb hb hl ht hk
    rcases hK b hk with rfl | hk | ⟨cb', tb', e, n1, n2, n3⟩
    · rw [hb] at hH
      simp at hH
      obtain ⟨_, rfl⟩ := hH
      rcases ht with rfl | rfl | rfl
      · exact h1 rfl
      · exact h2 rfl
      · exact h3 rfl
    · omega
    · rw [hb] at e
      simp at e
      obtain ⟨_, rfl⟩ := e
      rcases ht with rfl | rfl | rfl
      · exact n1 rfl
      · exact n2 rfl
      · exact n3 rfl
  exact h.tn tn (key _ _ _ b1 (by omega) (.inl rfl)) (key _ _ _ q1 (by omega) (.inr (.inl rfl))) (key _ _ _ r1 (by omega) (.inr (.inr rfl))) (key _ _ _ q2 (by omega) (.inr (.inl rfl))) (key _ _ _ r2 (by omega) (.inr (.inr rfl)))
end
/-- The actors, by index: each in an interval of its own. -/
structure Acts (w0 w : World) (cl : List Ac) (os : List ObD) (k : KerD) : Prop where
  at_ : ∀ i, i < cl.length → ActAt w0 w (cl.getD i ac0) i (os.getD i ob0) (k.leaf.getD i 0) (k.vals.getD i []) (k.qs.getD i []) (k.ds.getD i [])
  up : ∀ i j, i < j → j < cl.length → (cl.getD i ac0).hi ≤ (cl.getD j ac0).lo
section
variable {w0 w w' : World} {cl : List Ac} {os : List ObD} {k : KerD}
theorem Acts.below (h : Acts w0 w cl os k) (hb : Below w.heap.size w w') : Acts w0 w' cl os k := ⟨fun i hi => (h.at_ i hi).below hb, h.up⟩
theorem Acts.tag {H : Nat} {cs : Array Value} {t : TypeId} (h : Acts w0 w cl os k) (hH : w.heap[H]? = some (.cells cs t (0, 0))) (h1 : t ≠ 155) (h2 : t ≠ 182) (h3 : t ≠ 70) {K : Nat → Prop} (tn : Tn K w w') (hK : ∀ b, K b → b = H ∨ w0.heap.size > b ∨ ∃ cb tb, w.heap[b]? = some (.cells cb tb (0, 0)) ∧ tb ≠ 155 ∧ tb ≠ 182 ∧ tb ≠ 70) : Acts w0 w' cl os k := ⟨fun i hi => (h.at_ i hi).tag hH h1 h2 h3 tn hK, h.up⟩
theorem Acts.start (w0 w : World) (os : List ObD) (k : KerD) : Acts w0 w [] os k := ⟨fun i hi => by simp at hi, fun i j _ hj => by simp at hj⟩
theorem Acts.snoc {c : Ac} (h : Acts w0 w cl os k) (hc : ActAt w0 w c cl.length (os.getD cl.length ob0) (k.leaf.getD cl.length 0) (k.vals.getD cl.length []) (k.qs.getD cl.length []) (k.ds.getD cl.length [])) (hN : ∀ i, i < cl.length → (cl.getD i ac0).hi ≤ c.lo) : Acts w0 w (cl ++ [c]) os k := by
  refine ⟨fun i hi => ?_, fun i j hij hj => ?_⟩
  · simp at hi
    by_cases e : i < cl.length
    · rw [getD_snoc_lt e]; exact h.at_ i e
    · have : i = cl.length := by omega
      subst this
      rw [getD_snoc_eq]; exact hc
  · simp at hj
    by_cases e : j < cl.length
    · rw [getD_snoc_lt e, getD_snoc_lt (by omega)]; exact h.up i j hij e
    · have : j = cl.length := by omega
      subst this
      rw [getD_snoc_eq, getD_snoc_lt hij]; exact hN i hij
/-- The blocks of two actors differ. -/
theorem Acts.far (h : Acts w0 w cl os k) {i j : Nat} (hi : i < cl.length) (hj : j < cl.length) (hne : i ≠ j) : (cl.getD i ac0).hi ≤ (cl.getD j ac0).lo ∨ (cl.getD j ac0).hi ≤ (cl.getD i ac0).lo := by
  rcases Nat.lt_or_gt_of_ne hne with e | e
  · exact .inl (h.up i j e hj)
  · exact .inr (h.up j i e hi)
/-- A queue was written: the other rings stay. -/
theorem Acts.put {H i : Nat} {x : Int × Int} {K : Nat → Prop} (h : Acts w0 w cl os k) (hi : i < cl.length) (hl : i < k.qs.length) (tn : Tn K w w') (hK : ∀ b, K b → b = H ∨ b = (cl.getD i ac0).P ∨ b = (cl.getD i ac0).S) {cs : Array Value} (hH : w.heap[H]? = some (.cells cs 100 (0, 0))) (hr : RingAt w' w0.heap.size (cl.getD i ac0).P (cl.getD i ac0).S (os.getD i ob0).qcap.toNat (k.qs.getD i [] ++ [x])) : Acts w0 w' cl os { k with qs := k.qs.set i (k.qs.getD i [] ++ [x]) } := by
  refine ⟨fun j hj => ?_, h.up⟩
  have hA := h.at_ j hj
  have hB := h.at_ i hi
  obtain ⟨cs', b1, b2⟩ := hA.bx
  obtain ⟨⟨p1, q1⟩, ⟨s1, r1⟩⟩ := hA.q.boxes
  obtain ⟨⟨p2, q2⟩, ⟨s2, r2⟩⟩ := hA.d.boxes
  obtain ⟨⟨p3, q3⟩, ⟨s3, r3⟩⟩ := hB.q.boxes
  have nH : ∀ b cb tb, w.heap[b]? = some (.cells cb tb (0, 0)) → tb ≠ 100 → b ≠ H := fun b cb tb hb ht => tag_ne hb hH ht
  by_cases e : j = i
  · subst e
    show ActAt w0 w' (cl.getD j ac0) j (os.getD j ob0) (k.leaf.getD j 0) (k.vals.getD j []) ((k.qs.set j (k.qs.getD j [] ++ [x])).getD j []) (k.ds.getD j [])
    rw [getD_set_eq hl]
    refine ⟨⟨cs', tn.at b1 (fun hk => ?_), b2⟩, hr, hA.d.tn tn (fun hk => ?_) (fun hk => ?_), hA.us, hA.vs, hA.vn, hA.lo, hA.ia, hA.iq, hA.id, hA.ne, Nat.le_trans hA.hi tn.size⟩
    · rcases hK _ hk with e | e | e
      · exact nH _ _ _ b1 (by decide) e
      · exact tag_ne b1 q1 (by decide) e
      · exact tag_ne b1 r1 (by decide) e
    · rcases hK _ hk with e | e | e
      · exact nH _ _ _ q2 (by decide) e
      · exact hA.ne.1 e.symm
      · exact tag_ne q2 r1 (by decide) e
    · rcases hK _ hk with e | e | e
      · exact nH _ _ _ r2 (by decide) e
      · exact tag_ne r2 q1 (by decide) e
      · exact hA.ne.2 e.symm
  · show ActAt w0 w' (cl.getD j ac0) j (os.getD j ob0) (k.leaf.getD j 0) (k.vals.getD j []) ((k.qs.set i (k.qs.getD i [] ++ [x])).getD j []) (k.ds.getD j [])
    rw [getD_set_ne (fun x => e x.symm)]
    have f := h.far hj hi e
    have a1 := hA.ia
    have a2 := hA.iq
    have a3 := hA.id
    have c2 := hB.iq
    refine hA.tn tn ?_ ?_ ?_ ?_ ?_ <;> intro hk <;> rcases hK _ hk with e1 | e1 | e1
    · exact nH _ _ _ b1 (by decide) e1
    · omega
    · omega
    · exact nH _ _ _ q1 (by decide) e1
    · omega
    · omega
    · exact nH _ _ _ r1 (by decide) e1
    · omega
    · omega
    · exact nH _ _ _ q2 (by decide) e1
    · omega
    · omega
    · exact nH _ _ _ r2 (by decide) e1
    · omega
    · omega
end
/-- The timers as they stand: four cells each. -/
def alC : List ((Int × Int) × Int × Int) → List Value
  | [] => []
  | e :: r => .int .i64 e.1.1 :: .int .i64 e.1.2 :: .int .i64 e.2.1 :: .int .i64 e.2.2 :: alC r
theorem alC_append : ∀ a b : List ((Int × Int) × Int × Int), alC (a ++ b) = alC a ++ alC b
  | [], b => rfl
  | e :: r, b => by simp [alC, alC_append r b]
abbrev al0 : (Int × Int) × Int × Int := ((0, 0), 0, 0)
theorem alC_get : ∀ (es : List ((Int × Int) × Int × Int)) (k : Nat), k < es.length → ((alC es)[k * 4]? = some (.int .i64 (es.getD k al0).1.1) ∧ (alC es)[k * 4 + 1]? = some (.int .i64 (es.getD k al0).1.2)) ∧ (alC es)[k * 4 + 2]? = some (.int .i64 (es.getD k al0).2.1) ∧ (alC es)[k * 4 + 3]? = some (.int .i64 (es.getD k al0).2.2)
  | [], k, h => by simp at h
  | e :: r, 0, _ => ⟨⟨rfl, rfl⟩, rfl, rfl⟩
  | e :: r, k + 1, h => by
    obtain ⟨⟨h0, h1⟩, h2, h3⟩ := alC_get r k (by simpa using h)
    refine ⟨⟨?_, ?_⟩, ?_, ?_⟩
    · rw [show (k + 1) * 4 = k * 4 + 4 by omega]; simpa [alC] using h0
    · rw [show (k + 1) * 4 + 1 = k * 4 + 1 + 4 by omega]; simpa [alC] using h1
    · rw [show (k + 1) * 4 + 2 = k * 4 + 2 + 4 by omega]; simpa [alC] using h2
    · rw [show (k + 1) * 4 + 3 = k * 4 + 3 + 4 by omega]; simpa [alC] using h3
abbrev AlRow (w : World) (B : Nat) (v : Value) (al : List ((Int × Int) × Int × Int)) : Prop := w.ownsRow B 159 4 v al.length (alC al)
end Go.Proofs.YthaklmdhkkfigaaGreat
namespace Go.Proofs.YthaklmdhkkfigaaGreat
open Go.RowKit Go.Sort
set_option linter.unusedVariables false
attribute [local go_sem ↓] Go.wp_at_zero Go.wp_at_succ

theorem own_keep {X Y : World} {B : Nat} {e : TypeId} {size n : Nat} {v u : Value} {xs : List Value} (h : X.ownsRow B e size v n xs) (hg : X.grownBy Y u.ownBlock) (ha : Ap v u) : Y.ownsRow B e size v n xs := row_same h (fun b hb e => hg.block b hb (fun x => ha b e x.symm))
/-- The lists of a kernel in the making. -/
structure Rw (X : World) (B : Nat) (L V Q D E F : Value) (vs vq vd : List Value) (k : KerD) : Prop where
  l : X.ownsRow B 3 1 L k.leaf.length (vint k.leaf)
  v : NestV X B V vs k.vals
  q : NestQ X B Q vq k.qs
  d : NestQ X B D vd k.ds
  e : X.ownsRow B 3 1 E k.left.length (vint k.left)
  f : X.ownsRow B 3 1 F k.every.length (vint k.every)
/-- None of them shares a block with another. -/
structure Far6 (L Q D E F : Value) (vs vq vd : List Value) : Prop where
  lv : ∀ i, i < vs.length → Ap L (vs.getD i undef)
  ev : ∀ i, i < vs.length → Ap E (vs.getD i undef)
  fv : ∀ i, i < vs.length → Ap F (vs.getD i undef)
  le : Ap L E
  lf : Ap L F
  ef : Ap E F
  vv : ∀ i j, i < vs.length → j < vs.length → i ≠ j → Ap (vs.getD i undef) (vs.getD j undef)
  qq : ∀ i j, i < vq.length → j < vq.length → i ≠ j → Ap (vq.getD i undef) (vq.getD j undef)
  dd : ∀ i j, i < vd.length → j < vd.length → i ≠ j → Ap (vd.getD i undef) (vd.getD j undef)
  qd : ∀ i, i < vq.length → ∀ j, j < vd.length → Ap (vq.getD i undef) (vd.getD j undef)
  QD : Ap Q D
theorem ap_nil' (b : Value) : Ap b nilV := fun x _ e => by simp [Value.ownBlock] at e
theorem far6_start : Far6 nilV nilV nilV nilV nilV [] [] [] :=
  ⟨fun i hi => by simp at hi, fun i hi => by simp at hi, fun i hi => by simp at hi, ap_nil' _, ap_nil' _, ap_nil' _, fun i j hi => by simp at hi, fun i j hi => by simp at hi, fun i j hi => by simp at hi, fun i hi => by simp at hi, ap_nil' _⟩
theorem rw_start (X : World) (B : Nat) : Rw X B nilV nilV nilV nilV nilV nilV [] [] [] ⟨[], [], [], [], [], []⟩ :=
  ⟨World.ownsRow_nil _ _ _ _, ⟨World.ownsRow_nil _ _ _ _, rfl, fun i hi => by simp at hi⟩, ⟨World.ownsRow_nil _ _ _ _, rfl, fun i hi => by simp at hi⟩, ⟨World.ownsRow_nil _ _ _ _, rfl, fun i hi => by simp at hi⟩, World.ownsRow_nil _ _ _ _, World.ownsRow_nil _ _ _ _⟩
section
variable {w X Y Z : World} {B : Nat} {L V Q D E F : Value} {vs vq vd : List Value} {k : KerD}
theorem Rw.kp {T : List TypeId} (h : Rw X B L V Q D E F vs vq vd k) (c : Kp T X Y) (hT : ∀ t ∈ tagsK, t ∈ T) : Rw Y B L V Q D E F vs vq vd k :=
  have h1 : 3 ∈ T := hT _ (by simp)
  have h2 : 26 ∈ T := hT _ (by simp)
  have h3 : 138 ∈ T := hT _ (by simp)
  have h4 : 70 ∈ T := hT _ (by simp)
  ⟨c.own h.l h1, h.v.kp c h2 h1, h.q.kp c h3 h4, h.d.kp c h3 h4, c.own h.e h1, c.own h.f h1⟩
theorem Rw.below (h : Rw X B L V Q D E F vs vq vd k) (hb : Below X.heap.size X Y) : Rw Y B L V Q D E F vs vq vd k := h.kp (T := tagsK) (Kp.below hb) (fun _ h => h)
theorem NestV.keep {vs : List Value} {qs : List (List Int)} {u : Value} (h : NestV X B V vs qs) (hg : X.grownBy Y u.ownBlock) (h1 : Ap V u) (h2 : ∀ i, i < vs.length → Ap (vs.getD i undef) u) : NestV Y B V vs qs := ⟨own_keep h.row hg h1, h.len, fun i hi => own_keep (h.inn i hi) hg (h2 i hi)⟩
theorem NestQ.keep {vs : List Value} {qs : List (List (Int × Int))} {u : Value} (h : NestQ X B V vs qs) (hg : X.grownBy Y u.ownBlock) (h1 : Ap V u) (h2 : ∀ i, i < vs.length → Ap (vs.getD i undef) u) : NestQ Y B V vs qs := ⟨own_keep h.row hg h1, h.len, fun i hi => own_keep (h.inn i hi) hg (h2 i hi)⟩
theorem ap_at {a v' u : Value} {g n c N : Nat} (hv : v' = .slice (some ⟨g, 0, none⟩) n c) (hat : a.ownBlock = some g ∨ g = N) (h : Ap a u) (hu : ∀ b, u.ownBlock = some b → b < N) : Ap v' u := by
  intro x e e2
  subst hv
  simp [Value.ownBlock] at e
  subst e
  rcases hat with h1 | h1
  · exact h _ h1 e2
  · have := hu _ e2; omega
theorem own_max' {e : TypeId} {size n : Nat} {v : Value} {xs : List Value} (h : X.ownsRow B e size v n xs) : ∀ b, v.ownBlock = some b → b < X.heap.size := fun b hb => (h.lt b hb).2
/-- A kernel in the making: its box, its lists. -/
structure KI (w : World) (L V Q D E F : Value) (vs vq vd : List Value) (k : KerD) (X : World) : Prop where
  bel : Below w.heap.size w X
  r : X.heap[w.heap.size]? = some (.cells kerZ 35 (0, 0))
  o : X.heap[w.heap.size + 1]? = some (.cells #[L, V, Q, D, E, F] 35 (0, 0))
  rw : Rw X w.heap.size L V Q D E F vs vq vd k
  far : Far6 L Q D E F vs vq vd
theorem KI.below (h : KI w L V Q D E F vs vq vd k X) (hb : Below X.heap.size X Y) : KI w L V Q D E F vs vq vd k Y := ⟨h.bel.trans (hb.mono h.bel.size), block_below h.r hb, block_below h.o hb, h.rw.below hb, h.far⟩
theorem ki_grown {u : Value} {e : TypeId} {size n : Nat} {xs : List Value} (hb : Below w.heap.size w X) (ho : X.ownsRow w.heap.size e size u n xs) (hg : X.grownBy Y u.ownBlock) : Below w.heap.size w Y :=
  hb.trans ((Below.refl w.heap.size X).grown hg hb.size (fun j hj => (ho.lt j hj).1))
theorem ki_box {H : Nat} {cs : Array Value} {u : Value} {e : TypeId} {size n : Nat} {xs : List Value} (ho : X.ownsRow w.heap.size e size u n xs) (he : 35 ≠ e) (hb : X.heap[H]? = some (.cells cs 35 (0, 0))) (hg : X.grownBy Y u.ownBlock) : Y.heap[H]? = some (.cells cs 35 (0, 0)) :=
  (hg.block H (lt_of_block hb) (fun x => own_far2 ho he hb x.symm)).trans hb
/-- A store into the box. -/
theorem ki_set {H o : Nat} {cs : Array Value} (hb : X.heap[H]? = some (.cells cs 35 (0, 0))) (v : Value) : Kp tagsK X (X.setCell ⟨H, o, none⟩ v) := Kp.set hb (by decide) v
theorem KI.addL {g n cap : Nat} {x : Int} (h : KI w L V Q D E F vs vq vd k X) (hg : X.grownBy Z L.ownBlock) (hat : L.ownBlock = some g ∨ g = X.heap.size) (hown : Z.ownsRow w.heap.size 3 1 (.slice (some ⟨g, 0, none⟩) n cap) (k.leaf.length + 1) (vint k.leaf ++ [.int .i64 x])) :
    Z.heap[w.heap.size + 1]? = some (.cells #[L, V, Q, D, E, F] 35 (0, 0)) ∧ KI w (.slice (some ⟨g, 0, none⟩) n cap) V Q D E F vs vq vd { k with leaf := k.leaf ++ [x] } (Z.setCell ⟨w.heap.size + 1, 0, none⟩ (.slice (some ⟨g, 0, none⟩) n cap)) := by
  have oZ := ki_box h.rw.l (by decide) h.o hg
  have rZ := ki_box h.rw.l (by decide) h.r hg
  have kz := ki_set (o := 0) oZ (.slice (some ⟨g, 0, none⟩) n cap)
  have bz := ki_grown h.bel h.rw.l hg
  have hr : Z.ownsRow w.heap.size 3 1 (.slice (some ⟨g, 0, none⟩) n cap) (k.leaf ++ [x]).length (vint (k.leaf ++ [x])) := by simpa [vint] using hown
  have rw1 : Rw Z w.heap.size (.slice (some ⟨g, 0, none⟩) n cap) V Q D E F vs vq vd { k with leaf := k.leaf ++ [x] } :=
    ⟨hr, h.rw.v.keep hg (row_apart h.rw.v.row h.rw.l (by decide)) (fun i hi => (h.far.lv i hi).symm), h.rw.q.keep hg (row_apart h.rw.q.row h.rw.l (by decide)) (fun i hi => row_apart (h.rw.q.inn i hi) h.rw.l (by decide)), h.rw.d.keep hg (row_apart h.rw.d.row h.rw.l (by decide)) (fun i hi => row_apart (h.rw.d.inn i hi) h.rw.l (by decide)), own_keep h.rw.e hg (h.far.le.symm), own_keep h.rw.f hg (h.far.lf.symm)⟩
  refine ⟨oZ, below_set bz (Nat.le_succ _), (Below.heap_setCell _ _ _ _ (by show w.heap.size ≠ w.heap.size + 1; omega)).trans rZ, by rw [heap_setCell_same Z _ 0 _ _ _ oZ]; rfl, rw1.kp kz (fun _ h => h), ?_⟩
  exact ⟨fun i hi => ap_at rfl hat (h.far.lv i hi) (own_max' (h.rw.v.inn i hi)), h.far.ev, h.far.fv, ap_at rfl hat (h.far.le) (own_max' h.rw.e), ap_at rfl hat (h.far.lf) (own_max' h.rw.f), h.far.ef, h.far.vv, h.far.qq, h.far.dd, h.far.qd, h.far.QD⟩
theorem KI.addE {g n cap : Nat} {x : Int} (h : KI w L V Q D E F vs vq vd k X) (hg : X.grownBy Z E.ownBlock) (hat : E.ownBlock = some g ∨ g = X.heap.size) (hown : Z.ownsRow w.heap.size 3 1 (.slice (some ⟨g, 0, none⟩) n cap) (k.left.length + 1) (vint k.left ++ [.int .i64 x])) :
    Z.heap[w.heap.size + 1]? = some (.cells #[L, V, Q, D, E, F] 35 (0, 0)) ∧ KI w L V Q D (.slice (some ⟨g, 0, none⟩) n cap) F vs vq vd { k with left := k.left ++ [x] } (Z.setCell ⟨w.heap.size + 1, 4, none⟩ (.slice (some ⟨g, 0, none⟩) n cap)) := by
  have oZ := ki_box h.rw.e (by decide) h.o hg
  have rZ := ki_box h.rw.e (by decide) h.r hg
  have kz := ki_set (o := 4) oZ (.slice (some ⟨g, 0, none⟩) n cap)
  have bz := ki_grown h.bel h.rw.e hg
  have hr : Z.ownsRow w.heap.size 3 1 (.slice (some ⟨g, 0, none⟩) n cap) (k.left ++ [x]).length (vint (k.left ++ [x])) := by simpa [vint] using hown
  have rw1 : Rw Z w.heap.size L V Q D (.slice (some ⟨g, 0, none⟩) n cap) F vs vq vd { k with left := k.left ++ [x] } :=
    ⟨own_keep h.rw.l hg (h.far.le), h.rw.v.keep hg (row_apart h.rw.v.row h.rw.e (by decide)) (fun i hi => (h.far.ev i hi).symm), h.rw.q.keep hg (row_apart h.rw.q.row h.rw.e (by decide)) (fun i hi => row_apart (h.rw.q.inn i hi) h.rw.e (by decide)), h.rw.d.keep hg (row_apart h.rw.d.row h.rw.e (by decide)) (fun i hi => row_apart (h.rw.d.inn i hi) h.rw.e (by decide)), hr, own_keep h.rw.f hg (h.far.ef.symm)⟩
  refine ⟨oZ, below_set bz (Nat.le_succ _), (Below.heap_setCell _ _ _ _ (by show w.heap.size ≠ w.heap.size + 1; omega)).trans rZ, by rw [heap_setCell_same Z _ 4 _ _ _ oZ]; rfl, rw1.kp kz (fun _ h => h), ?_⟩
  exact ⟨h.far.lv, fun i hi => ap_at rfl hat (h.far.ev i hi) (own_max' (h.rw.v.inn i hi)), h.far.fv, (ap_at rfl hat (h.far.le.symm) (own_max' h.rw.l)).symm, h.far.lf, ap_at rfl hat (h.far.ef) (own_max' h.rw.f), h.far.vv, h.far.qq, h.far.dd, h.far.qd, h.far.QD⟩
theorem KI.addF {g n cap : Nat} {x : Int} (h : KI w L V Q D E F vs vq vd k X) (hg : X.grownBy Z F.ownBlock) (hat : F.ownBlock = some g ∨ g = X.heap.size) (hown : Z.ownsRow w.heap.size 3 1 (.slice (some ⟨g, 0, none⟩) n cap) (k.every.length + 1) (vint k.every ++ [.int .i64 x])) :
    Z.heap[w.heap.size + 1]? = some (.cells #[L, V, Q, D, E, F] 35 (0, 0)) ∧ KI w L V Q D E (.slice (some ⟨g, 0, none⟩) n cap) vs vq vd { k with every := k.every ++ [x] } (Z.setCell ⟨w.heap.size + 1, 5, none⟩ (.slice (some ⟨g, 0, none⟩) n cap)) := by
  have oZ := ki_box h.rw.f (by decide) h.o hg
  have rZ := ki_box h.rw.f (by decide) h.r hg
  have kz := ki_set (o := 5) oZ (.slice (some ⟨g, 0, none⟩) n cap)
  have bz := ki_grown h.bel h.rw.f hg
  have hr : Z.ownsRow w.heap.size 3 1 (.slice (some ⟨g, 0, none⟩) n cap) (k.every ++ [x]).length (vint (k.every ++ [x])) := by simpa [vint] using hown
  have rw1 : Rw Z w.heap.size L V Q D E (.slice (some ⟨g, 0, none⟩) n cap) vs vq vd { k with every := k.every ++ [x] } :=
    ⟨own_keep h.rw.l hg (h.far.lf), h.rw.v.keep hg (row_apart h.rw.v.row h.rw.f (by decide)) (fun i hi => (h.far.fv i hi).symm), h.rw.q.keep hg (row_apart h.rw.q.row h.rw.f (by decide)) (fun i hi => row_apart (h.rw.q.inn i hi) h.rw.f (by decide)), h.rw.d.keep hg (row_apart h.rw.d.row h.rw.f (by decide)) (fun i hi => row_apart (h.rw.d.inn i hi) h.rw.f (by decide)), own_keep h.rw.e hg (h.far.ef), hr⟩
  refine ⟨oZ, below_set bz (Nat.le_succ _), (Below.heap_setCell _ _ _ _ (by show w.heap.size ≠ w.heap.size + 1; omega)).trans rZ, by rw [heap_setCell_same Z _ 5 _ _ _ oZ]; rfl, rw1.kp kz (fun _ h => h), ?_⟩
  exact ⟨h.far.lv, h.far.ev, fun i hi => ap_at rfl hat (h.far.fv i hi) (own_max' (h.rw.v.inn i hi)), h.far.le, (ap_at rfl hat (h.far.lf.symm) (own_max' h.rw.l)).symm, (ap_at rfl hat (h.far.ef.symm) (own_max' h.rw.e)).symm, h.far.vv, h.far.qq, h.far.dd, h.far.qd, h.far.QD⟩
theorem ap_fresh {a x : Value} {N : Nat} (ha : ∀ b, a.ownBlock = some b → b < N) (hx : ∀ b, x.ownBlock = some b → N ≤ b) : Ap a x := fun b h1 h2 => by have := ha b h1; have := hx b h2; omega
theorem far_snoc {l : List Value} {x : Value} (h : ∀ i j, i < l.length → j < l.length → i ≠ j → Ap (l.getD i undef) (l.getD j undef)) (hx : ∀ i, i < l.length → Ap (l.getD i undef) x) : ∀ i j, i < (l ++ [x]).length → j < (l ++ [x]).length → i ≠ j → Ap ((l ++ [x]).getD i undef) ((l ++ [x]).getD j undef) := by
  intro i j hi hj hne
  simp at hi hj
  by_cases e1 : i < l.length
  · rw [getD_snoc_lt e1]
    by_cases e2 : j < l.length
    · rw [getD_snoc_lt e2]; exact h i j e1 e2 hne
    · have : j = l.length := by omega
      subst this
      rw [getD_snoc_eq]; exact hx i e1
  · have : i = l.length := by omega
    subst this
    rw [getD_snoc_eq, getD_snoc_lt (by omega)]
    exact (hx j (by omega)).symm
theorem all_snoc {l : List Value} {x : Value} {P : Value → Prop} (h : ∀ i, i < l.length → P (l.getD i undef)) (hx : P x) : ∀ i, i < (l ++ [x]).length → P ((l ++ [x]).getD i undef) := by
  intro i hi
  simp at hi
  by_cases e1 : i < l.length
  · rw [getD_snoc_lt e1]; exact h i e1
  · have : i = l.length := by omega
    subst this
    rw [getD_snoc_eq]; exact hx
theorem KI.addV {g n cap : Nat} {x : Value} {q : List Int} {W0 : World} (h0 : KI w L V Q D E F vs vq vd k W0) (hb : Below W0.heap.size W0 X) (hx : X.ownsRow W0.heap.size 3 1 x q.length (vint q)) (hg : X.grownBy Z V.ownBlock) (hown : Z.ownsRow w.heap.size 26 1 (.slice (some ⟨g, 0, none⟩) n cap) (vs.length + 1) (vs ++ [x])) :
    Z.heap[w.heap.size + 1]? = some (.cells #[L, V, Q, D, E, F] 35 (0, 0)) ∧ KI w L (.slice (some ⟨g, 0, none⟩) n cap) Q D E F (vs ++ [x]) vq vd { k with vals := k.vals ++ [q] } (Z.setCell ⟨w.heap.size + 1, 1, none⟩ (.slice (some ⟨g, 0, none⟩) n cap)) := by
  have h := h0.below hb
  have hxB := row_base hx h0.bel.size
  have oZ := ki_box h.rw.v.row (by decide) h.o hg
  have rZ := ki_box h.rw.v.row (by decide) h.r hg
  have kz := ki_set (o := 1) oZ (.slice (some ⟨g, 0, none⟩) n cap)
  have bz := ki_grown h.bel h.rw.v.row hg
  have fx : ∀ b, x.ownBlock = some b → W0.heap.size ≤ b := fun b e => (hx.lt b e).1
  have rw1 : Rw Z w.heap.size L (.slice (some ⟨g, 0, none⟩) n cap) Q D E F (vs ++ [x]) vq vd { k with vals := k.vals ++ [q] } :=
    ⟨own_keep h.rw.l hg (row_apart h.rw.l h.rw.v.row (by decide)), NestV.snoc h.rw.v.len (fun i hi => own_keep (h.rw.v.inn i hi) hg (row_apart (h.rw.v.inn i hi) h.rw.v.row (by decide))) hown (own_keep hxB hg (row_apart hxB h.rw.v.row (by decide))), h.rw.q.keep hg (row_apart h.rw.q.row h.rw.v.row (by decide)) (fun i hi => row_apart (h.rw.q.inn i hi) h.rw.v.row (by decide)), h.rw.d.keep hg (row_apart h.rw.d.row h.rw.v.row (by decide)) (fun i hi => row_apart (h.rw.d.inn i hi) h.rw.v.row (by decide)), own_keep h.rw.e hg (row_apart h.rw.e h.rw.v.row (by decide)), own_keep h.rw.f hg (row_apart h.rw.f h.rw.v.row (by decide))⟩
  refine ⟨oZ, below_set bz (Nat.le_succ _), (Below.heap_setCell _ _ _ _ (by show w.heap.size ≠ w.heap.size + 1; omega)).trans rZ, by rw [heap_setCell_same Z _ 1 _ _ _ oZ]; rfl, rw1.kp kz (fun _ h => h), ?_⟩
  exact ⟨all_snoc h.far.lv (ap_fresh (own_max' h0.rw.l) fx), all_snoc h.far.ev (ap_fresh (own_max' h0.rw.e) fx), all_snoc h.far.fv (ap_fresh (own_max' h0.rw.f) fx), h.far.le, h.far.lf, h.far.ef, far_snoc h.far.vv (fun i hi => ap_fresh (own_max' (h0.rw.v.inn i hi)) fx), h.far.qq, h.far.dd, h.far.qd, h.far.QD⟩
theorem KI.addQ {g n cap : Nat} {x : Value} {q : List (Int × Int)} {W0 : World} (h0 : KI w L V Q D E F vs vq vd k W0) (hb : Below W0.heap.size W0 X) (hx : EvRow X W0.heap.size x q) (hg : X.grownBy Z Q.ownBlock) (hat : Q.ownBlock = some g ∨ g = X.heap.size) (hown : Z.ownsRow w.heap.size 138 1 (.slice (some ⟨g, 0, none⟩) n cap) (vq.length + 1) (vq ++ [x])) :
    Z.heap[w.heap.size + 1]? = some (.cells #[L, V, Q, D, E, F] 35 (0, 0)) ∧ KI w L V (.slice (some ⟨g, 0, none⟩) n cap) D E F vs (vq ++ [x]) vd { k with qs := k.qs ++ [q] } (Z.setCell ⟨w.heap.size + 1, 2, none⟩ (.slice (some ⟨g, 0, none⟩) n cap)) := by
  have h := h0.below hb
  have hxB : EvRow X w.heap.size x q := row_base hx h0.bel.size
  have oZ := ki_box h.rw.q.row (by decide) h.o hg
  have rZ := ki_box h.rw.q.row (by decide) h.r hg
  have kz := ki_set (o := 2) oZ (.slice (some ⟨g, 0, none⟩) n cap)
  have bz := ki_grown h.bel h.rw.q.row hg
  have fx : ∀ b, x.ownBlock = some b → W0.heap.size ≤ b := fun b e => (hx.lt b e).1
  have rw1 : Rw Z w.heap.size L V (.slice (some ⟨g, 0, none⟩) n cap) D E F vs (vq ++ [x]) vd { k with qs := k.qs ++ [q] } :=
    ⟨own_keep h.rw.l hg (row_apart h.rw.l h.rw.q.row (by decide)), h.rw.v.keep hg (row_apart h.rw.v.row h.rw.q.row (by decide)) (fun i hi => row_apart (h.rw.v.inn i hi) h.rw.q.row (by decide)), NestQ.snoc h.rw.q.len (fun i hi => own_keep (h.rw.q.inn i hi) hg (row_apart (h.rw.q.inn i hi) h.rw.q.row (by decide))) hown (own_keep hxB hg (row_apart hxB h.rw.q.row (by decide))), h.rw.d.keep hg (h.far.QD.symm) (fun i hi => row_apart (h.rw.d.inn i hi) h.rw.q.row (by decide)), own_keep h.rw.e hg (row_apart h.rw.e h.rw.q.row (by decide)), own_keep h.rw.f hg (row_apart h.rw.f h.rw.q.row (by decide))⟩
  refine ⟨oZ, below_set bz (Nat.le_succ _), (Below.heap_setCell _ _ _ _ (by show w.heap.size ≠ w.heap.size + 1; omega)).trans rZ, by rw [heap_setCell_same Z _ 2 _ _ _ oZ]; rfl, rw1.kp kz (fun _ h => h), ?_⟩
  exact ⟨h.far.lv, h.far.ev, h.far.fv, h.far.le, h.far.lf, h.far.ef, h.far.vv, far_snoc h.far.qq (fun i hi => ap_fresh (own_max' (h0.rw.q.inn i hi)) fx), h.far.dd, all_snoc (P := fun u => ∀ j, j < vd.length → Ap u (vd.getD j undef)) h.far.qd (fun j hj => (ap_fresh (own_max' (h0.rw.d.inn j hj)) fx).symm), ap_at rfl hat h.far.QD (own_max' h.rw.d.row)⟩
theorem KI.addD {g n cap : Nat} {x : Value} {q : List (Int × Int)} {W0 : World} (h0 : KI w L V Q D E F vs vq vd k W0) (hb : Below W0.heap.size W0 X) (hx : EvRow X W0.heap.size x q) (hg : X.grownBy Z D.ownBlock) (hat : D.ownBlock = some g ∨ g = X.heap.size) (hown : Z.ownsRow w.heap.size 138 1 (.slice (some ⟨g, 0, none⟩) n cap) (vd.length + 1) (vd ++ [x])) :
    Z.heap[w.heap.size + 1]? = some (.cells #[L, V, Q, D, E, F] 35 (0, 0)) ∧ KI w L V Q (.slice (some ⟨g, 0, none⟩) n cap) E F vs vq (vd ++ [x]) { k with ds := k.ds ++ [q] } (Z.setCell ⟨w.heap.size + 1, 3, none⟩ (.slice (some ⟨g, 0, none⟩) n cap)) := by
  have h := h0.below hb
  have hxB : EvRow X w.heap.size x q := row_base hx h0.bel.size
  have oZ := ki_box h.rw.d.row (by decide) h.o hg
  have rZ := ki_box h.rw.d.row (by decide) h.r hg
  have kz := ki_set (o := 3) oZ (.slice (some ⟨g, 0, none⟩) n cap)
  have bz := ki_grown h.bel h.rw.d.row hg
  have fx : ∀ b, x.ownBlock = some b → W0.heap.size ≤ b := fun b e => (hx.lt b e).1
  have rw1 : Rw Z w.heap.size L V Q (.slice (some ⟨g, 0, none⟩) n cap) E F vs vq (vd ++ [x]) { k with ds := k.ds ++ [q] } :=
    ⟨own_keep h.rw.l hg (row_apart h.rw.l h.rw.d.row (by decide)), h.rw.v.keep hg (row_apart h.rw.v.row h.rw.d.row (by decide)) (fun i hi => row_apart (h.rw.v.inn i hi) h.rw.d.row (by decide)), h.rw.q.keep hg (h.far.QD) (fun i hi => row_apart (h.rw.q.inn i hi) h.rw.d.row (by decide)), NestQ.snoc h.rw.d.len (fun i hi => own_keep (h.rw.d.inn i hi) hg (row_apart (h.rw.d.inn i hi) h.rw.d.row (by decide))) hown (own_keep hxB hg (row_apart hxB h.rw.d.row (by decide))), own_keep h.rw.e hg (row_apart h.rw.e h.rw.d.row (by decide)), own_keep h.rw.f hg (row_apart h.rw.f h.rw.d.row (by decide))⟩
  refine ⟨oZ, below_set bz (Nat.le_succ _), (Below.heap_setCell _ _ _ _ (by show w.heap.size ≠ w.heap.size + 1; omega)).trans rZ, by rw [heap_setCell_same Z _ 3 _ _ _ oZ]; rfl, rw1.kp kz (fun _ h => h), ?_⟩
  exact ⟨h.far.lv, h.far.ev, h.far.fv, h.far.le, h.far.lf, h.far.ef, h.far.vv, h.far.qq, far_snoc h.far.dd (fun i hi => ap_fresh (own_max' (h0.rw.d.inn i hi)) fx), fun i hi => all_snoc (P := fun u => Ap (vq.getD i undef) u) (h.far.qd i hi) (ap_fresh (own_max' (h0.rw.q.inn i hi)) fx), (ap_at rfl hat h.far.QD.symm (own_max' h.rw.q.row)).symm⟩
theorem ki_start (w : World) : KI w nilV nilV nilV nilV nilV nilV [] [] [] ⟨[], [], [], [], [], []⟩ ((w.alloc OZ).alloc OZ) :=
  ⟨below2 _ _ _, block_below (heap_alloc_new w OZ) (below1 _ _), by have := heap_alloc_new (w.alloc OZ) OZ; simpa using this, rw_start _ _, far6_start⟩
/-- What a marking wants of a finished one. -/
theorem KI.an (h : Rw X B L V Q D E F vs vq vd k) (f : Far6 L Q D E F vs vq vd) : An X B L V Q D E F vs vq vd k.leaf.length (k.vals.map List.length) (k.qs.map List.length) (k.ds.map List.length) k.left.length k.every.length := by
  have hi : ∀ {v : Value} {zs : List Int}, X.ownsRow B 3 1 v zs.length (vint zs) → IntsR X B 3 1 v zs.length := fun h => ints_of h
  have he : ∀ {v : Value} {es : List (Int × Int)}, EvRow X B v es → IntsR X B 70 2 v es.length := fun {v es} h => ⟨_, h, fun j hj => by
    have hl := evC_len es
    have hm : j / 2 < es.length := by omega
    obtain ⟨e1, e2⟩ := evC_get es (j / 2) hm
    rcases Nat.mod_two_eq_zero_or_one j with hp | hp
    · rw [show j / 2 * 2 = j by omega] at e1; exact ⟨_, e1⟩
    · rw [show j / 2 * 2 + 1 = j by omega] at e2; exact ⟨_, e2⟩⟩
  have e1 : ∀ {α : Type} (l : List (List α)) i, i < l.length → (l.map List.length).getD i 0 = (l.getD i []).length := fun l i hi => by simp [List.getD_eq_getElem?_getD, hi]
  refine ⟨hi h.l, ⟨h.v.row, fun i hx => ?_, f.vv, by decide⟩, ⟨h.q.row, fun i hx => ?_, f.qq, by decide⟩, ⟨h.d.row, fun i hx => ?_, f.dd, by decide⟩, hi h.e, hi h.f, f.lv, f.ev, f.fv, f.le, f.lf, f.ef, f.qd⟩
  · rw [e1 _ i (by rw [← h.v.len]; exact hx)]; exact hi (h.v.inn i hx)
  · rw [e1 _ i (by rw [← h.q.len]; exact hx)]; exact he (h.q.inn i hx)
  · rw [e1 _ i (by rw [← h.d.len]; exact hx)]; exact he (h.d.inn i hx)
end
end Go.Proofs.YthaklmdhkkfigaaGreat
