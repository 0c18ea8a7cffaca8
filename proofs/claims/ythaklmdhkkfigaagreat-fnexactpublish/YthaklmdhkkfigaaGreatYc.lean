import Derived.Test.YthaklmdhkkfigaaGreatXb
import Derived.Test.YthaklmdhkkfigaaGreatXa
namespace Go.Proofs.YthaklmdhkkfigaaGreat
open Go.RowKit Go.Sort
set_option linter.unusedVariables false
attribute [local go_sem ↓] Go.wp_at_zero Go.wp_at_succ

/-- Two values don't own one block. -/
abbrev Ap (a b : Value) : Prop := ∀ x, a.ownBlock = some x → b.ownBlock ≠ some x
theorem Ap.symm {a b : Value} (h : Ap a b) : Ap b a := fun x h1 h2 => h x h2 h1
/-- An answered kernel's lists, none of which shares memory with another. -/
structure An (w : World) (B : Nat) (L V Q D E F : Value) (vs vq vd : List Value) (nl : Nat) (nv nq nd : List Nat) (ne nf : Nat) : Prop where
  l : IntsR w B 3 1 L nl
  v : NestO w B 26 3 1 V vs nv
  q : NestO w B 138 70 2 Q vq nq
  d : NestO w B 138 70 2 D vd nd
  e : IntsR w B 3 1 E ne
  f : IntsR w B 3 1 F nf
  lv : ∀ i, i < vs.length → Ap L (vs.getD i undef)
  ev : ∀ i, i < vs.length → Ap E (vs.getD i undef)
  fv : ∀ i, i < vs.length → Ap F (vs.getD i undef)
  le : Ap L E
  lf : Ap L F
  ef : Ap E F
  qd : ∀ i, i < vq.length → ∀ j, j < vd.length → Ap (vq.getD i undef) (vd.getD j undef)
/-- Only rows of numbers from B on were written. -/
structure Ow (B : Nat) (w w' : World) : Prop where
  os : w'.os = w.os
  tape : w'.tape = w.tape
  output : w'.output = w.output
  size : w'.heap.size = w.heap.size
  low : ∀ b, b < B → w'.heap[b]? = w.heap[b]?
  other : ∀ (b : Nat) (cs : Array Value) (t : TypeId) (fr : Nat × Nat), w.heap[b]? = some (.cells cs t fr) → t ≠ 3 → t ≠ 70 → w'.heap[b]? = w.heap[b]?
theorem Ow.refl (B : Nat) (w : World) : Ow B w w := ⟨rfl, rfl, rfl, rfl, fun _ _ => rfl, fun _ _ _ _ _ _ _ => rfl⟩
theorem Ow.trans {B : Nat} {a b c : World} (h : Ow B a b) (k : Ow B b c) : Ow B a c := ⟨k.os.trans h.os, k.tape.trans h.tape, k.output.trans h.output, k.size.trans h.size, fun i hi => (k.low i hi).trans (h.low i hi), fun i cs t fr e h1 h2 => (k.other i cs t fr ((h.other i cs t fr e h1 h2).trans e) h1 h2).trans (h.other i cs t fr e h1 h2)⟩
theorem Ow.below {B : Nat} {a b : World} (h : Ow B a b) : Below B a b := ⟨h.os, h.tape, h.output, Nat.le_of_eq h.size.symm, h.low⟩
theorem Ow.box {B : Nat} {w w' : World} {H : Nat} {cs : Array Value} {t : TypeId} {fr : Nat × Nat} (h : Ow B w w') (hb : w.heap[H]? = some (.cells cs t fr)) (h1 : t ≠ 3) (h2 : t ≠ 70) : w'.heap[H]? = some (.cells cs t fr) := (h.other H cs t fr hb h1 h2).trans hb
theorem ints_far {w : World} {B : Nat} {e : TypeId} {size n : Nat} {v : Value} (h : IntsR w B e size v n) {H : Nat} {cs : Array Value} {t : TypeId} {fr : Nat × Nat} (ht : t ≠ e) (hH : w.heap[H]? = some (.cells cs t fr)) : v.ownBlock ≠ some H := by
  obtain ⟨xs, ho, _⟩ := h
  exact own_far2 ho ht hH
theorem ints_lt {w : World} {B : Nat} {e : TypeId} {size n : Nat} {v : Value} (h : IntsR w B e size v n) {b : Nat} (hb : v.ownBlock = some b) : B ≤ b := by
  obtain ⟨xs, ho, _⟩ := h
  exact (ho.lt b hb).1
theorem Only.ow {w w' : World} {B : Nat} {e : TypeId} {size n : Nat} {v : Value} (o : Only v w w') (h : IntsR w B e size v n) (he : e = 3 ∨ e = 70) : Ow B w w' := by
  refine ⟨o.os, o.tape, o.output, o.size, fun b hb => o.block b (fun x => by have := ints_lt h x; omega), fun b cs t fr hb h1 h2 => o.block b (ints_far h ?_ hb)⟩
  rcases he with rfl | rfl <;> assumption
theorem OnlyN.ow {w w' : World} {B : Nat} {te e : TypeId} {size : Nat} {v : Value} {vs : List Value} {ns : List Nat} (o : OnlyN vs w w') (h : NestO w B te e size v vs ns) (he : e = 3 ∨ e = 70) : Ow B w w' := by
  refine ⟨o.os, o.tape, o.output, o.size, fun b hb => o.block b (fun i hi x => by have := ints_lt (h.inn i hi) x; omega), fun b cs t fr hb h1 h2 => o.block b (fun i hi => ints_far (h.inn i hi) ?_ hb)⟩
  rcases he with rfl | rfl <;> assumption
/-- A row stays, where the blocks that it owns do. -/
theorem row_blocks {w w' : World} {B : Nat} {e : TypeId} {size n : Nat} {v : Value} {xs : List Value} (h : w.ownsRow B e size v n xs) (hk : ∀ b, v.ownBlock = some b → w'.heap[b]? = w.heap[b]?) : w'.ownsRow B e size v n xs := row_same h (fun b _ hb => hk b hb)
theorem ints_blocks {w w' : World} {B : Nat} {e : TypeId} {size n : Nat} {v : Value} (h : IntsR w B e size v n) (hk : ∀ b, v.ownBlock = some b → w'.heap[b]? = w.heap[b]?) : IntsR w' B e size v n := by
  obtain ⟨xs, ho, hz⟩ := h
  exact ⟨xs, row_blocks ho hk, hz⟩
theorem mkd_blocks {w w' : World} {B : Nat} {e : TypeId} {size n : Nat} {v : Value} {k : Int} (h : MkdR w B e size v n k) (hk : ∀ b, v.ownBlock = some b → w'.heap[b]? = w.heap[b]?) : MkdR w' B e size v n k := by
  obtain ⟨xs, ho, hz⟩ := h
  exact ⟨xs, row_blocks ho hk, hz⟩
theorem nest_blocks {w w' : World} {B : Nat} {te ti : TypeId} {sz : Nat} {v : Value} {vs : List Value} {ns : List Nat} (h : NestO w B te ti sz v vs ns) (h1 : ∀ b, v.ownBlock = some b → w'.heap[b]? = w.heap[b]?) (h2 : ∀ i, i < vs.length → ∀ b, (vs.getD i undef).ownBlock = some b → w'.heap[b]? = w.heap[b]?) : NestO w' B te ti sz v vs ns := ⟨row_blocks h.row h1, fun i hi => ints_blocks (h.inn i hi) (h2 i hi), h.far, h.tag⟩
theorem nestm_blocks {w w' : World} {B : Nat} {te ti : TypeId} {sz : Nat} {v : Value} {vs : List Value} {ns : List Nat} {k : Int} (h : NestM w B te ti sz v vs ns k) (h1 : ∀ b, v.ownBlock = some b → w'.heap[b]? = w.heap[b]?) (h2 : ∀ i, i < vs.length → ∀ b, (vs.getD i undef).ownBlock = some b → w'.heap[b]? = w.heap[b]?) : NestM w' B te ti sz v vs ns k := ⟨row_blocks h.row h1, fun i hi => mkd_blocks (h.mkd i hi) (h2 i hi)⟩
/-- What is marked of a kernel. -/
structure AnM (w : World) (B : Nat) (L V Q D E F : Value) (vs vq vd : List Value) (nl : Nat) (nv nq nd : List Nat) (ne nf : Nat) (k1 k2 k3 k4 k5 k6 : Int) : Prop where
  l : MkdR w B 3 1 L nl k1
  v : NestM w B 26 3 1 V vs nv k2
  q : NestM w B 138 70 2 Q vq nq k3
  d : NestM w B 138 70 2 D vd nd k4
  e : MkdR w B 3 1 E ne k5
  f : MkdR w B 3 1 F nf k6
section
variable {w w' : World} {B : Nat} {L V Q D E F : Value} {vs vq vd : List Value} {nl : Nat} {nv nq nd : List Nat} {ne nf : Nat} {k1 k2 k3 k4 k5 k6 : Int}
theorem An.below (h : An w B L V Q D E F vs vq vd nl nv nq nd ne nf) (hb : Below w.heap.size w w') : An w' B L V Q D E F vs vq vd nl nv nq nd ne nf := by
  have hk : ∀ {e : TypeId} {size n : Nat} {v : Value} {xs : List Value}, w.ownsRow B e size v n xs → ∀ b, v.ownBlock = some b → w'.heap[b]? = w.heap[b]? := fun ho b hb' => hb.block b (ho.lt b hb').2
  have hi : ∀ {e : TypeId} {size n : Nat} {v : Value}, IntsR w B e size v n → ∀ b, v.ownBlock = some b → w'.heap[b]? = w.heap[b]? := fun ⟨xs, ho, _⟩ b hb' => hb.block b (ho.lt b hb').2
  exact ⟨ints_blocks h.l (hi h.l), nest_blocks h.v (hk h.v.row) (fun i hx => hi (h.v.inn i hx)), nest_blocks h.q (hk h.q.row) (fun i hx => hi (h.q.inn i hx)), nest_blocks h.d (hk h.d.row) (fun i hx => hi (h.d.inn i hx)), ints_blocks h.e (hi h.e), ints_blocks h.f (hi h.f), h.lv, h.ev, h.fv, h.le, h.lf, h.ef, h.qd⟩
theorem AnM.below (h : AnM w B L V Q D E F vs vq vd nl nv nq nd ne nf k1 k2 k3 k4 k5 k6) (hb : Below w.heap.size w w') : AnM w' B L V Q D E F vs vq vd nl nv nq nd ne nf k1 k2 k3 k4 k5 k6 := by
  have hk : ∀ {e : TypeId} {size n : Nat} {v : Value} {xs : List Value}, w.ownsRow B e size v n xs → ∀ b, v.ownBlock = some b → w'.heap[b]? = w.heap[b]? := fun ho b hb' => hb.block b (ho.lt b hb').2
  have hi : ∀ {e : TypeId} {size n : Nat} {v : Value} {k : Int}, MkdR w B e size v n k → ∀ b, v.ownBlock = some b → w'.heap[b]? = w.heap[b]? := fun ⟨xs, ho, _⟩ b hb' => hb.block b (ho.lt b hb').2
  exact ⟨mkd_blocks h.l (hi h.l), nestm_blocks h.v (hk h.v.row) (fun i hx => hi (h.v.mkd i hx)), nestm_blocks h.q (hk h.q.row) (fun i hx => hi (h.q.mkd i hx)), nestm_blocks h.d (hk h.d.row) (fun i hx => hi (h.d.mkd i hx)), mkd_blocks h.e (hi h.e), mkd_blocks h.f (hi h.f)⟩
/-- The records are marked: the kernel's rows stay. -/
theorem AnM.only (h : AnM w B L V Q D E F vs vq vd nl nv nq nd ne nf k1 k2 k3 k4 k5 k6) {rv : Value} {n : Nat} (hr : IntsR w B 106 3 rv n) (o : Only rv w w') : AnM w' B L V Q D E F vs vq vd nl nv nq nd ne nf k1 k2 k3 k4 k5 k6 := by
  obtain ⟨ys, hy, _⟩ := hr
  have hk : ∀ {e : TypeId} {size n : Nat} {v : Value} {xs : List Value}, e ≠ 106 → w.ownsRow B e size v n xs → ∀ b, v.ownBlock = some b → w'.heap[b]? = w.heap[b]? := fun he ho b hb' => o.block b (row_apart ho hy he b hb')
  have hi : ∀ {e : TypeId} {size n : Nat} {v : Value} {k : Int}, e ≠ 106 → MkdR w B e size v n k → ∀ b, v.ownBlock = some b → w'.heap[b]? = w.heap[b]? := fun he ⟨xs, ho, _⟩ b hb' => o.block b (row_apart ho hy he b hb')
  exact ⟨mkd_blocks h.l (hi (by decide) h.l), nestm_blocks h.v (hk (by decide) h.v.row) (fun i hx => hi (by decide) (h.v.mkd i hx)), nestm_blocks h.q (hk (by decide) h.q.row) (fun i hx => hi (by decide) (h.q.mkd i hx)), nestm_blocks h.d (hk (by decide) h.d.row) (fun i hx => hi (by decide) (h.d.mkd i hx)), mkd_blocks h.e (hi (by decide) h.e), mkd_blocks h.f (hi (by decide) h.f)⟩
end
theorem rows_ne {w : World} {B C : Nat} {e e' : TypeId} {size n s2 n2 : Nat} {v u : Value} {xs : List Value} (h : w.ownsRow B e size v n xs) (hu : IntsR w C e' s2 u n2) (hne : e ≠ e') : Ap v u := by
  obtain ⟨ys, hy, _⟩ := hu
  exact row_apart h hy hne
theorem ints_ne {w : World} {B C : Nat} {e e' : TypeId} {size n s2 n2 : Nat} {v u : Value} (h : IntsR w B e size v n) (hu : IntsR w C e' s2 u n2) (hne : e ≠ e') : Ap v u := by
  obtain ⟨xs, hx, _⟩ := h
  exact rows_ne hx hu hne
section
variable {w w1 w2 w3 w4 w5 w6 : World} {B : Nat} {L V Q D E F : Value} {vs vq vd : List Value} {nl : Nat} {nv nq nd : List Nat} {ne nf : Nat} {k1 k2 k3 k4 k5 k6 : Int}
/-- The six markings, one behind another. -/
structure Six (w w1 w2 w3 w4 w5 w6 : World) (L E F : Value) (vs vq vd : List Value) : Prop where
  o1 : Only L w w1
  o2 : OnlyN vs w1 w2
  o3 : OnlyN vq w2 w3
  o4 : OnlyN vd w3 w4
  o5 : Only E w4 w5
  o6 : Only F w5 w6
theorem An.one (h : An w B L V Q D E F vs vq vd nl nv nq nd ne nf) (o : Only L w w1) : NestO w1 B 26 3 1 V vs nv ∧ NestO w1 B 138 70 2 Q vq nq ∧ NestO w1 B 138 70 2 D vd nd ∧ IntsR w1 B 3 1 E ne ∧ IntsR w1 B 3 1 F nf :=
  ⟨nest_blocks h.v (fun b hb => o.block b (rows_ne h.v.row h.l (by decide) b hb)) (fun i hi b hb => o.block b (fun x => h.lv i hi b x hb)), nest_blocks h.q (fun b hb => o.block b (rows_ne h.q.row h.l (by decide) b hb)) (fun i hi b hb => o.block b (ints_ne (h.q.inn i hi) h.l (by decide) b hb)), nest_blocks h.d (fun b hb => o.block b (rows_ne h.d.row h.l (by decide) b hb)) (fun i hi b hb => o.block b (ints_ne (h.d.inn i hi) h.l (by decide) b hb)), ints_blocks h.e (fun b hb => o.block b (fun x => h.le b x hb)), ints_blocks h.f (fun b hb => o.block b (fun x => h.lf b x hb))⟩
theorem An.two (h : An w B L V Q D E F vs vq vd nl nv nq nd ne nf) (hl : MkdR w1 B 3 1 L nl k1) (h2 : NestO w1 B 26 3 1 V vs nv ∧ NestO w1 B 138 70 2 Q vq nq ∧ NestO w1 B 138 70 2 D vd nd ∧ IntsR w1 B 3 1 E ne ∧ IntsR w1 B 3 1 F nf) (o : OnlyN vs w1 w2) : MkdR w2 B 3 1 L nl k1 ∧ NestO w2 B 138 70 2 Q vq nq ∧ NestO w2 B 138 70 2 D vd nd ∧ IntsR w2 B 3 1 E ne ∧ IntsR w2 B 3 1 F nf := by
  obtain ⟨hv, hq, hd, he, hf⟩ := h2
  exact ⟨mkd_blocks hl (fun b hb => o.block b (fun i hi => h.lv i hi b hb)), nest_blocks hq (fun b hb => o.block b (fun i hi => rows_ne hq.row (hv.inn i hi) (by decide) b hb)) (fun j hj b hb => o.block b (fun i hi => ints_ne (hq.inn j hj) (hv.inn i hi) (by decide) b hb)), nest_blocks hd (fun b hb => o.block b (fun i hi => rows_ne hd.row (hv.inn i hi) (by decide) b hb)) (fun j hj b hb => o.block b (fun i hi => ints_ne (hd.inn j hj) (hv.inn i hi) (by decide) b hb)), ints_blocks he (fun b hb => o.block b (fun i hi => h.ev i hi b hb)), ints_blocks hf (fun b hb => o.block b (fun i hi => h.fv i hi b hb))⟩
theorem mkdn_ints {k : Int} {te ti : TypeId} {sz : Nat} {v : Value} {ns : List Nat} (h : NestM w B te ti sz v vs ns k) : ∀ i, i < vs.length → IntsR w B ti sz (vs.getD i undef) (ns.getD i 0) := fun i hi => by
  obtain ⟨xs, ho, hz⟩ := h.mkd i hi
  exact ⟨xs, ho, fun j hj => ⟨_, hz j hj⟩⟩
theorem mkd_ints {k : Int} {e : TypeId} {size n : Nat} {v : Value} (h : MkdR w B e size v n k) : IntsR w B e size v n := by
  obtain ⟨xs, ho, hz⟩ := h
  exact ⟨xs, ho, fun j hj => ⟨_, hz j hj⟩⟩
theorem An.three (h : An w B L V Q D E F vs vq vd nl nv nq nd ne nf) (hv : NestM w2 B 26 3 1 V vs nv k2) (h2 : MkdR w2 B 3 1 L nl k1 ∧ NestO w2 B 138 70 2 Q vq nq ∧ NestO w2 B 138 70 2 D vd nd ∧ IntsR w2 B 3 1 E ne ∧ IntsR w2 B 3 1 F nf) (o : OnlyN vq w2 w3) : MkdR w3 B 3 1 L nl k1 ∧ NestM w3 B 26 3 1 V vs nv k2 ∧ NestO w3 B 138 70 2 D vd nd ∧ IntsR w3 B 3 1 E ne ∧ IntsR w3 B 3 1 F nf := by
  obtain ⟨hl, hq, hd, he, hf⟩ := h2
  exact ⟨mkd_blocks hl (fun b hb => o.block b (fun i hi => ints_ne (mkd_ints hl) (hq.inn i hi) (by decide) b hb)), nestm_blocks hv (fun b hb => o.block b (fun i hi => rows_ne hv.row (hq.inn i hi) (by decide) b hb)) (fun j hj b hb => o.block b (fun i hi => ints_ne (mkdn_ints hv j hj) (hq.inn i hi) (by decide) b hb)), nest_blocks hd (fun b hb => o.block b (fun i hi => rows_ne hd.row (hq.inn i hi) (by decide) b hb)) (fun j hj b hb => o.block b (fun i hi x => h.qd i hi j hj b x hb)), ints_blocks he (fun b hb => o.block b (fun i hi => ints_ne he (hq.inn i hi) (by decide) b hb)), ints_blocks hf (fun b hb => o.block b (fun i hi => ints_ne hf (hq.inn i hi) (by decide) b hb))⟩
theorem An.four (h : An w B L V Q D E F vs vq vd nl nv nq nd ne nf) (hq : NestM w3 B 138 70 2 Q vq nq k3) (h2 : MkdR w3 B 3 1 L nl k1 ∧ NestM w3 B 26 3 1 V vs nv k2 ∧ NestO w3 B 138 70 2 D vd nd ∧ IntsR w3 B 3 1 E ne ∧ IntsR w3 B 3 1 F nf) (o : OnlyN vd w3 w4) : MkdR w4 B 3 1 L nl k1 ∧ NestM w4 B 26 3 1 V vs nv k2 ∧ NestM w4 B 138 70 2 Q vq nq k3 ∧ IntsR w4 B 3 1 E ne ∧ IntsR w4 B 3 1 F nf := by
  obtain ⟨hl, hv, hd, he, hf⟩ := h2
  exact ⟨mkd_blocks hl (fun b hb => o.block b (fun i hi => ints_ne (mkd_ints hl) (hd.inn i hi) (by decide) b hb)), nestm_blocks hv (fun b hb => o.block b (fun i hi => rows_ne hv.row (hd.inn i hi) (by decide) b hb)) (fun j hj b hb => o.block b (fun i hi => ints_ne (mkdn_ints hv j hj) (hd.inn i hi) (by decide) b hb)), nestm_blocks hq (fun b hb => o.block b (fun i hi => rows_ne hq.row (hd.inn i hi) (by decide) b hb)) (fun j hj b hb => o.block b (fun i hi => h.qd j hj i hi b hb)), ints_blocks he (fun b hb => o.block b (fun i hi => ints_ne he (hd.inn i hi) (by decide) b hb)), ints_blocks hf (fun b hb => o.block b (fun i hi => ints_ne hf (hd.inn i hi) (by decide) b hb))⟩
theorem An.five (h : An w B L V Q D E F vs vq vd nl nv nq nd ne nf) (hd : NestM w4 B 138 70 2 D vd nd k4) (h2 : MkdR w4 B 3 1 L nl k1 ∧ NestM w4 B 26 3 1 V vs nv k2 ∧ NestM w4 B 138 70 2 Q vq nq k3 ∧ IntsR w4 B 3 1 E ne ∧ IntsR w4 B 3 1 F nf) (o : Only E w4 w5) : MkdR w5 B 3 1 L nl k1 ∧ NestM w5 B 26 3 1 V vs nv k2 ∧ NestM w5 B 138 70 2 Q vq nq k3 ∧ NestM w5 B 138 70 2 D vd nd k4 ∧ IntsR w5 B 3 1 F nf := by
  obtain ⟨hl, hv, hq, he, hf⟩ := h2
  exact ⟨mkd_blocks hl (fun b hb => o.block b (h.le b hb)), nestm_blocks hv (fun b hb => o.block b (rows_ne hv.row he (by decide) b hb)) (fun j hj b hb => o.block b (fun x => h.ev j hj b x hb)), nestm_blocks hq (fun b hb => o.block b (rows_ne hq.row he (by decide) b hb)) (fun j hj b hb => o.block b (ints_ne (mkdn_ints hq j hj) he (by decide) b hb)), nestm_blocks hd (fun b hb => o.block b (rows_ne hd.row he (by decide) b hb)) (fun j hj b hb => o.block b (ints_ne (mkdn_ints hd j hj) he (by decide) b hb)), ints_blocks hf (fun b hb => o.block b (fun x => h.ef b x hb))⟩
theorem An.six (h : An w B L V Q D E F vs vq vd nl nv nq nd ne nf) (he : MkdR w5 B 3 1 E ne k5) (h2 : MkdR w5 B 3 1 L nl k1 ∧ NestM w5 B 26 3 1 V vs nv k2 ∧ NestM w5 B 138 70 2 Q vq nq k3 ∧ NestM w5 B 138 70 2 D vd nd k4 ∧ IntsR w5 B 3 1 F nf) (o : Only F w5 w6) (hF : MkdR w6 B 3 1 F nf k6) : AnM w6 B L V Q D E F vs vq vd nl nv nq nd ne nf k1 k2 k3 k4 k5 k6 := by
  obtain ⟨hl, hv, hq, hd, hf⟩ := h2
  exact ⟨mkd_blocks hl (fun b hb => o.block b (h.lf b hb)), nestm_blocks hv (fun b hb => o.block b (rows_ne hv.row hf (by decide) b hb)) (fun j hj b hb => o.block b (fun x => h.fv j hj b x hb)), nestm_blocks hq (fun b hb => o.block b (rows_ne hq.row hf (by decide) b hb)) (fun j hj b hb => o.block b (ints_ne (mkdn_ints hq j hj) hf (by decide) b hb)), nestm_blocks hd (fun b hb => o.block b (rows_ne hd.row hf (by decide) b hb)) (fun j hj b hb => o.block b (ints_ne (mkdn_ints hd j hj) hf (by decide) b hb)), mkd_blocks he (fun b hb => o.block b (h.ef b hb)), hF⟩
end
end Go.Proofs.YthaklmdhkkfigaaGreat
namespace Go.Proofs.YthaklmdhkkfigaaGreat
open Go.RowKit Go.Sort
set_option linter.unusedVariables false
attribute [local go_sem ↓] Go.wp_at_zero Go.wp_at_succ

set_option maxRecDepth 100000 in
set_option maxHeartbeats 3200000 in
theorem markKernel_own (B : Nat) (L V Q D E F : Value) (vs vq vd : List Value) (nl : Nat) (nv nq nd : List Nat) (ne nf : Nat) (k : Int) (w : World) (k2 k3 k4 k5 k6 k7 : Int)
    (h2 : k2 = k + nl) (h3 : k3 = k2 + 1 * ((sumTo (fun i => nv.getD i 0) vs.length : Nat) : Int)) (h4 : k4 = k3 + 2 * ((sumTo (fun i => nq.getD i 0) vq.length : Nat) : Int)) (h5 : k5 = k4 + 2 * ((sumTo (fun i => nd.getD i 0) vd.length : Nat) : Int)) (h6 : k6 = k5 + ne) (h7 : k7 = k6 + nf)
    (h0 : 0 ≤ k) (hb : k7 ≤ 1099511627776) (l1 : vs.length ≤ 1048576) (l2 : vq.length ≤ 1048576) (l3 : vd.length ≤ 1048576) (h : An w B L V Q D E F vs vq vd nl nv nq nd ne nf) :
    Calls Tryz.prog 16 #[.agg #[L, V, Q, D, E, F], .int .i64 k] w fun e w' => e = .returned (.int .i64 k7) ∧ AnM w' B L V Q D E F vs vq vd nl nv nq nd ne nf k k2 k3 k4 k5 k6 ∧ ∃ o, Ow B (w.alloc o) w' := by
  obtain ⟨ao, an, ac, rfl⟩ : ∃ ao n c, L = .slice ao n c := by obtain ⟨xs, ho, _⟩ := h.l; exact row_form ho
  obtain ⟨bo, bn, bc, rfl⟩ := row_form h.v.row
  obtain ⟨co, cn, cc, rfl⟩ := row_form h.q.row
  obtain ⟨po, pn, pc, rfl⟩ := row_form h.d.row
  obtain ⟨eo, en, ec, rfl⟩ : ∃ ao n c, E = .slice ao n c := by obtain ⟨xs, ho, _⟩ := h.e; exact row_form ho
  obtain ⟨fo, fn, fc, rfl⟩ : ∃ ao n c, F = .slice ao n c := by obtain ⟨xs, ho, _⟩ := h.f; exact row_form ho
  obtain ⟨W, hW⟩ : ∃ W, W = w.alloc (.cells #[.slice ao an ac, .slice bo bn bc, .slice co cn cc, .slice po pn pc, .slice eo en ec, .slice fo fn fc] 35) := ⟨_, rfl⟩
  have HB : Hid (∀ w', Ow B W w' → (w'.cell? ⟨w.heap.size, 0, none⟩ = some (.slice ao an ac) ∧ w'.cell? ⟨w.heap.size, 1, none⟩ = some (.slice bo bn bc) ∧ w'.cell? ⟨w.heap.size, 2, none⟩ = some (.slice co cn cc) ∧ w'.cell? ⟨w.heap.size, 3, none⟩ = some (.slice po pn pc) ∧ w'.cell? ⟨w.heap.size, 4, none⟩ = some (.slice eo en ec) ∧ w'.cell? ⟨w.heap.size, 5, none⟩ = some (.slice fo fn fc))) := hid (fun w' hm => six_cells (hm.box (by rw [hW]; exact heap_alloc_new w _) (by decide) (by decide)))
  have HA : Hid (An W B (.slice ao an ac) (.slice bo bn bc) (.slice co cn cc) (.slice po pn pc) (.slice eo en ec) (.slice fo fn fc) vs vq vd nl nv nq nd ne nf) := hid (by rw [hW]; exact h.below (below1 _ _))
  have HWW := hid hW
  obtain ⟨SV, hSV⟩ : ∃ x, x = sumTo (fun i => nv.getD i 0) vs.length := ⟨_, rfl⟩
  obtain ⟨SQ, hSQ⟩ : ∃ x, x = sumTo (fun i => nq.getD i 0) vq.length := ⟨_, rfl⟩
  obtain ⟨SD, hSD⟩ : ∃ x, x = sumTo (fun i => nd.getD i 0) vd.length := ⟨_, rfl⟩
  have C1 := hid (fun w' (b0 : 0 ≤ k) (b1 : k + (nl : Int) ≤ 1099511627776) ht => markInt_own B (.slice ao an ac) nl k w' b0 b1 ht)
  have C2 := hid (fun w' (b0 : 0 ≤ k2) b1 ht => markInS_own B (.slice bo bn bc) vs nv k2 w' b0 b1 l1 ht)
  have C3 := hid (fun w' (b0 : 0 ≤ k3) b1 ht => markEvS_own B (.slice co cn cc) vq nq k3 w' b0 b1 l2 ht)
  have C4 := hid (fun w' (b0 : 0 ≤ k4) b1 ht => markEvS_own B (.slice po pn pc) vd nd k4 w' b0 b1 l3 ht)
  have C5 := hid (fun w' (b0 : 0 ≤ k5) (b1 : k5 + (ne : Int) ≤ 1099511627776) ht => markInt_own B (.slice eo en ec) ne k5 w' b0 b1 ht)
  have C6 := hid (fun w' (b0 : 0 ≤ k6) (b1 : k6 + (nf : Int) ≤ 1099511627776) ht => markInt_own B (.slice fo fn fc) nf k6 w' b0 b1 ht)
  rw [← hSV] at C2 h3
  rw [← hSQ] at C3 h4
  rw [← hSD] at C4 h5
  have R : Hid ((0 ≤ k2 ∧ 0 ≤ k3 ∧ 0 ≤ k4 ∧ 0 ≤ k5 ∧ 0 ≤ k6) ∧ k2 ≤ 1099511627776 ∧ k3 ≤ 1099511627776 ∧ k4 ≤ 1099511627776 ∧ k5 ≤ 1099511627776 ∧ k6 ≤ 1099511627776 ∧ k7 ≤ 1099511627776) := hid (by omega)
  rw [← h2] at C1
  rw [← h3] at C2
  rw [← h4] at C3
  rw [← h5] at C4
  rw [← h6] at C5
  rw [← h7] at C6
  have q0 := HB.out W (Ow.refl _ _)
  rw [hW] at q0
  obtain ⟨q1, q2, q3, q4, q5, q6⟩ := q0
  clear h hW h2 h3 h4 h5 h6 h7 hSV hSQ hSD hb l1 l2 l3
  go_enter Tryz.func16, Tryz.ntmps16
  go_wp2_with (first
    | (go_at_call_of 51 (Value.slice ao an ac); rw [← HWW.out]; refine (C1.out _ h0 R.out.2.1 HA.out.l).mono ?_; rintro e x1 ⟨rfl, m1, o1⟩; have M1 := hid m1; have O1 := hid (HA.out.one o1); have W1 := hid (o1.ow HA.out.l (.inl rfl)); clear q1 q2 q3 q4 q5 q6; obtain ⟨q1, q2, q3, q4, q5, q6⟩ := HB.out _ W1.out; clear m1 o1)
    | (go_at_call 52; refine (C2.out _ R.out.1.1 R.out.2.2.1 O1.out.1).mono ?_; rintro e x2 ⟨rfl, m2, o2⟩; have M2 := hid m2; have O2 := hid (HA.out.two M1.out O1.out o2); have W2 := hid (W1.out.trans (o2.ow O1.out.1 (.inl rfl))); clear q1 q2 q3 q4 q5 q6; obtain ⟨q1, q2, q3, q4, q5, q6⟩ := HB.out _ W2.out; clear m2 o2)
    | (go_at_call_of 53 (Value.slice co cn cc); refine (C3.out _ R.out.1.2.1 R.out.2.2.2.1 O2.out.2.1).mono ?_; rintro e x3 ⟨rfl, m3, o3⟩; have M3 := hid m3; have O3 := hid (HA.out.three M2.out O2.out o3); have W3 := hid (W2.out.trans (o3.ow O2.out.2.1 (.inr rfl))); clear q1 q2 q3 q4 q5 q6; obtain ⟨q1, q2, q3, q4, q5, q6⟩ := HB.out _ W3.out; clear m3 o3)
    | (go_at_call_of 53 (Value.slice po pn pc); refine (C4.out _ R.out.1.2.2.1 R.out.2.2.2.2.1 O3.out.2.2.1).mono ?_; rintro e x4 ⟨rfl, m4, o4⟩; have M4 := hid m4; have O4 := hid (HA.out.four M3.out O3.out o4); have W4 := hid (W3.out.trans (o4.ow O3.out.2.2.1 (.inr rfl))); clear q1 q2 q3 q4 q5 q6; obtain ⟨q1, q2, q3, q4, q5, q6⟩ := HB.out _ W4.out; clear m4 o4)
    | (go_at_call_of 51 (Value.slice eo en ec); refine (C5.out _ R.out.1.2.2.2.1 R.out.2.2.2.2.2.1 O4.out.2.2.2.1).mono ?_; rintro e x5 ⟨rfl, m5, o5⟩; have M5 := hid m5; have O5 := hid (HA.out.five M4.out O4.out o5); have W5 := hid (W4.out.trans (o5.ow O4.out.2.2.2.1 (.inl rfl))); clear q1 q2 q3 q4 q5 q6; obtain ⟨q1, q2, q3, q4, q5, q6⟩ := HB.out _ W5.out; clear m5 o5)
    | (go_at_call_of 51 (Value.slice fo fn fc); refine (C6.out _ R.out.1.2.2.2.2 R.out.2.2.2.2.2.2 O5.out.2.2.2.2).mono ?_; rintro e x6 ⟨rfl, m6, o6⟩; have M6 := hid (HA.out.six M5.out O5.out o6 m6); have W6 := hid (W5.out.trans (o6.ow O5.out.2.2.2.2 (.inl rfl))); clear m6 o6))
  go_ret
  exact ⟨rfl, M6.out, _, by have := W6.out; rw [HWW.out] at this; exact this⟩

set_option maxRecDepth 100000 in
set_option maxHeartbeats 3200000 in
theorem heldKernel_own (B : Nat) (L V Q D E F : Value) (vs vq vd : List Value) (nl : Nat) (nv nq nd : List Nat) (ne nf : Nat) (k : Int) (w : World) (k2 k3 k4 k5 k6 k7 : Int)
    (h2 : k2 = k + nl) (h3 : k3 = k2 + 1 * ((sumTo (fun i => nv.getD i 0) vs.length : Nat) : Int)) (h4 : k4 = k3 + 2 * ((sumTo (fun i => nq.getD i 0) vq.length : Nat) : Int)) (h5 : k5 = k4 + 2 * ((sumTo (fun i => nd.getD i 0) vd.length : Nat) : Int)) (h6 : k6 = k5 + ne) (h7 : k7 = k6 + nf)
    (h0 : 0 ≤ k) (hb : k7 ≤ 1099511627776) (l1 : vs.length ≤ 1048576) (l2 : vq.length ≤ 1048576) (l3 : vd.length ≤ 1048576) (h : AnM w B L V Q D E F vs vq vd nl nv nq nd ne nf k k2 k3 k4 k5 k6) :
    Calls Tryz.prog 18 #[.agg #[L, V, Q, D, E, F], .int .i64 k] w fun e w' => e = .returned (.int .i64 k7) ∧ Below w.heap.size w w' := by
  obtain ⟨ao, an, ac, rfl⟩ : ∃ ao n c, L = .slice ao n c := by obtain ⟨xs, ho, _⟩ := h.l; exact row_form ho
  obtain ⟨bo, bn, bc, rfl⟩ := row_form h.v.row
  obtain ⟨co, cn, cc, rfl⟩ := row_form h.q.row
  obtain ⟨po, pn, pc, rfl⟩ := row_form h.d.row
  obtain ⟨eo, en, ec, rfl⟩ : ∃ ao n c, E = .slice ao n c := by obtain ⟨xs, ho, _⟩ := h.e; exact row_form ho
  obtain ⟨fo, fn, fc, rfl⟩ : ∃ ao n c, F = .slice ao n c := by obtain ⟨xs, ho, _⟩ := h.f; exact row_form ho
  have B1 := below1 w (.cells #[.slice ao an ac, .slice bo bn bc, .slice co cn cc, .slice po pn pc, .slice eo en ec, .slice fo fn fc] 35)
  have HA := hid (h.below B1)
  have BB := hid B1
  obtain ⟨SV, hSV⟩ : ∃ x, x = sumTo (fun i => nv.getD i 0) vs.length := ⟨_, rfl⟩
  obtain ⟨SQ, hSQ⟩ : ∃ x, x = sumTo (fun i => nq.getD i 0) vq.length := ⟨_, rfl⟩
  obtain ⟨SD, hSD⟩ : ∃ x, x = sumTo (fun i => nd.getD i 0) vd.length := ⟨_, rfl⟩
  have C1 := hid (fun w' (b0 : 0 ≤ k) (b1 : k + (nl : Int) ≤ 1099511627776) ht => heldInt_own B (.slice ao an ac) nl k w' b0 b1 ht)
  have C2 := hid (fun w' (b0 : 0 ≤ k2) b1 ht => heldInS_own B (.slice bo bn bc) vs nv k2 w' b0 b1 l1 ht)
  have C3 := hid (fun w' (b0 : 0 ≤ k3) b1 ht => heldEvS_own B (.slice co cn cc) vq nq k3 w' b0 b1 l2 ht)
  have C4 := hid (fun w' (b0 : 0 ≤ k4) b1 ht => heldEvS_own B (.slice po pn pc) vd nd k4 w' b0 b1 l3 ht)
  have C5 := hid (fun w' (b0 : 0 ≤ k5) (b1 : k5 + (ne : Int) ≤ 1099511627776) ht => heldInt_own B (.slice eo en ec) ne k5 w' b0 b1 ht)
  have C6 := hid (fun w' (b0 : 0 ≤ k6) (b1 : k6 + (nf : Int) ≤ 1099511627776) ht => heldInt_own B (.slice fo fn fc) nf k6 w' b0 b1 ht)
  rw [← hSV] at C2 h3
  rw [← hSQ] at C3 h4
  rw [← hSD] at C4 h5
  have R : Hid ((0 ≤ k2 ∧ 0 ≤ k3 ∧ 0 ≤ k4 ∧ 0 ≤ k5 ∧ 0 ≤ k6) ∧ k2 ≤ 1099511627776 ∧ k3 ≤ 1099511627776 ∧ k4 ≤ 1099511627776 ∧ k5 ≤ 1099511627776 ∧ k6 ≤ 1099511627776 ∧ k7 ≤ 1099511627776) := hid (by omega)
  have n2 : ¬ k2 < 0 := by omega
  have n3 : ¬ k3 < 0 := by omega
  have n4 : ¬ k4 < 0 := by omega
  have n5 : ¬ k5 < 0 := by omega
  have n6 : ¬ k6 < 0 := by omega
  have n7 : ¬ k7 < 0 := by omega
  rw [← h2] at C1
  rw [← h3] at C2
  rw [← h4] at C3
  rw [← h5] at C4
  rw [← h6] at C5
  rw [← h7] at C6
  clear h B1 h2 h3 h4 h5 h6 h7 hSV hSQ hSD hb l1 l2 l3
  go_enter Tryz.func18, Tryz.ntmps18
  go_wp2_with (first
    | (go_at_call_of 54 (Value.slice ao an ac); refine (C1.out _ h0 R.out.2.1 HA.out.l).mono ?_; rintro e x ⟨rfl, hx⟩; obtain rfl := hx.symm)
    | (go_at_call 55; refine (C2.out _ R.out.1.1 R.out.2.2.1 HA.out.v).mono ?_; rintro e x ⟨rfl, hx⟩; obtain rfl := hx.symm)
    | (go_at_call_of 56 (Value.slice co cn cc); refine (C3.out _ R.out.1.2.1 R.out.2.2.2.1 HA.out.q).mono ?_; rintro e x ⟨rfl, hx⟩; obtain rfl := hx.symm)
    | (go_at_call_of 56 (Value.slice po pn pc); refine (C4.out _ R.out.1.2.2.1 R.out.2.2.2.2.1 HA.out.d).mono ?_; rintro e x ⟨rfl, hx⟩; obtain rfl := hx.symm)
    | (go_at_call_of 54 (Value.slice eo en ec); refine (C5.out _ R.out.1.2.2.2.1 R.out.2.2.2.2.2.1 HA.out.e).mono ?_; rintro e x ⟨rfl, hx⟩; obtain rfl := hx.symm)
    | (go_at_call_of 54 (Value.slice fo fn fc); refine (C6.out _ R.out.1.2.2.2.2 R.out.2.2.2.2.2.2 HA.out.f).mono ?_; rintro e x ⟨rfl, hx⟩; obtain rfl := hx.symm))
  go_ret
  exact ⟨rfl, BB.out⟩
end Go.Proofs.YthaklmdhkkfigaaGreat
