import Derived.Test.YtdpejnacganadaaGreatV11
import Derived.Test.YtdpejnacganadaaGreatV8
import Derived.Test.YtdpejnacganadaaGreatK8e
import Derived.Deep.RegionWith
import Derived.Deep.DeepCutAuto
namespace Go.Proofs.YtdpejnacganadaaGreat
open Go.RowKit Go.Sort
set_option linter.unusedVariables false
attribute [local go_sem ↓] Go.wp_at_zero Go.wp_at_succ

theorem old_alloc {w : World} {H q : Nat} (h : H < w.heap.size) (o : Obj) : (w.alloc o).cell? ⟨H, q, none⟩ = w.cell? ⟨H, q, none⟩ := World.cell?_of_block (a := ⟨H, q, none⟩) (heap_alloc_old w o h)
abbrev ZB : Obj := .cells #[.slice none 0 0, .slice none 0 0] 28
theorem trk {w X Y : World} {q : Nat} {o : Obj} (h : Below w.heap.size w X ∧ X.heap[q]? = some o) (hb : Below X.heap.size X Y) : Below w.heap.size w Y ∧ Y.heap[q]? = some o := ⟨h.1.trans (hb.mono h.1.size), block_below h.2 hb⟩
theorem OutE.base {B B' : Nat} {w : World} {kv vv ev : Value} {ks vs : List Int} {es : List EffD} (h : OutE B w kv vv ev ks vs es) (hB : B' ≤ B) : OutE B' w kv vv ev ks vs es := ⟨ownsRow_base h.k hB, ownsRow_base h.v hB, ownsRow_base h.e hB, h.ne⟩
theorem SRow.at {w : World} {L n g : Nat} {ss : List StmD} (h : SRow w L (.slice (some ⟨g, 0, none⟩) n n) ss) (hf : Fits ss) : StmsOf w (some ⟨g, 0, none⟩) n ss := by
  obtain ⟨g', e, hs⟩ := h.stms (fun i hi => Nat.le_trans (hf.2 i hi) (by omega))
  simp only [Value.slice.injEq, Option.some.injEq, Addr.mk.injEq] at e
  obtain ⟨⟨rfl, _⟩, rfl, _⟩ := e
  exact hs

/-- Behind the model's call. -/
structure Fst (w : World) (qi : Nat) (aq : Array Value) (RK RV : List Int) (RE : List EffD) (H : Nat) (kS vS eS : Value) (X : World) : Prop where
  bel : Below w.heap.size w X
  q : X.heap[qi]? = some (.cells aq 25 (0, 0))
  b : X.heap[H]? = some (.cells #[kS, vS] 28 (0, 0))
  o : OutE 0 X kS vS eS RK RV RE
theorem Fst.below {w : World} {qi : Nat} {aq : Array Value} {RK RV : List Int} {RE : List EffD} {H : Nat} {kS vS eS : Value} {X Y : World} (h : Fst w qi aq RK RV RE H kS vS eS X) (hb : Below X.heap.size X Y) : Fst w qi aq RK RV RE H kS vS eS Y :=
  ⟨h.bel.trans (hb.mono h.bel.size), block_below h.q hb, block_below h.b hb, h.o.below hb⟩
theorem fst_new {w X : World} {qi : Nat} {aq : Array Value} {RK RV : List Int} {RE : List EffD} {kS vS eS : Value} (h : Below w.heap.size w X ∧ X.heap[qi]? = some (.cells aq 25 (0, 0))) (ho : OutE 0 X kS vS eS RK RV RE) : Fst w qi aq RK RV RE X.heap.size kS vS eS (X.alloc (.cells #[kS, vS] 28)) :=
  ⟨h.1.alloc h.1.size _, block_below h.2 (below1 _ _), heap_alloc_new _ _, ho.below (below1 _ _)⟩
theorem fst_set {w X : World} {qi : Nat} {aq : Array Value} {RK RV : List Int} {RE : List EffD} {H : Nat} {kS vS eS x y : Value} (h : Below w.heap.size w X ∧ X.heap[qi]? = some (.cells aq 25 (0, 0))) (ho : OutE 0 X kS vS eS RK RV RE) (hH : X.heap[H]? = some (.cells #[x, y] 28 (0, 0))) (hl : w.heap.size ≤ H) : Fst w qi aq RK RV RE H kS vS eS ((X.setCell ⟨H, 0, none⟩ kS).setCell ⟨H, 1, none⟩ vS) := by
  have m1 := heap_setCell_same X H 0 _ _ kS hH
  refine ⟨out_bel h.1 hl, ?_, out_cells hH, ho.set2 hH (by decide) (by decide) 0 1 _ _⟩
  exact (Below.heap_setCell _ _ _ _ (far_block m1 ((Below.heap_setCell _ _ _ _ (far_block hH h.2 (by decide))).trans h.2) (by decide))).trans ((Below.heap_setCell _ _ _ _ (far_block hH h.2 (by decide))).trans h.2)

/-- What the law knows behind the program's call. -/
structure Bd (w : World) (aq : Array Value) (ss : List StmD) (RK RV : List Int) (RE : List EffD) (kn vn : Nat) (H HA HG : Nat) (kS vS eS kI vI eI x0 : Value) (g6 g7 : Nat) (X : World) : Prop where
  bel : Below w.heap.size w X
  q : X.heap[w.heap.size]? = some (.cells aq 25 (0, 0))
  bw : X.heap[H]? = some (.cells #[kS, vS] 28 (0, 0))
  bx : X.heap[HA]? = some (.cells #[.slice (some ⟨g6, 0, none⟩) kn kn, .slice (some ⟨g7, 0, none⟩) vn vn] 28 (0, 0))
  bg : X.heap[HG]? = some (.cells #[kI, vI] 28 (0, 0))
  os : OutE 0 X kS vS eS RK RV RE
  oi : OutE 0 X kI vI eI RK RV RE
  ts : TS X w.heap.size x0 ss
  xk : IntsR X w.heap.size 3 1 (.slice (some ⟨g6, 0, none⟩) kn kn) kn
  xv : IntsR X w.heap.size 3 1 (.slice (some ⟨g7, 0, none⟩) vn vn) vn
  sx : ∀ b, (kS.ownBlock = some b ∨ vS.ownBlock = some b ∨ eS.ownBlock = some b) ∨ (kI.ownBlock = some b ∨ vI.ownBlock = some b ∨ eI.ownBlock = some b) → b ≠ g6 ∧ b ≠ g7
  si : ∀ b, (kS.ownBlock = some b ∨ vS.ownBlock = some b ∨ eS.ownBlock = some b) → ¬ (kI.ownBlock = some b ∨ vI.ownBlock = some b ∨ eI.ownBlock = some b)
  lt : g6 < g7
  lw : w.heap.size < g6 ∧ ∀ b, (kI.ownBlock = some b ∨ vI.ownBlock = some b ∨ eI.ownBlock = some b) → w.heap.size < b
theorem TS.of_below {w w' : World} {L : Nat} {v : Value} {ss : List StmD} (h : TS w L v ss) (hb : Below w.heap.size w w') : TS w' L v ss := by
  obtain ⟨g, F, h1, h2, h3, h4⟩ := h
  refine ⟨g, F, h1, h2, h3.of_block (hb.block _ h3.lt), fun i hi => ⟨(h4 i hi).1, (h4 i hi).2.1, (h4 i hi).2.2.1, ?_⟩⟩
  obtain ⟨g', F', k1, k2, k3, k4⟩ := (h4 i hi).2.2.2
  exact ⟨g', F', k1, k2, k3.of_block (hb.block _ k3.lt), k4⟩
theorem Mk.box {L : Nat} {w w' : World} {H : Nat} {cs : Array Value} {t : TypeId} {fr : Nat × Nat} (h : Mk L w w') (hb : w.heap[H]? = some (.cells cs t fr)) (h1 : t ≠ 96) (h2 : t ≠ 55) : w'.heap[H]? = some (.cells cs t fr) := (h.other H cs t fr hb h1 h2).trans hb
theorem Mk.own {L : Nat} {w w' : World} {B : Nat} {e : TypeId} {size : Nat} {v : Value} {n : Nat} {xs : List Value} (h : Mk L w w') (ho : w.ownsRow B e size v n xs) (h1 : e ≠ 96) (h2 : e ≠ 55) : w'.ownsRow B e size v n xs := by
  refine ⟨ho.1, ?_⟩
  rcases ho.2 with h0 | ⟨g, cap, cur, k1, k2, k3, k4⟩
  · exact .inl h0
  · exact .inr ⟨g, cap, cur, k1, k2, h.box k3 h1 h2, k4⟩
theorem Mk.out {L : Nat} {w w' : World} {B : Nat} {kv vv ev : Value} {ks vs : List Int} {es : List EffD} (h : Mk L w w') (ho : OutE B w kv vv ev ks vs es) : OutE B w' kv vv ev ks vs es := ⟨h.own ho.k (by decide) (by decide), h.own ho.v (by decide) (by decide), h.own ho.e (by decide) (by decide), ho.ne⟩
theorem Mk.ints {L : Nat} {w w' : World} {B : Nat} {v : Value} {n : Nat} (h : Mk L w w') (ho : IntsR w B 3 1 v n) : IntsR w' B 3 1 v n := by
  obtain ⟨xs, ho, hz⟩ := ho
  exact ⟨xs, h.own ho (by decide) (by decide), hz⟩
section
variable {w : World} {aq : Array Value} {ss : List StmD} {RK RV : List Int} {RE : List EffD} {kn vn H HA HG : Nat} {kS vS eS kI vI eI x0 : Value} {g6 g7 : Nat} {X Y : World}
theorem Bd.below (h : Bd w aq ss RK RV RE kn vn H HA HG kS vS eS kI vI eI x0 g6 g7 X) (hb : Below X.heap.size X Y) : Bd w aq ss RK RV RE kn vn H HA HG kS vS eS kI vI eI x0 g6 g7 Y :=
  ⟨h.bel.trans (hb.mono h.bel.size), block_below h.q hb, block_below h.bw hb, block_below h.bx hb, block_below h.bg hb, h.os.below hb, h.oi.below hb, h.ts.of_below hb, h.xk.below hb, h.xv.below hb, h.sx, h.si, h.lt, h.lw⟩
theorem Bd.mk' (h : Bd w aq ss RK RV RE kn vn H HA HG kS vS eS kI vI eI x0 g6 g7 X) (hm : Mk w.heap.size X Y) : Bd w aq ss RK RV RE kn vn H HA HG kS vS eS kI vI eI x0 g6 g7 Y :=
  ⟨h.bel.trans hm.below, hm.box h.q (by decide) (by decide), hm.box h.bw (by decide) (by decide), hm.box h.bx (by decide) (by decide), hm.box h.bg (by decide) (by decide), hm.out h.os, hm.out h.oi, hm.ts _ _ h.ts, hm.ints h.xk, hm.ints h.xv, h.sx, h.si, h.lt, h.lw⟩
/-- Behind the marking of the second argument. -/
structure Be (w : World) (aq : Array Value) (RK RV : List Int) (RE : List EffD) (H HG : Nat) (kS vS eS kI vI eI : Value) (X : World) : Prop where
  bel : Below w.heap.size w X
  q : X.heap[w.heap.size]? = some (.cells aq 25 (0, 0))
  bw : X.heap[H]? = some (.cells #[kS, vS] 28 (0, 0))
  bg : X.heap[HG]? = some (.cells #[kI, vI] 28 (0, 0))
  os : OutE 0 X kS vS eS RK RV RE
  oi : OutE 0 X kI vI eI RK RV RE
  si : ∀ b, (kS.ownBlock = some b ∨ vS.ownBlock = some b ∨ eS.ownBlock = some b) → ¬ (kI.ownBlock = some b ∨ vI.ownBlock = some b ∨ eI.ownBlock = some b)
  lw : ∀ b, (kI.ownBlock = some b ∨ vI.ownBlock = some b ∨ eI.ownBlock = some b) → w.heap.size < b
theorem Be.below (h : Be w aq RK RV RE H HG kS vS eS kI vI eI X) (hb : Below X.heap.size X Y) : Be w aq RK RV RE H HG kS vS eS kI vI eI Y :=
  ⟨h.bel.trans (hb.mono h.bel.size), block_below h.q hb, block_below h.bw hb, block_below h.bg hb, h.os.below hb, h.oi.below hb, h.si, h.lw⟩
theorem own_tag {w : World} {B : Nat} {e : TypeId} {size : Nat} {v : Value} {n : Nat} {xs : List Value} (h : w.ownsRow B e size v n xs) {H : Nat} {cs : Array Value} {t : TypeId} (hH : w.heap[H]? = some (.cells cs t (0, 0))) (ht : t ≠ e) : v.ownBlock ≠ some H := own_far h ht hH
theorem Bd.marked (h : Bd w aq ss RK RV RE kn vn H HA HG kS vS eS kI vI eI x0 g6 g7 X) (ho : Only2 (.slice (some ⟨g6, 0, none⟩) kn kn) (.slice (some ⟨g7, 0, none⟩) vn vn) X Y) : Be w aq RK RV RE H HG kS vS eS kI vI eI Y := by
  obtain ⟨xs, hk, _⟩ := h.xk
  obtain ⟨ys, hv, _⟩ := h.xv
  have box : ∀ {B : Nat} {cs : Array Value} {t : TypeId}, X.heap[B]? = some (.cells cs t (0, 0)) → t ≠ 3 → Y.heap[B]? = some (.cells cs t (0, 0)) := fun hB ht => (ho.block _ (lt_of_block hB) (own_tag hk hB ht) (own_tag hv hB ht)).trans hB
  refine ⟨⟨ho.os.trans h.bel.os, ho.tape.trans h.bel.tape, ho.output.trans h.bel.output, Nat.le_trans h.bel.size ho.size, fun k hk' => (ho.block k (Nat.lt_of_lt_of_le hk' h.bel.size) ?_ ?_).trans (h.bel.block k hk')⟩, box h.q (by decide), box h.bw (by decide), box h.bg (by decide), ho.out h.os (fun b hb => ?_), ho.out h.oi (fun b hb => ?_), h.si, h.lw.2⟩
  · have := h.lw.1; simp [Value.ownBlock]; omega
  · have := h.lw.1; have := h.lt; simp [Value.ownBlock]; omega
  · have := h.sx b (.inl hb); simp [Value.ownBlock]; omega
  · have := h.sx b (.inr hb); simp [Value.ownBlock]; omega
/-- Behind the marking of the answer. -/
structure Bf (w : World) (aq : Array Value) (RK RV : List Int) (RE : List EffD) (H HG : Nat) (kS vS eS kI vI eI : Value) (X : World) : Prop where
  bel : Below w.heap.size w X
  q : X.heap[w.heap.size]? = some (.cells aq 25 (0, 0))
  bw : X.heap[H]? = some (.cells #[kS, vS] 28 (0, 0))
  bg : X.heap[HG]? = some (.cells #[kI, vI] 28 (0, 0))
  os : OutE 0 X kS vS eS RK RV RE
  ie : IntsR X 0 72 4 eI RE.length
  si : ∀ b, (kS.ownBlock = some b ∨ vS.ownBlock = some b ∨ eS.ownBlock = some b) → ¬ (kI.ownBlock = some b ∨ vI.ownBlock = some b ∨ eI.ownBlock = some b)
  lw : ∀ b, (kI.ownBlock = some b ∨ vI.ownBlock = some b ∨ eI.ownBlock = some b) → w.heap.size < b
  kt : ∀ b, (kI.ownBlock = some b ∨ vI.ownBlock = some b) → ∃ cs, X.heap[b]? = some (.cells cs 3 (0, 0))
  et : ∀ b, eI.ownBlock = some b → ∃ cs, X.heap[b]? = some (.cells cs 72 (0, 0))
theorem own_has {w : World} {B : Nat} {e : TypeId} {size : Nat} {v : Value} {n : Nat} {xs : List Value} (h : w.ownsRow B e size v n xs) : ∀ b, v.ownBlock = some b → ∃ cs, w.heap[b]? = some (.cells cs e (0, 0)) := by
  intro b hb
  rcases h.2 with ⟨h0, _⟩ | ⟨g, cap, cur, k1, k2, k3, k4⟩
  · rw [h0] at hb; cases hb
  · rw [k1] at hb; simp [Value.ownBlock] at hb; subst hb; exact ⟨_, k3⟩
theorem Be.marked (h : Be w aq RK RV RE H HG kS vS eS kI vI eI X) (ho : Only2 kI vI X Y) (mk : MkdR Y 0 3 1 kI RK.length 1) (mv : MkdR Y 0 3 1 vI RV.length (1 + RK.length)) : Bf w aq RK RV RE H HG kS vS eS kI vI eI Y := by
  have box : ∀ {B : Nat} {cs : Array Value} {t : TypeId}, X.heap[B]? = some (.cells cs t (0, 0)) → t ≠ 3 → Y.heap[B]? = some (.cells cs t (0, 0)) := fun hB ht => (ho.block _ (lt_of_block hB) (own_tag h.oi.k hB ht) (own_tag h.oi.v hB ht)).trans hB
  have he : Y.ownsRow 0 72 4 eI RE.length (effCells RE) := ho.own h.oi.e (fun b hb => by obtain ⟨cs, hc⟩ := own_has h.oi.e b hb; exact own_tag h.oi.k hc (by decide)) (fun b hb => by obtain ⟨cs, hc⟩ := own_has h.oi.e b hb; exact own_tag h.oi.v hc (by decide))
  refine ⟨⟨ho.os.trans h.bel.os, ho.tape.trans h.bel.tape, ho.output.trans h.bel.output, Nat.le_trans h.bel.size ho.size, fun k hk' => (ho.block k (Nat.lt_of_lt_of_le hk' h.bel.size) (fun e => ?_) (fun e => ?_)).trans (h.bel.block k hk')⟩, box h.q (by decide), box h.bw (by decide), box h.bg (by decide), ho.out h.os (fun b hb => ⟨fun e => h.si b hb (.inl e), fun e => h.si b hb (.inr (.inl e))⟩), ints_eff he, h.si, h.lw, ?_, own_has he⟩
  · have := h.lw k (.inl e); omega
  · have := h.lw k (.inr (.inl e)); omega
  · rintro b (hb | hb)
    · obtain ⟨xs, o, _⟩ := mk; exact own_has o b hb
    · obtain ⟨xs, o, _⟩ := mv; exact own_has o b hb
/-- Behind both markings. -/
structure Bz (w : World) (aq : Array Value) (RK RV : List Int) (RE : List EffD) (H HG : Nat) (kS vS eS kI vI : Value) (X : World) : Prop where
  bel : Below w.heap.size w X
  q : X.heap[w.heap.size]? = some (.cells aq 25 (0, 0))
  bw : X.heap[H]? = some (.cells #[kS, vS] 28 (0, 0))
  bg : X.heap[HG]? = some (.cells #[kI, vI] 28 (0, 0))
  os : OutE 0 X kS vS eS RK RV RE
theorem Bz.below (h : Bz w aq RK RV RE H HG kS vS eS kI vI X) (hb : Below X.heap.size X Y) : Bz w aq RK RV RE H HG kS vS eS kI vI Y := ⟨h.bel.trans (hb.mono h.bel.size), block_below h.q hb, block_below h.bw hb, block_below h.bg hb, h.os.below hb⟩
theorem Bf.marked (h : Bf w aq RK RV RE H HG kS vS eS kI vI eI X) (ho : Only eI X Y) (mk : MkdR X 0 3 1 kI RK.length 1) (mv : MkdR X 0 3 1 vI RV.length (1 + RK.length)) : Bz w aq RK RV RE H HG kS vS eS kI vI Y ∧ MkdR Y 0 3 1 kI RK.length 1 ∧ MkdR Y 0 3 1 vI RV.length (1 + RK.length) := by
  obtain ⟨xs, he, _⟩ := h.ie
  have box : ∀ {B : Nat} {cs : Array Value} {t : TypeId}, X.heap[B]? = some (.cells cs t (0, 0)) → t ≠ 72 → Y.heap[B]? = some (.cells cs t (0, 0)) := fun hB ht => (ho.block _ (own_tag he hB ht)).trans hB
  have sp : ∀ b, (kS.ownBlock = some b ∨ vS.ownBlock = some b ∨ eS.ownBlock = some b) → eI.ownBlock ≠ some b := fun b hb e => h.si b hb (.inr (.inr e))
  have si : ∀ b, (kI.ownBlock = some b ∨ vI.ownBlock = some b) → eI.ownBlock ≠ some b := fun b hb => by obtain ⟨cs, hc⟩ := h.kt b hb; exact own_tag he hc (by decide)
  refine ⟨⟨⟨ho.os.trans h.bel.os, ho.tape.trans h.bel.tape, ho.output.trans h.bel.output, Nat.le_trans h.bel.size (Nat.le_of_eq ho.size.symm), fun k hk' => (ho.block k (fun e => by have := h.lw k (.inr (.inr e)); omega)).trans (h.bel.block k hk')⟩, box h.q (by decide), box h.bw (by decide), box h.bg (by decide), ?_⟩, ho.mkd mk (fun b hb => si b (.inl hb)), ho.mkd mv (fun b hb => si b (.inr hb))⟩
  exact ⟨ho.own h.os.k (fun b hb => sp b (.inl hb)), ho.own h.os.v (fun b hb => sp b (.inr (.inl hb))), ho.own h.os.e (fun b hb => sp b (.inr (.inr hb))), h.os.ne⟩
theorem mkBd {wc w3 w4 w5 : World} {L3 : Nat} (hF : Fst w w.heap.size aq RK RV RE H kS vS eS wc) (hb3 : Below wc.heap.size wc w3) (hs3 : SRow w3 L3 x0 ss) (hL3 : w.heap.size ≤ L3) (hb4 : Below w3.heap.size w3 w4) (ik : IntsR w4 w3.heap.size 3 1 (.slice (some ⟨g6, 0, none⟩) kn kn) kn) (iv : IntsR w4 w3.heap.size 3 1 (.slice (some ⟨g7, 0, none⟩) vn vn) vn) (hlt : g6 < g7)
    (ho : OutE (w4.alloc (.cells #[.slice (some ⟨g6, 0, none⟩) kn kn, .slice (some ⟨g7, 0, none⟩) vn vn] 28)).heap.size w5 kI vI eI RK RV RE) (hb5 : Below (w4.alloc (.cells #[.slice (some ⟨g6, 0, none⟩) kn kn, .slice (some ⟨g7, 0, none⟩) vn vn] 28)).heap.size (w4.alloc (.cells #[.slice (some ⟨g6, 0, none⟩) kn kn, .slice (some ⟨g7, 0, none⟩) vn vn] 28)) w5) :
    Bd w aq ss RK RV RE kn vn H w4.heap.size w5.heap.size kS vS eS kI vI eI x0 g6 g7 (w5.alloc (.cells #[kI, vI] 28)) := by
  have a5 : Below w4.heap.size w4 w5 := (below1 _ _).trans (hb5.mono (by simp))
  have a45 : Below w3.heap.size w3 w5 := hb4.trans (a5.mono hb4.size)
  have all : Below wc.heap.size wc w5 := hb3.trans (a45.mono hb3.size)
  have hF5 := (hF.below all).below (below1 w5 (.cells #[kI, vI] 28))
  have e1 : wc.heap.size ≤ w3.heap.size := hb3.size
  have e2 : w3.heap.size ≤ w4.heap.size := hb4.size
  have e3 : w.heap.size ≤ wc.heap.size := hF.bel.size
  have q0 := lt_of_block hF.q
  have g6l : w3.heap.size ≤ g6 ∧ g6 < w4.heap.size := by obtain ⟨xs, o, _⟩ := ik; exact o.lt g6 rfl
  have g7l : w3.heap.size ≤ g7 ∧ g7 < w4.heap.size := by obtain ⟨xs, o, _⟩ := iv; exact o.lt g7 rfl
  have sS : ∀ b, (kS.ownBlock = some b ∨ vS.ownBlock = some b ∨ eS.ownBlock = some b) → b < wc.heap.size := by
    rintro b (h | h | h)
    · exact (hF.o.k.lt b h).2
    · exact (hF.o.v.lt b h).2
    · exact (hF.o.e.lt b h).2
  have sI : ∀ b, (kI.ownBlock = some b ∨ vI.ownBlock = some b ∨ eI.ownBlock = some b) → w4.heap.size < b := by
    have sz : (w4.alloc (.cells #[.slice (some ⟨g6, 0, none⟩) kn kn, .slice (some ⟨g7, 0, none⟩) vn vn] 28)).heap.size = w4.heap.size + 1 := by simp
    rw [sz] at ho
    rintro b (h | h | h)
    · exact (ho.k.lt b h).1
    · exact (ho.v.lt b h).1
    · exact (ho.e.lt b h).1
  have t3 := ((hs3.mono hL3).ts).of_below (a45.alloc a45.size (.cells #[kI, vI] 28))
  exact ⟨hF5.bel, hF5.q, hF5.b, block_below (block_below (heap_alloc_new w4 _) hb5) (below1 _ _), heap_alloc_new _ _, hF5.o, (ho.base (Nat.zero_le _)).below (below1 _ _), t3,
    (by obtain ⟨xs, o, z⟩ := ik; exact ⟨xs, ownsRow_base (ownsRow_below (ownsRow_below o a5) (below1 _ _)) (by omega), z⟩), (by obtain ⟨xs, o, z⟩ := iv; exact ⟨xs, ownsRow_base (ownsRow_below (ownsRow_below o a5) (below1 _ _)) (by omega), z⟩),
    (by rintro b (h | h)
        · have := sS b h; omega
        · have := sI b h; omega), (fun b h1 h2 => by have := sS b h1; have := sI b h2; omega), hlt, by omega, fun b h => by have := sI b h; omega⟩
end

set_option maxRecDepth 100000 in
set_option maxHeartbeats 16000000 in
theorem lawExec (lo : Option Addr) (ln lc : Nat) (ss : List StmD) (ao bo : Option Addr) (kn kc vn vc : Nat) (ks vs : List Int) (arg : Int) (w : World) (hln : ln ≤ 9223372036854775807) (hkn : kn ≤ 9223372036854775807) (hvn : vn ≤ 9223372036854775807)
    (hs : StmsOf w lo ln ss) (hk : SliceOf w ao kn ks) (hv : SliceOf w bo vn vs) (hx : ∀ i, I64 (vs.getD i 0)) (ha : I64 arg) :
    Calls Tryz.prog 3 #[.slice lo ln lc, .agg #[.slice ao kn kc, .slice bo vn vc], .int .i64 arg] w fun e w' => e = .returned (.bool true) ∧ Below w.heap.size w w' := by
  have HX : Hid (∀ w', Below w.heap.size w w' → StmsOf w' lo ln ss ∧ SliceOf w' ao kn ks ∧ SliceOf w' bo vn vs) := fun w' h => ⟨hs.below h, hk.below h, hv.below h⟩
  have HR := hid hx
  have HA := hid ha
  have HL : Hid (ss.length = ln) := hs.1
  have C := hid (szStmS_any lo ln lc ss 1048576 (w.alloc (.cells #[.slice ao kn kc, .slice bo vn vc] 25)) hln (by omega) (by omega) (hs.below (below1 _ _)))
  clear hs hk hv hx ha
  have Q0 := hid (heap_alloc_new w (.cells #[.slice ao kn kc, .slice bo vn vc] 25))
  by_cases hbig : (1048576 : Int) < ((wStms ss : Nat) : Int)
  · rw [szOut_no hbig] at C
    clear hbig
    go_enter Tryz.func3, Tryz.ntmps3
    go_wp2_with (go_at_call 4; refine C.out.mono ?_; rintro e w1 ⟨rfl, hb1⟩; have B1 := hid ((below1 _ _).trans (hb1.mono (by simp))); clear hb1)
    go_ret
    exact ⟨rfl, B1.out⟩
  · obtain ⟨r, hr⟩ : ∃ r : Int, r = 1048576 - ((wStms ss : Nat) : Int) := ⟨_, rfl⟩
    rw [szOut_yes hbig, ← hr] at C
    have hr0 : ¬ r < 0 := by omega
    have HWT : Hid (wStms ss ≤ 1048576) := hid (by omega)
    have ff : Fits ss := fits_of (by omega)
    have C2 := hid (fun w => szBank_any ao bo kn vn kc vc r w hkn hvn (by omega) (by omega))
    have FF := hid ff
    have hln' : ln ≤ 1048576 := by rw [← HL.out]; exact ff.1
    by_cases hs2 : szB r kn vn < 0
    · clear hbig hr
      go_enter Tryz.func3, Tryz.ntmps3
      go_wp2_with (first | (go_at_call 4; refine C.out.mono ?_; rintro e w1 ⟨rfl, hb1⟩; have B1 := hid ((below1 _ _).trans (hb1.mono (by simp))); obtain ⟨q0, q1, _, _⟩ := pair_cells (block_below Q0.out hb1); clear hb1) | (go_at_call 5; refine (C2.out _).mono ?_; rintro e w2 ⟨rfl, hb⟩; have B := hid (B1.out.trans (hb.mono B1.out.size)); clear hb))
      go_ret
      exact ⟨rfl, B.out⟩
    · have hkn' : kn ≤ 1048576 := by unfold szB at hs2; split at hs2 <;> first | omega | (split at hs2 <;> omega)
      have hvn' : vn ≤ 1048576 := by unfold szB at hs2; split at hs2 <;> first | omega | (split at hs2 <;> omega)
      obtain ⟨RK, hRK⟩ : ∃ r, r = ansK ks vs ss := ⟨_, rfl⟩
      obtain ⟨RV, hRV⟩ : ∃ r, r = ansV ks vs ss arg := ⟨_, rfl⟩
      obtain ⟨RE, hRE⟩ : ∃ r, r = ansE ks vs ss arg := ⟨_, rfl⟩
      have SP := hid (fun g g1 g2 w' (h1 : StmsOf w' (some ⟨g, 0, none⟩) ln ss) (h2 : SliceOf w' (some ⟨g1, 0, none⟩) kn ks) (h3 : SliceOf w' (some ⟨g2, 0, none⟩) vn vs) => specExec_any ⟨g, 0, none⟩ ln ln ss g1 0 g2 0 kn kn vn vn ks vs arg w' hln' (Nat.le_refl _) hkn' hvn' h1 h2 h3 HR.out HA.out)
      have IM := hid (fun g g1 g2 w' (h1 : StmsOf w' (some ⟨g, 0, none⟩) ln ss) (h2 : SliceOf w' (some ⟨g1, 0, none⟩) kn ks) (h3 : SliceOf w' (some ⟨g2, 0, none⟩) vn vs) => implExec_any (some ⟨g, 0, none⟩) ln ln ss g1 0 g2 0 kn kn vn vn ks vs arg w' hln hkn' hvn' h1 h2 h3)
      rw [← hRK, ← hRV, ← hRE] at SP IM
      have LEN : Hid (RK.length ≤ 1048576 ∧ RV.length ≤ 1048576 ∧ RE.length ≤ 1048576) := hid (by
        have l1 : ks.length = kn := (HX.out w (Below.refl _ _)).2.1.1
        have l2 : vs.length = vn := (HX.out w (Below.refl _ _)).2.2.1
        have l3 := execS_len vs.length ks arg ss vs
        have l4 := HL.out
        rw [hRK, hRV, hRE]
        unfold ansK ansV ansE
        split
        · refine ⟨by omega, by omega, by omega⟩
        · simp)
      have TS1 : Hid (∀ w', StmsOf w' lo ln ss → Calls Tryz.prog 7 #[.slice lo ln lc] w' fun e w'' => ∃ g, e = .returned (.slice (some ⟨g, 0, none⟩) ln ln) ∧ SRow w'' w'.heap.size (.slice (some ⟨g, 0, none⟩) ln ln) ss ∧ Below w'.heap.size w' w'') := fun w' h => toStmS_any lo ln lc ss w' hln' (fun i hi => FF.out.2 i (by rw [HL.out]; exact hi)) h
      clear hbig hr ff hRK hRV hRE
      go_enter Tryz.func3, Tryz.ntmps3
      go_upto_region 8 with (first | (go_at_call 4; refine C.out.mono ?_; rintro e w1 ⟨rfl, hb1⟩; have P1 := hid (trk (And.intro (below1 _ _) Q0.out) hb1); obtain ⟨q0, q1, _, _⟩ := pair_cells P1.out.2; clear hb1) | (go_at_call 5; refine (C2.out _).mono ?_; rintro e w2 ⟨rfl, hb⟩; have P2 := hid (trk P1.out hb); obtain ⟨r0, r1, _, _⟩ := pair_cells P2.out.2; have rl := lt_of_block P2.out.2; clear hb))
      have X1 := hid (trk P2.out ((Below.refl _ _).drew))
      have X2 := hid (trk P2.out ((below1 w2 ZB).drew))
      have E2 := hid (show (w2.alloc ZB).drew.heap[w2.heap.size]? = some ZB from new1 w2 ZB)
      go_cut [8, 9] (fun s8 s9 wx => ∃ H ka kx kp va vx vp ea ex ep, s8 = .pointer (some ⟨H, 0, none⟩) ∧ s9 = .slice ea ex ep ∧ Fst w w.heap.size #[.slice ao kn kc, .slice bo vn vc] RK RV RE H (.slice ka kx kp) (.slice va vx vp) (.slice ea ex ep) wx)
      case first =>
        go_region_held3 (fun w' => w'.cell? ⟨w.heap.size, 0, none⟩ = some (.slice ao kn kc) ∧ w'.cell? ⟨w.heap.size, 1, none⟩ = some (.slice bo vn vc)) (first | exact SC.out | exact SB.out | exact SA.out | exact And.intro ((old_alloc l5 _).trans SC.out.1) ((old_alloc l5 _).trans SC.out.2) | exact And.intro ((cell_far n5).trans ((cell_far n5).trans SC.out.1)) ((cell_far n5).trans ((cell_far n5).trans SC.out.2)) | go_keep)
          (first
            | (go_at_call 7; refine (TS1.out _ (HX.out _ X1.out.1).1).mono ?_; rintro e w3 ⟨g, rfl, hs, hb⟩; have P3 := hid (trk X1.out hb); have S3 := hid (SRow.at hs FF.out); have SA := hid (two_cells' P3.out.2); have l3 := lt_of_block P3.out.2; clear hs hb)
            | (go_at_call 7; refine (TS1.out _ (HX.out _ X2.out.1).1).mono ?_; rintro e w3 ⟨g, rfl, hs, hb⟩; have P3 := hid (trk X2.out hb); have S3 := hid (SRow.at hs FF.out); have SA := hid (two_cells' P3.out.2); have l3 := lt_of_block P3.out.2; have E3 := hid (block_below E2.out hb); clear hs hb)
            | (go_at_call 8; refine (toBank_any ao bo kn vn kc vc ks vs _ hkn' hvn' (HX.out _ P3.out.1).2.1 (HX.out _ P3.out.1).2.2).mono ?_; rintro e w4 ⟨g1, g2, rfl, sk, sv, hb⟩; have P4 := hid (trk P3.out hb); have S4 := hid (S3.out.below hb); have K4 := hid sk; have V4 := hid sv; have SB := hid (two_cells' P4.out.2); have l4 := lt_of_block P4.out.2; (try (have E4 := hid (block_below E3.out hb))); clear sk sv hb)
            | (go_at_call 8; refine (toBank_any ao bo kn vn kc vc ks vs _ hkn' hvn' (HX.out _ (trk P3.out (below1 w3 ZB)).1).2.1 (HX.out _ (trk P3.out (below1 w3 ZB)).1).2.2).mono ?_; rintro e w4 ⟨g1, g2, rfl, sk, sv, hb⟩; have P4 := hid (trk (trk P3.out (below1 w3 ZB)) hb); have S4 := hid ((S3.out.below (below1 w3 ZB)).below hb); have K4 := hid sk; have V4 := hid sv; have SB := hid (two_cells' P4.out.2); have l4 := lt_of_block P4.out.2; have E4 := hid (block_below (new1 w3 ZB) hb); clear sk sv hb)
            | (go_at_call 6; refine (SP.out g g1 g2 _ S4.out K4.out V4.out).mono ?_; rintro e w5 ⟨kv, vv, ev, rfl, ho, hb⟩; obtain ⟨ka, kp, hka⟩ := own_any ho.k; obtain ⟨va, vp, hva⟩ := own_any ho.v; obtain ⟨ea, ep, hea⟩ := own_any ho.e; subst hka; subst hva; subst hea; have P5 := hid (trk P4.out hb); have O5 := hid (ho.base (Nat.zero_le _)); have SC := hid (two_cells' P5.out.2); have l5 := lt_of_block P5.out.2; (try (have E5 := hid (block_below E4.out hb))); (try (have n5 := far_block E5.out P5.out.2 (by decide); obtain ⟨b0, b1, b2, b3⟩ := pair_cells E5.out)); clear ho hb)
            | (go_at_call 6; refine (SP.out g g1 g2 _ (S4.out.below (below1 w4 ZB)) (K4.out.below (below1 w4 ZB)) (V4.out.below (below1 w4 ZB))).mono ?_; rintro e w5 ⟨kv, vv, ev, rfl, ho, hb⟩; obtain ⟨ka, kp, hka⟩ := own_any ho.k; obtain ⟨va, vp, hva⟩ := own_any ho.v; obtain ⟨ea, ep, hea⟩ := own_any ho.e; subst hka; subst hva; subst hea; have P5 := hid (trk (trk P4.out (below1 w4 ZB)) hb); have O5 := hid (ho.base (Nat.zero_le _)); have SC := hid (two_cells' P5.out.2); have l5 := lt_of_block P5.out.2; have E5 := hid (block_below (new1 w4 ZB) hb); have n5 := far_block E5.out P5.out.2 (by decide); obtain ⟨b0, b1, b2, b3⟩ := pair_cells E5.out; clear ho hb))
        all_goals
          go_wp2_with fail
          go_meet
          refine ⟨_, ka, RK.length, kp, va, RV.length, vp, ea, RE.length, ep, rfl, rfl, ?_⟩
          first | exact fst_new P5.out O5.out | exact fst_set P5.out O5.out E5.out (by first | exact P2.out.1.size | exact P3.out.1.size | exact P4.out.1.size)
      case rest =>
        obtain ⟨H, ka, kx, kp, va, vx, vp, ea, ex, ep, rfl, rfl, hF⟩ := hcut
        have F0 := hid hF
        obtain ⟨i0, i1, _, _⟩ := pair_cells hF.q
        obtain ⟨j0, j1, _, _⟩ := pair_cells hF.b
        clear hF q0 q1 r0 r1 rl X1 X2 E2
        go_wp2_with (go_at_call 7; refine (TS1.out _ (HX.out _ F0.out.bel).1).mono ?_; rintro e w3 ⟨g5, rfl, hs3, hb3⟩; have F3 := hid (F0.out.below hb3); have R3 := hid hs3; have B3 := hid hb3; obtain ⟨i30, i31, _, _⟩ := pair_cells F3.out.q; clear hs3 hb3)
        go_wp2_with (go_at_call 8; refine (toBank_full ao bo kn vn kc vc ks vs _ hkn' hvn' (HX.out _ F3.out.bel).2.1 (HX.out _ F3.out.bel).2.2).mono ?_; rintro e w4 ⟨g6, g7, rfl, hs4, hi4, hb4⟩; have F4 := hid (F3.out.below hb4); have S4 := hid hs4; have I4 := hid hi4; have B4 := hid hb4; clear hs4 hi4 hb4)
        go_wp2_with (go_at_call 9; refine (IM.out g5 g6 g7 _ (((SRow.at R3.out FF.out).below B4.out).below (below1 _ _)) (S4.out.1.below (below1 _ _)) (S4.out.2.below (below1 _ _))).mono ?_; rintro e w5 ⟨kv, vv, ev, rfl, ho, hb⟩; obtain ⟨kb, kq, hkb⟩ := own_any ho.k; obtain ⟨vb, vq, hvb⟩ := own_any ho.v; obtain ⟨eb, eq', heb⟩ := own_any ho.e; subst hkb; subst hvb; subst heb; have U5 := hid (mkBd F0.out B3.out R3.out F0.out.bel.size B4.out I4.out.1 I4.out.2.1 I4.out.2.2 ho hb); have A5 := hid (B4.out.trans (((below1 _ _).trans (hb.mono (by simp))).mono B4.out.size)); have FH := hid (F3.out.below A5.out); obtain ⟨j50, j51, _, _⟩ := pair_cells FH.out.b; have lH := lt_of_block FH.out.b; have nH : ¬ (H = w5.heap.size) := Nat.ne_of_lt lH; have X5 := hid (And.intro (((SRow.at R3.out FF.out).below A5.out).below (below1 w5 (.cells #[.slice kb RK.length kq, .slice vb RV.length vq] 28))) (And.intro ((S4.out.1.below ((below1 _ _).trans (hb.mono (by simp)))).below (below1 w5 (.cells #[.slice kb RK.length kq, .slice vb RV.length vq] 28))) ((S4.out.2.below ((below1 _ _).trans (hb.mono (by simp)))).below (below1 w5 (.cells #[.slice kb RK.length kq, .slice vb RV.length vq] 28))))); clear ho hb)
        go_wp2_with (first
          | (go_at_call 10; refine (eqBank_out U5.out.oi U5.out.os LEN.out.1 LEN.out.2.1).mono ?_; rintro e w6 ⟨rfl, hb⟩; have U6 := hid (U5.out.below hb); have X6 := hid (And.intro (X5.out.1.below hb) (And.intro (X5.out.2.1.below hb) (X5.out.2.2.below hb))); clear hb)
          | (go_at_call 11; refine (eqEffectS_same _ _ 0 0 RE _ LEN.out.2.2 U6.out.oi.e U6.out.os.e).mono ?_; rintro e w7 ⟨rfl, hb⟩; have U7 := hid (U6.out.below hb); have X7 := hid (And.intro (X6.out.1.below hb) (And.intro (X6.out.2.1.below hb) (X6.out.2.2.below hb))); clear hb)
          | (go_at_call 7; refine (TS1.out _ (HX.out _ U7.out.bel).1).mono ?_; rintro e w8 ⟨g8, rfl, hs8, hb⟩; have U8 := hid (U7.out.below hb); have S8 := hid (SRow.at hs8 FF.out); have X8 := hid (And.intro (X7.out.1.below hb) (And.intro (X7.out.2.1.below hb) (X7.out.2.2.below hb))); clear hs8 hb)
          | (go_at_call 12; refine (eqStmS_same _ _ ln _ _ ss _ hln' (fun i hi => FF.out.2 i (by rw [HL.out]; exact hi)) X8.out.1 S8.out).mono ?_; rintro e w9 ⟨rfl, hb⟩; have U9 := hid (U8.out.below hb); have X9 := hid (And.intro (X8.out.2.1.below hb) (X8.out.2.2.below hb)); obtain ⟨m0, m1, _, _⟩ := pair_cells U9.out.q; obtain ⟨n0, n1, _, _⟩ := pair_cells U9.out.bx; clear hb))
        have D9 := hid (U9.out.below ((Below.refl _ _).drew))
        have X9d : Hid (SliceOf w9.drew (some ⟨g6, 0, none⟩) kn ks ∧ SliceOf w9.drew (some ⟨g7, 0, none⟩) vn vs) := hid ⟨X9.out.1.below ((Below.refl _ _).drew), X9.out.2.below ((Below.refl _ _).drew)⟩
        go_region_held3 (fun w' => (w'.cell? ⟨w.heap.size, 0, none⟩ = some (.slice ao kn kc) ∧ w'.cell? ⟨w.heap.size, 1, none⟩ = some (.slice bo vn vc)) ∧ (w'.cell? ⟨w4.heap.size, 0, none⟩ = some (.slice (some ⟨g6, 0, none⟩) kn kn) ∧ w'.cell? ⟨w4.heap.size, 1, none⟩ = some (.slice (some ⟨g7, 0, none⟩) vn vn))) (first | exact SE.out | exact SD.out | go_keep)
          (first
          | (go_at_call 8; refine (toBank_any ao bo kn vn kc vc ks vs _ hkn' hvn' (HX.out _ D9.out.bel).2.1 (HX.out _ D9.out.bel).2.2).mono ?_; rintro e wa ⟨ga, gb, rfl, ska, sva, hba⟩; have KA := hid (And.intro ska sva); have KB := hid (And.intro (X9d.out.1.below hba) (X9d.out.2.below hba)); have UA := hid (D9.out.below hba); have SD := hid (And.intro (two_cells' UA.out.q) (two_cells' UA.out.bx)); clear ska sva hba)
          | (go_at_call 10; refine (eqBank_any _ _ _ _ _ _ _ _ _ _ _ _ ks vs ks vs _ hkn' hvn' hkn' hvn' KB.out.1 KB.out.2 KA.out.1 KA.out.2).mono ?_; rw [show decide (ks = ks ∧ vs = vs) = true by simp]; rintro e wb ⟨rfl, hbb⟩; have UB := hid (UA.out.below hbb); have SE := hid (And.intro (two_cells' UB.out.q) (two_cells' UB.out.bx)); obtain ⟨n4, n5, _, _⟩ := pair_cells UB.out.bx; clear hbb))
        all_goals
          go_wp2_with (go_at_call 13; refine (markStmS_any w.heap.size _ ss 1 _ (by omega) (by have := HWT.out; omega) UB.out.ts).mono ?_; rintro e wd ⟨kd, rfl, hkd, hmd⟩; have UD := hid (UB.out.mk' hmd); have KD := hid hkd; have kd0 : 0 ≤ kd := (by omega); have kd1 : kd ≤ 1 + 3 * 1048576 := (by have := HWT.out; omega); obtain ⟨n6, n7, _, _⟩ := pair_cells UD.out.bx; clear hmd hkd)
          go_wp2_with (go_at_call 14; refine (markBank_own w.heap.size _ _ kn vn kd _ kd0 (by omega) UD.out.xk UD.out.xv (fun b e => by have := UD.out.lt; simp [Value.ownBlock] at e ⊢; omega)).mono ?_; rintro e we ⟨rfl, _, hoe⟩; have VE := hid (UD.out.marked hoe); have ke0 : ¬ (kd + kn + vn : Int) < 0 := (by omega); have ke1 : decide ((kd + kn + vn : Int) < 0) = false := (by simpa using ke0); obtain ⟨o0, o1, _, _⟩ := pair_cells VE.out.bg; obtain ⟨o2, o3, _, _⟩ := pair_cells VE.out.bw; clear hoe)
          go_wp2_with (first
            | (go_at_call 10; refine (eqBank_out VE.out.oi VE.out.os LEN.out.1 LEN.out.2.1).mono ?_; rintro e wf ⟨rfl, hb⟩; have VF := hid (VE.out.below hb); clear hb)
            | (go_at_call 11; refine (eqEffectS_same _ _ 0 0 RE _ LEN.out.2.2 VF.out.oi.e VF.out.os.e).mono ?_; rintro e wg ⟨rfl, hb⟩; have VG := hid (VF.out.below hb); obtain ⟨s0, s1, _, _⟩ := pair_cells VG.out.bg; clear hb)
            | (go_at_call 14; refine (markBank_own 0 _ _ RK.length RV.length 1 _ (by omega) (by have := LEN.out; omega) (ints_of VG.out.oi.k) (ints_of VG.out.oi.v) VG.out.oi.ne).mono ?_; rintro e wh1 ⟨rfl, hm, hoe⟩; have WH := hid (VG.out.marked hoe hm.1 hm.2); have MH := hid hm; clear hm hoe)
            | (go_at_call 15; refine (markEff_own 0 _ RE.length (1 + RK.length + RV.length) _ (by omega) (by have := LEN.out; omega) WH.out.ie).mono ?_; rintro e wh9 ⟨rfl, hm, hoe⟩; have ZH0 := hid (WH.out.marked hoe MH.out.1 MH.out.2); have ME := hid hm; obtain ⟨t0, t1, _, _⟩ := pair_cells ZH0.out.1.bg; clear hm hoe))
          go_upto_region 35 with (first
            | (go_at_call 16; refine (heldBank_own 0 _ _ RK.length RV.length 1 _ (by omega) (by have := LEN.out; omega) ZH0.out.2.1 ZH0.out.2.2).mono ?_; rintro e wi ⟨rfl, hb⟩; have ZI := hid (ZH0.out.1.below hb); have MI := hid (ME.out.below hb); have qi0 : ¬ (1 + (RK.length : Int) + RV.length) < 0 := (by omega); have qi1 : ¬ (1 + (RK.length : Int) + RV.length + 4 * RE.length) < 0 := (by omega); clear hb)
            | (go_at_call 17; refine (heldEff_own 0 _ RE.length (1 + RK.length + RV.length) _ (by omega) (by have := LEN.out; omega) MI.out).mono ?_; rintro e wh2 ⟨rfl, hw⟩; obtain rfl := hw.symm))
          obtain ⟨wh, hwh⟩ : ∃ x, x = wi := ⟨_, rfl⟩
          subst hwh
          have ZH := ZI
          have PY2 := hid (And.intro (Below.refl wh.heap.size wh) ZH.out.q)
          obtain ⟨r0, r1, _, _⟩ := pair_cells ZH.out.q
          have rl := lt_of_block ZH.out.q
          have XY1 := hid (trk PY2.out ((Below.refl _ _).drew))
          have XY2 := hid (trk PY2.out ((below1 wh ZB).drew))
          have EY2 := hid (show (wh.alloc ZB).drew.heap[wh.heap.size]? = some ZB from new1 wh ZB)
          go_cut [17, 18] (fun s17 s18 wx => ∃ H2 ka2 kx2 kp2 va2 vx2 vp2 ea2 ex2 ep2, s17 = .pointer (some ⟨H2, 0, none⟩) ∧ s18 = .slice ea2 ex2 ep2 ∧ Fst wh w.heap.size #[.slice ao kn kc, .slice bo vn vc] RK RV RE H2 (.slice ka2 kx2 kp2) (.slice va2 vx2 vp2) (.slice ea2 ex2 ep2) wx)
          case first =>
            go_region_held3 (fun w' => w'.cell? ⟨w.heap.size, 0, none⟩ = some (.slice ao kn kc) ∧ w'.cell? ⟨w.heap.size, 1, none⟩ = some (.slice bo vn vc)) (first | exact SYC.out | exact SYB.out | exact SYA.out | exact And.intro ((old_alloc ly5 _).trans SYC.out.1) ((old_alloc ly5 _).trans SYC.out.2) | exact And.intro ((cell_far ny5).trans ((cell_far ny5).trans SYC.out.1)) ((cell_far ny5).trans ((cell_far ny5).trans SYC.out.2)) | go_keep)
              (first
                | (go_at_call 7; refine (TS1.out _ (HX.out _ (ZH.out.bel.trans (XY1.out.1.mono ZH.out.bel.size))).1).mono ?_; rintro e y3 ⟨g, rfl, hs, hb⟩; have PY3 := hid (trk XY1.out hb); have SY3 := hid (SRow.at hs FF.out); have SYA := hid (two_cells' PY3.out.2); have ly3 := lt_of_block PY3.out.2; clear hs hb)
                | (go_at_call 7; refine (TS1.out _ (HX.out _ (ZH.out.bel.trans (XY2.out.1.mono ZH.out.bel.size))).1).mono ?_; rintro e y3 ⟨g, rfl, hs, hb⟩; have PY3 := hid (trk XY2.out hb); have SY3 := hid (SRow.at hs FF.out); have SYA := hid (two_cells' PY3.out.2); have ly3 := lt_of_block PY3.out.2; have EY3 := hid (block_below EY2.out hb); clear hs hb)
                | (go_at_call 8; refine (toBank_any ao bo kn vn kc vc ks vs _ hkn' hvn' (HX.out _ (ZH.out.bel.trans (PY3.out.1.mono ZH.out.bel.size))).2.1 (HX.out _ (ZH.out.bel.trans (PY3.out.1.mono ZH.out.bel.size))).2.2).mono ?_; rintro e y4 ⟨gy1, gy2, rfl, sk, sv, hb⟩; have PY4 := hid (trk PY3.out hb); have SY4 := hid (SY3.out.below hb); have KY4 := hid sk; have VY4 := hid sv; have SYB := hid (two_cells' PY4.out.2); have ly4 := lt_of_block PY4.out.2; (try (have EY4 := hid (block_below EY3.out hb))); clear sk sv hb)
                | (go_at_call 8; refine (toBank_any ao bo kn vn kc vc ks vs _ hkn' hvn' (HX.out _ (ZH.out.bel.trans ((trk PY3.out (below1 y3 ZB)).1.mono ZH.out.bel.size))).2.1 (HX.out _ (ZH.out.bel.trans ((trk PY3.out (below1 y3 ZB)).1.mono ZH.out.bel.size))).2.2).mono ?_; rintro e y4 ⟨gy1, gy2, rfl, sk, sv, hb⟩; have PY4 := hid (trk (trk PY3.out (below1 y3 ZB)) hb); have SY4 := hid ((SY3.out.below (below1 y3 ZB)).below hb); have KY4 := hid sk; have VY4 := hid sv; have SYB := hid (two_cells' PY4.out.2); have ly4 := lt_of_block PY4.out.2; have EY4 := hid (block_below (new1 y3 ZB) hb); clear sk sv hb)
                | (go_at_call 9; refine (IM.out g gy1 gy2 _ SY4.out KY4.out VY4.out).mono ?_; rintro e y5 ⟨kv, vv, ev, rfl, ho, hb⟩; obtain ⟨ka9, kp9, hka⟩ := own_any ho.k; obtain ⟨va9, vp9, hva⟩ := own_any ho.v; obtain ⟨ea9, ep9, hea⟩ := own_any ho.e; subst hka; subst hva; subst hea; have PY5 := hid (trk PY4.out hb); have OY5 := hid (ho.base (Nat.zero_le _)); have SYC := hid (two_cells' PY5.out.2); have ly5 := lt_of_block PY5.out.2; (try (have EY5 := hid (block_below EY4.out hb))); (try (have ny5 := far_block EY5.out PY5.out.2 (by decide); obtain ⟨by0, by1, by2, by3⟩ := pair_cells EY5.out)); clear ho hb)
                | (go_at_call 9; refine (IM.out g gy1 gy2 _ (SY4.out.below (below1 y4 ZB)) (KY4.out.below (below1 y4 ZB)) (VY4.out.below (below1 y4 ZB))).mono ?_; rintro e y5 ⟨kv, vv, ev, rfl, ho, hb⟩; obtain ⟨ka9, kp9, hka⟩ := own_any ho.k; obtain ⟨va9, vp9, hva⟩ := own_any ho.v; obtain ⟨ea9, ep9, hea⟩ := own_any ho.e; subst hka; subst hva; subst hea; have PY5 := hid (trk (trk PY4.out (below1 y4 ZB)) hb); have OY5 := hid (ho.base (Nat.zero_le _)); have SYC := hid (two_cells' PY5.out.2); have ly5 := lt_of_block PY5.out.2; have EY5 := hid (block_below (new1 y4 ZB) hb); have ny5 := far_block EY5.out PY5.out.2 (by decide); obtain ⟨by0, by1, by2, by3⟩ := pair_cells EY5.out; clear ho hb))
            all_goals
              go_wp2_with fail
              go_meet
              refine ⟨_, ka9, RK.length, kp9, va9, RV.length, vp9, ea9, RE.length, ep9, rfl, rfl, ?_⟩
              first | exact fst_new PY5.out OY5.out | exact fst_set PY5.out OY5.out EY5.out (by first | exact PY2.out.1.size | exact PY3.out.1.size | exact PY4.out.1.size)
          case rest =>
            obtain ⟨H2, ka2, kx2, kp2, va2, vx2, vp2, ea2, ex2, ep2, rfl, rfl, hF2⟩ := hcut
            have G0 := hid hF2
            have ZC := hid (ZH.out.below hF2.bel)
            obtain ⟨c0, c1, _, _⟩ := pair_cells hF2.b
            obtain ⟨d0, d1, _, _⟩ := pair_cells ZC.out.bw
            clear hF2
            go_wp2_with (first
              | (go_at_call 10; refine (eqBank_out G0.out.o ZC.out.os LEN.out.1 LEN.out.2.1).mono ?_; rintro e wk ⟨rfl, hb⟩; have BK := hid (ZC.out.bel.trans (hb.mono ZC.out.bel.size)); have OK1 := hid (G0.out.o.below hb); have OK2 := hid (ZC.out.os.below hb); clear hb)
              | (go_at_call 11; refine (eqEffectS_same _ _ 0 0 RE _ LEN.out.2.2 OK1.out.e OK2.out.e).mono ?_; rintro e wl ⟨rfl, hb⟩; have BL := hid (BK.out.trans (hb.mono BK.out.size)); clear hb))
            go_ret
            exact ⟨rfl, BL.out⟩
end Go.Proofs.YtdpejnacganadaaGreat
