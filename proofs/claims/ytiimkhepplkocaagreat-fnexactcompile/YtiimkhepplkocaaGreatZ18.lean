import Derived.Test.YtiimkhepplkocaaGreatV11
import Derived.Test.YtiimkhepplkocaaGreatKb
import Derived.Test.YtiimkhepplkocaaGreatZf
import Derived.Deep.RegionWith
import Derived.Deep.DeepCutAuto
namespace Go.Proofs.YtiimkhepplkocaaGreat
open Go.RowKit Go.Sort
set_option linter.unusedVariables false
attribute [local go_sem ↓] Go.wp_at_zero Go.wp_at_succ

abbrev BoxL := List (Nat × Array Value × TypeId)
/-- The boxes of a law: where each lies, what it holds, its type. -/
def Boxes (bs : BoxL) (X : World) : Prop := ∀ p ∈ bs, X.heap[p.1]? = some (.cells p.2.1 p.2.2 (0, 0))
theorem Boxes.at {bs : BoxL} {X : World} (h : Boxes bs X) (k : Nat) {n : Nat} {c : Array Value} {t : TypeId} (e : bs[k]? = some (n, c, t)) : X.heap[n]? = some (.cells c t (0, 0)) := h _ (List.mem_of_getElem? e)
theorem Boxes.below {bs : BoxL} {X Y : World} (h : Boxes bs X) (hb : Below X.heap.size X Y) : Boxes bs Y := fun p hp => block_below (h p hp) hb
theorem Boxes.add {bs : BoxL} {X : World} (h : Boxes bs X) (c : Array Value) (t : TypeId) : Boxes ((X.heap.size, c, t) :: bs) (X.alloc (.cells c t)) := by
  intro p hp
  rcases List.mem_cons.mp hp with rfl | hp
  · exact heap_alloc_new _ _
  · exact block_below (h p hp) (below1 _ _)
theorem Boxes.tail {bs : BoxL} {p : Nat × Array Value × TypeId} {X : World} (h : Boxes (p :: bs) X) : Boxes bs X := fun q hq => h q (List.mem_cons_of_mem _ hq)
theorem Boxes.cons {bs : BoxL} {X : World} {n : Nat} {c : Array Value} {t : TypeId} (hp : X.heap[n]? = some (.cells c t (0, 0))) (h : Boxes bs X) : Boxes ((n, c, t) :: bs) X := by
  intro p hq
  rcases List.mem_cons.mp hq with rfl | hq
  · exact hp
  · exact h p hq
abbrev rowTags : List TypeId := [3, 205, 210, 65, 60, 136]
def Far (bs : BoxL) : Prop := ∀ p ∈ bs, p.2.2 ∉ rowTags
theorem Far.add {bs : BoxL} (h : Far bs) {n : Nat} {c : Array Value} {t : TypeId} (ht : t ∉ rowTags) : Far ((n, c, t) :: bs) := by
  intro p hp
  rcases List.mem_cons.mp hp with rfl | hp
  · exact ht
  · exact h p hp
theorem own_tag {w : World} {B : Nat} {e : TypeId} {size : Nat} {v : Value} {n : Nat} {xs : List Value} (h : w.ownsRow B e size v n xs) {H : Nat} {cs : Array Value} {t : TypeId} (hH : w.heap[H]? = some (.cells cs t (0, 0))) (ht : t ≠ e) : v.ownBlock ≠ some H := own_far h ht hH
theorem own_has {w : World} {B : Nat} {e : TypeId} {size : Nat} {v : Value} {n : Nat} {xs : List Value} (h : w.ownsRow B e size v n xs) : ∀ b, v.ownBlock = some b → ∃ cs, w.heap[b]? = some (.cells cs e (0, 0)) := by
  intro b hb
  rcases h.2 with ⟨h0, _⟩ | ⟨g, cap, cur, k1, k2, k3, k4⟩
  · rw [h0] at hb; cases hb
  · rw [k1] at hb; simp [Value.ownBlock] at hb; subst hb; exact ⟨_, k3⟩
theorem Mk.own {L : Nat} {w w' : World} {B : Nat} {e : TypeId} {size : Nat} {v : Value} {n : Nat} {xs : List Value} (h : Mk L w w') (ho : w.ownsRow B e size v n xs) (h1 : e ≠ 205) (h2 : e ≠ 210) (h3 : e ≠ 65) (h4 : e ≠ 60) : w'.ownsRow B e size v n xs := by
  refine ⟨ho.1, ?_⟩
  rcases ho.2 with h0 | ⟨g, cap, cur, k1, k2, k3, k4⟩
  · exact .inl h0
  · exact .inr ⟨g, cap, cur, k1, k2, h.box k3 h1 h2 h3 h4, k4⟩
theorem Mk.out {L : Nat} {w w' : World} {B : Nat} {kv vv ev : Value} {ks vs : List Int} {es : List EffD} (h : Mk L w w') (ho : OutE B w kv vv ev ks vs es) : OutE B w' kv vv ev ks vs es := ⟨h.own ho.k (by decide) (by decide) (by decide) (by decide), h.own ho.v (by decide) (by decide) (by decide) (by decide), h.own ho.e (by decide) (by decide) (by decide) (by decide), ho.ne⟩
theorem Mk.ints {L : Nat} {w w' : World} {B : Nat} {v : Value} {n : Nat} (h : Mk L w w') (ho : IntsR w B 3 1 v n) : IntsR w' B 3 1 v n := by
  obtain ⟨xs, ho, hz⟩ := ho
  exact ⟨xs, h.own ho (by decide) (by decide) (by decide) (by decide), hz⟩
theorem Boxes.mk {L : Nat} {bs : BoxL} {X Y : World} (h : Boxes bs X) (hf : Far bs) (hm : Mk L X Y) : Boxes bs Y := fun p hp => by
  have := hf p hp
  simp only [rowTags, List.mem_cons, List.not_mem_nil, not_or, or_false] at this
  exact hm.box (h p hp) this.2.1 this.2.2.1 this.2.2.2.1 this.2.2.2.2.1
theorem Boxes.only2 {bs : BoxL} {X Y : World} {kv vv : Value} {B C n m : Nat} {xs ys : List Value} (h : Boxes bs X) (hf : Far bs) (hk : X.ownsRow B 3 1 kv n xs) (hv : X.ownsRow C 3 1 vv m ys) (ho : Only2 kv vv X Y) : Boxes bs Y := fun p hp => by
  have := hf p hp
  simp only [rowTags, List.mem_cons, List.not_mem_nil, not_or, or_false] at this
  exact (ho.block _ (lt_of_block (h p hp)) (own_tag hk (h p hp) this.1) (own_tag hv (h p hp) this.1)).trans (h p hp)
theorem Boxes.only {bs : BoxL} {X Y : World} {ev : Value} {B n : Nat} {xs : List Value} (h : Boxes bs X) (hf : Far bs) (he : X.ownsRow B 136 4 ev n xs) (ho : Only ev X Y) : Boxes bs Y := fun p hp => by
  have := hf p hp
  simp only [rowTags, List.mem_cons, List.not_mem_nil, not_or, or_false] at this
  exact (ho.block _ (own_tag he (h p hp) this.2.2.2.2.2)).trans (h p hp)

/-- The law's boxes, and what lay there before. -/
structure Lw (w : World) (bs : BoxL) (X : World) : Prop where
  bel : Below w.heap.size w X
  bx : Boxes bs X
theorem Lw.below {w : World} {bs : BoxL} {X Y : World} (h : Lw w bs X) (hb : Below X.heap.size X Y) : Lw w bs Y := ⟨h.bel.trans (hb.mono h.bel.size), h.bx.below hb⟩
theorem Lw.add {w : World} {bs : BoxL} {X : World} (h : Lw w bs X) (c : Array Value) (t : TypeId) : Lw w ((X.heap.size, c, t) :: bs) (X.alloc (.cells c t)) := ⟨h.bel.alloc h.bel.size _, h.bx.add c t⟩
abbrev ZB : Obj := .cells #[.slice none 0 0, .slice none 0 0] 32
/-- A box for a bank that was made ahead of what it will hold. -/
structure Ez (w : World) (bs : BoxL) (H : Nat) (X : World) : Prop where
  z : X.heap[H]? = some ZB
  lt : ∀ p ∈ bs, p.1 < H
  le : w.heap.size ≤ H
theorem Ez.below {w : World} {bs : BoxL} {H : Nat} {X Y : World} (h : Ez w bs H X) (hb : Below X.heap.size X Y) : Ez w bs H Y := ⟨block_below h.z hb, h.lt, h.le⟩
theorem Boxes.set {bs : BoxL} {X : World} {H : Nat} {a b : Value} (h : Boxes bs X) (hl : ∀ p ∈ bs, p.1 < H) : Boxes bs ((X.setCell ⟨H, 0, none⟩ a).setCell ⟨H, 1, none⟩ b) := fun p hp => by
  have hn : p.1 ≠ H := Nat.ne_of_lt (hl p hp)
  exact (Below.heap_setCell _ _ _ _ hn).trans ((Below.heap_setCell _ _ _ _ hn).trans (h p hp))
theorem Boxes.put {w : World} {bs : BoxL} {X : World} {H : Nat} {a b : Value} (h : Boxes bs X) (z : Ez w bs H X) : Boxes ((H, #[a, b], 32) :: bs) ((X.setCell ⟨H, 0, none⟩ a).setCell ⟨H, 1, none⟩ b) := by
  intro p hp
  rcases List.mem_cons.mp hp with rfl | hp
  · exact out_cells z.z
  · exact h.set z.lt p hp
/-- The blocks of an answer. -/
abbrev Its (k v e : Value) (b : Nat) : Prop := k.ownBlock = some b ∨ v.ownBlock = some b ∨ e.ownBlock = some b
/-- Behind the model's call. -/
structure LwA (w : World) (bs : BoxL) (RK RV : List Int) (RE : List EffD) (kS vS eS : Value) (X : World) : Prop where
  bel : Below w.heap.size w X
  bx : Boxes bs X
  o : OutE w.heap.size X kS vS eS RK RV RE
/-- Behind the program's call. -/
structure LwB (w : World) (bs : BoxL) (RK RV : List Int) (RE : List EffD) (kS vS eS : Value) (es : List StD) (xs : List TrD) (kn vn : Nat) (x1 x2 : Value) (g6 g7 : Nat) (kI vI eI : Value) (X : World) : Prop where
  bel : Below w.heap.size w X
  bx : Boxes bs X
  os : OutE w.heap.size X kS vS eS RK RV RE
  oi : OutE w.heap.size X kI vI eI RK RV RE
  tt : TT X w.heap.size x1 es
  tr : TR X w.heap.size x2 xs
  xk : IntsR X w.heap.size 3 1 (.slice (some ⟨g6, 0, none⟩) kn kn) kn
  xv : IntsR X w.heap.size 3 1 (.slice (some ⟨g7, 0, none⟩) vn vn) vn
  sx : ∀ b, Its kS vS eS b ∨ Its kI vI eI b → b ≠ g6 ∧ b ≠ g7
  si : ∀ b, Its kS vS eS b → ¬ Its kI vI eI b
  lt : g6 < g7
  lw : w.heap.size < g6 ∧ ∀ b, Its kI vI eI b → w.heap.size < b
/-- Behind the marking of the arguments. -/
structure LwC (w : World) (bs : BoxL) (RK RV : List Int) (RE : List EffD) (kS vS eS kI vI eI : Value) (X : World) : Prop where
  bel : Below w.heap.size w X
  bx : Boxes bs X
  os : OutE w.heap.size X kS vS eS RK RV RE
  oi : OutE w.heap.size X kI vI eI RK RV RE
  si : ∀ b, Its kS vS eS b → ¬ Its kI vI eI b
  lw : ∀ b, Its kI vI eI b → w.heap.size < b
/-- Behind the marking of the answer's bank. -/
structure LwD (w : World) (bs : BoxL) (RK RV : List Int) (RE : List EffD) (kS vS eS kI vI eI : Value) (X : World) : Prop where
  bel : Below w.heap.size w X
  bx : Boxes bs X
  os : OutE w.heap.size X kS vS eS RK RV RE
  ie : IntsR X w.heap.size 136 4 eI RE.length
  si : ∀ b, Its kS vS eS b → ¬ Its kI vI eI b
  lw : ∀ b, Its kI vI eI b → w.heap.size < b
  kt : ∀ b, (kI.ownBlock = some b ∨ vI.ownBlock = some b) → ∃ cs, X.heap[b]? = some (.cells cs 3 (0, 0))
section
variable {w : World} {bs : BoxL} {RK RV : List Int} {RE : List EffD} {kS vS eS : Value} {es : List StD} {xs : List TrD} {kn vn : Nat} {x1 x2 : Value} {g6 g7 : Nat} {kI vI eI : Value} {X Y : World}
theorem LwA.below (h : LwA w bs RK RV RE kS vS eS X) (hb : Below X.heap.size X Y) : LwA w bs RK RV RE kS vS eS Y := ⟨h.bel.trans (hb.mono h.bel.size), h.bx.below hb, h.o.below hb⟩
theorem LwA.lw (h : LwA w bs RK RV RE kS vS eS X) : Lw w bs X := ⟨h.bel, h.bx⟩
theorem LwA.new (h : Lw w bs X) (ho : OutE w.heap.size X kS vS eS RK RV RE) : LwA w ((X.heap.size, #[kS, vS], 32) :: bs) RK RV RE kS vS eS (X.alloc (.cells #[kS, vS] 32)) := ⟨h.bel.alloc h.bel.size _, h.bx.add _ _, ho.below (below1 _ _)⟩
theorem LwA.set {H : Nat} (h : Lw w bs X) (z : Ez w bs H X) (ho : OutE w.heap.size X kS vS eS RK RV RE) : LwA w ((H, #[kS, vS], 32) :: bs) RK RV RE kS vS eS ((X.setCell ⟨H, 0, none⟩ kS).setCell ⟨H, 1, none⟩ vS) := ⟨out_bel h.bel z.le, h.bx.put z, ho.set2 z.z (by decide) (by decide) 0 1 _ _⟩
theorem LwB.below (h : LwB w bs RK RV RE kS vS eS es xs kn vn x1 x2 g6 g7 kI vI eI X) (hb : Below X.heap.size X Y) : LwB w bs RK RV RE kS vS eS es xs kn vn x1 x2 g6 g7 kI vI eI Y :=
  ⟨h.bel.trans (hb.mono h.bel.size), h.bx.below hb, h.os.below hb, h.oi.below hb, h.tt.of_below hb, h.tr.of_below hb, h.xk.below hb, h.xv.below hb, h.sx, h.si, h.lt, h.lw⟩
theorem LwB.add (h : LwB w bs RK RV RE kS vS eS es xs kn vn x1 x2 g6 g7 kI vI eI X) (c : Array Value) (t : TypeId) : LwB w ((X.heap.size, c, t) :: bs) RK RV RE kS vS eS es xs kn vn x1 x2 g6 g7 kI vI eI (X.alloc (.cells c t)) := by
  have h2 := h.below (below1 X (.cells c t))
  exact ⟨h2.bel, h.bx.add c t, h2.os, h2.oi, h2.tt, h2.tr, h2.xk, h2.xv, h.sx, h.si, h.lt, h.lw⟩
theorem LwB.mk' (h : LwB w bs RK RV RE kS vS eS es xs kn vn x1 x2 g6 g7 kI vI eI X) (hf : Far bs) (hm : Mk w.heap.size X Y) : LwB w bs RK RV RE kS vS eS es xs kn vn x1 x2 g6 g7 kI vI eI Y :=
  ⟨h.bel.trans hm.below, h.bx.mk hf hm, hm.out h.os, hm.out h.oi, hm.tt _ _ h.tt, hm.tr _ _ h.tr, hm.ints h.xk, hm.ints h.xv, h.sx, h.si, h.lt, h.lw⟩
theorem LwB.marked (h : LwB w bs RK RV RE kS vS eS es xs kn vn x1 x2 g6 g7 kI vI eI X) (hf : Far bs) (ho : Only2 (.slice (some ⟨g6, 0, none⟩) kn kn) (.slice (some ⟨g7, 0, none⟩) vn vn) X Y) : LwC w bs RK RV RE kS vS eS kI vI eI Y := by
  obtain ⟨us, hk, _⟩ := h.xk
  obtain ⟨ys, hv, _⟩ := h.xv
  refine ⟨⟨ho.os.trans h.bel.os, ho.tape.trans h.bel.tape, ho.output.trans h.bel.output, Nat.le_trans h.bel.size ho.size, fun k hk' => (ho.block k (Nat.lt_of_lt_of_le hk' h.bel.size) ?_ ?_).trans (h.bel.block k hk')⟩, h.bx.only2 hf hk hv ho, ho.out h.os (fun b hb => ?_), ho.out h.oi (fun b hb => ?_), h.si, h.lw.2⟩
  · have := h.lw.1; simp [Value.ownBlock]; omega
  · have := h.lw.1; have := h.lt; simp [Value.ownBlock]; omega
  · have := h.sx b (.inl hb); simp [Value.ownBlock]; omega
  · have := h.sx b (.inr hb); simp [Value.ownBlock]; omega
theorem LwC.below (h : LwC w bs RK RV RE kS vS eS kI vI eI X) (hb : Below X.heap.size X Y) : LwC w bs RK RV RE kS vS eS kI vI eI Y :=
  ⟨h.bel.trans (hb.mono h.bel.size), h.bx.below hb, h.os.below hb, h.oi.below hb, h.si, h.lw⟩
theorem LwC.marked (h : LwC w bs RK RV RE kS vS eS kI vI eI X) (hf : Far bs) (ho : Only2 kI vI X Y) (mk : MkdR Y w.heap.size 3 1 kI RK.length 1) (mv : MkdR Y w.heap.size 3 1 vI RV.length (1 + RK.length)) : LwD w bs RK RV RE kS vS eS kI vI eI Y := by
  have he : Y.ownsRow w.heap.size 136 4 eI RE.length (effCells RE) := ho.own h.oi.e (fun b hb => by obtain ⟨cs, hc⟩ := own_has h.oi.e b hb; exact own_tag h.oi.k hc (by decide)) (fun b hb => by obtain ⟨cs, hc⟩ := own_has h.oi.e b hb; exact own_tag h.oi.v hc (by decide))
  refine ⟨⟨ho.os.trans h.bel.os, ho.tape.trans h.bel.tape, ho.output.trans h.bel.output, Nat.le_trans h.bel.size ho.size, fun k hk' => (ho.block k (Nat.lt_of_lt_of_le hk' h.bel.size) (fun e => ?_) (fun e => ?_)).trans (h.bel.block k hk')⟩, h.bx.only2 hf h.oi.k h.oi.v ho, ho.out h.os (fun b hb => ⟨fun e => h.si b hb (.inl e), fun e => h.si b hb (.inr (.inl e))⟩), ints_eff he, h.si, h.lw, ?_⟩
  · have := h.lw k (.inl e); omega
  · have := h.lw k (.inr (.inl e)); omega
  · rintro b (hb | hb)
    · obtain ⟨us, o, _⟩ := mk; exact own_has o b hb
    · obtain ⟨us, o, _⟩ := mv; exact own_has o b hb
theorem LwD.marked (h : LwD w bs RK RV RE kS vS eS kI vI eI X) (hf : Far bs) (ho : Only eI X Y) (mk : MkdR X w.heap.size 3 1 kI RK.length 1) (mv : MkdR X w.heap.size 3 1 vI RV.length (1 + RK.length)) : LwA w bs RK RV RE kS vS eS Y ∧ MkdR Y w.heap.size 3 1 kI RK.length 1 ∧ MkdR Y w.heap.size 3 1 vI RV.length (1 + RK.length) := by
  obtain ⟨us, he, _⟩ := h.ie
  have sp : ∀ b, Its kS vS eS b → eI.ownBlock ≠ some b := fun b hb e => h.si b hb (.inr (.inr e))
  have si : ∀ b, (kI.ownBlock = some b ∨ vI.ownBlock = some b) → eI.ownBlock ≠ some b := fun b hb => by obtain ⟨cs, hc⟩ := h.kt b hb; exact own_tag he hc (by decide)
  refine ⟨⟨⟨ho.os.trans h.bel.os, ho.tape.trans h.bel.tape, ho.output.trans h.bel.output, Nat.le_trans h.bel.size (Nat.le_of_eq ho.size.symm), fun k hk' => (ho.block k (fun e => by have := h.lw k (.inr (.inr e)); omega)).trans (h.bel.block k hk')⟩, h.bx.only hf he ho, ?_⟩, ho.mkd mk (fun b hb => si b (.inl hb)), ho.mkd mv (fun b hb => si b (.inr hb))⟩
  exact ⟨ho.own h.os.k (fun b hb => sp b (.inl hb)), ho.own h.os.v (fun b hb => sp b (.inr (.inl hb))), ho.own h.os.e (fun b hb => sp b (.inr (.inr hb))), h.os.ne⟩
end

set_option maxHeartbeats 800000 in
theorem markChart_bd (L : Nat) (v1 v2 : Value) (es : List StD) (xs : List TrD) (w : World) (hw : wStates es + wTrans xs ≤ 1048576) (h1 : TT w L v1 es) (h2 : TR w L v2 xs) :
    Calls Tryz.prog 29 #[.agg #[v1, v2], .int .i64 1] w fun e w' => ∃ k', e = .returned (.int .i64 k') ∧ (1 ≤ k' ∧ k' ≤ 1 + 3 * 1048576) ∧ Mk L (w.alloc (.cells #[v1, v2] 36)) w' := by
  have f1 : ∃ g n, v1 = .slice (some ⟨g, 0, none⟩) n n := by obtain ⟨g, F, _, e, _⟩ := h1; exact ⟨g, _, e⟩
  have f2 : ∃ g n, v2 = .slice (some ⟨g, 0, none⟩) n n := by obtain ⟨g, F, _, e, _⟩ := h2; exact ⟨g, _, e⟩
  obtain ⟨g1, n1, rfl⟩ := f1
  obtain ⟨g2, n2, rfl⟩ := f2
  have C1 := hid (markStateS_any L _ es 1 (w.alloc (.cells #[.slice (some ⟨g1, 0, none⟩) n1 n1, .slice (some ⟨g2, 0, none⟩) n2 n2] 36)) (by omega) (by omega) (h1.of_below (below1 _ _)))
  have C2 := hid (fun (kq : Int) w' (b0 : 0 ≤ kq) (b1 : kq + 3 * ((wTrans xs : Nat) : Int) ≤ 1099511627776) (ht : TR w' L (.slice (some ⟨g2, 0, none⟩) n2 n2) xs) => markTransS_any L _ xs kq w' b0 b1 ht)
  have T2 : Hid (∀ w', Mk L (w.alloc (.cells #[.slice (some ⟨g1, 0, none⟩) n1 n1, .slice (some ⟨g2, 0, none⟩) n2 n2] 36)) w' → TR w' L (.slice (some ⟨g2, 0, none⟩) n2 n2) xs) := hid (fun w' hm => hm.tr _ _ (h2.of_below (below1 _ _)))
  clear h1 h2
  go_enter Tryz.func29, Tryz.ntmps29
  go_wp2_with (first | (go_at_call 83; refine C1.out.mono ?_; rintro e w1 ⟨k1, rfl, hk1, hm1⟩; have M1 := hid hm1; have K1 := hid hk1; have kb0 : 0 ≤ k1 := (by omega); have kb1 : k1 + 3 * ((wTrans xs : Nat) : Int) ≤ 1099511627776 := (by omega); obtain ⟨q0, q1⟩ := two_cells (hm1.box (heap_alloc_new w _) (by decide) (by decide) (by decide) (by decide)); clear hm1 hk1) | (go_at_call 84; refine (C2.out k1 _ kb0 kb1 (T2.out _ M1.out)).mono ?_; rintro e w2 ⟨k2, rfl, hk2, hm2⟩; have M2 := hid (M1.out.trans hm2); have K2 := hid hk2; clear hm2 hk2))
  go_ret
  exact ⟨k2, rfl, by have := K1.out; have := K2.out; omega, M2.out⟩

/-- The copy of a chart, with what a marking wants of it. -/
theorem toChart_full (eo xo : Option Addr) (en ec xn xc : Nat) (es : List StD) (xs : List TrD) (L : Nat) (w : World) (hL : L ≤ w.heap.size) (fe : FitsSt es) (fx : FitsTr xs) (he : StatesOf w eo en es) (hx : TransOf w xo xn xs) :
    Calls Tryz.prog 25 #[.agg #[.slice eo en ec, .slice xo xn xc]] w fun e w' => ∃ g1 g2, e = .returned (.agg #[.slice (some ⟨g1, 0, none⟩) en en, .slice (some ⟨g2, 0, none⟩) xn xn]) ∧
      (StatesOf w' (some ⟨g1, 0, none⟩) en es ∧ TransOf w' (some ⟨g2, 0, none⟩) xn xs) ∧ (TT w' L (.slice (some ⟨g1, 0, none⟩) en en) es ∧ TR w' L (.slice (some ⟨g2, 0, none⟩) xn xn) xs) ∧ Below w.heap.size w w' :=
  (toChart_any eo xo en ec xn xc es xs w fe fx he hx).mono (by
    rintro e w' ⟨g1, g2, rfl, h1, h2, hb⟩
    obtain ⟨q1, e1, s1⟩ := h1.states fe
    obtain ⟨q2, e2, s2⟩ := h2.trans fx
    have t1 := (h1.mono hL).tt
    have t2 := (h2.mono hL).tr
    simp at e1 e2
    obtain ⟨rfl, rfl, _⟩ := e1
    obtain ⟨rfl, rfl, _⟩ := e2
    exact ⟨g1, g2, rfl, ⟨s1, s2⟩, ⟨t1, t2⟩, hb⟩)
end Go.Proofs.YtiimkhepplkocaaGreat
