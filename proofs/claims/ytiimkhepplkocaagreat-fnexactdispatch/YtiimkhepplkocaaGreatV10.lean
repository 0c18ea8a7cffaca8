import Derived.Test.YtiimkhepplkocaaGreatV9
namespace Go.Proofs.YtiimkhepplkocaaGreat
open Go.RowKit Go.Sort
set_option linter.unusedVariables false
attribute [local go_sem ↓] Go.wp_at_zero Go.wp_at_succ

set_option maxHeartbeats 400000 in
theorem eqEffect_same (k a b v : Int) (w : World) :
    Calls Tryz.prog 93 #[.agg #[.int .i64 k, .int .i64 a, .int .i64 b, .int .i64 v], .agg #[.int .i64 k, .int .i64 a, .int .i64 b, .int .i64 v]] w fun e w' => e = .returned (.bool true) ∧ Below w.heap.size w w' := by
  go_enter Tryz.func93, Tryz.ntmps93
  go_wp2
  go_ret
  exact ⟨rfl, below2 _ _ _⟩

theorem effCells_get : ∀ (es : List EffD) (k : Nat), k < es.length → ∃ x : EffD, (effCells es)[k * 4]? = some (.int .i64 x.kind) ∧ (effCells es)[k * 4 + 1]? = some (.int .i64 x.a) ∧ (effCells es)[k * 4 + 2]? = some (.int .i64 x.b) ∧ (effCells es)[k * 4 + 3]? = some (.int .i64 x.v)
  | [], k, h => by simp at h
  | e :: r, 0, _ => ⟨e, rfl, rfl, rfl, rfl⟩
  | e :: r, k + 1, h => by
    obtain ⟨x, h1, h2, h3, h4⟩ := effCells_get r k (by simpa using h)
    refine ⟨x, ?_, ?_, ?_, ?_⟩
    · rw [show (k + 1) * 4 = k * 4 + 4 by omega]; simpa [effCells] using h1
    · rw [show (k + 1) * 4 + 1 = k * 4 + 1 + 4 by omega]; simpa [effCells] using h2
    · rw [show (k + 1) * 4 + 2 = k * 4 + 2 + 4 by omega]; simpa [effCells] using h3
    · rw [show (k + 1) * 4 + 3 = k * 4 + 3 + 4 by omega]; simpa [effCells] using h4

theorem own_any {w : World} {B : Nat} {e : TypeId} {size : Nat} {v : Value} {n : Nat} {xs : List Value} (h : w.ownsRow B e size v n xs) : ∃ ao c, v = .slice ao n c := by
  rcases h.2 with ⟨e, rfl⟩ | ⟨g, cap, cur, e, _⟩
  · exact ⟨none, 0, e⟩
  · exact ⟨_, cap, e⟩

set_option maxHeartbeats 800000 in
theorem eqEffectS_same (v1 v2 : Value) (B1 B2 : Nat) (es : List EffD) (w : World) (hn : es.length ≤ 1048576) (hx : w.ownsRow B1 136 4 v1 es.length (effCells es)) (hy : w.ownsRow B2 136 4 v2 es.length (effCells es)) :
    Calls Tryz.prog 35 #[v1, v2] w fun e w' => e = .returned (.bool true) ∧ Below w.heap.size w w' := by
  obtain ⟨ao, c, rfl⟩ := own_any hx
  obtain ⟨bo, d, rfl⟩ := own_any hy
  obtain ⟨n, hnn⟩ : ∃ n, n = es.length := ⟨_, rfl⟩
  rw [← hnn] at hx hy hn ⊢
  have HX := hid hx
  have HY := hid hy
  have HN := hid hnn
  clear hx hy hnn
  go_enter Tryz.func35, Tryz.ntmps35
  go_wp2
  go_loopw [5] (fun i wr => ∃ k : Nat, k ≤ n ∧ i = .int .i64 k ∧ Below w.heap.size w wr) (fun i _ => n - (intOf i).toNat)
  case atStart => exact ⟨0, Nat.zero_le _, rfl, Below.refl _ _⟩
  case round =>
    obtain ⟨k, hk, rfl, hb⟩ := hrel
    have HB := hid hb
    by_cases hlt : k < n
    · obtain ⟨b, cap, e1, _, hbl⟩ := World.ownsRow.form HX.out (by omega)
      obtain ⟨b2, cap2, e2, _, hbl2⟩ := World.ownsRow.form HY.out (by omega)
      simp only [Value.slice.injEq, true_and] at e1 e2
      obtain ⟨rfl, rfl⟩ := e1
      obtain ⟨rfl, rfl⟩ := e2
      have hi : (k : Int) < (n : Int) := by omega
      obtain ⟨x, c1, c2, c3, c4⟩ := effCells_get es k (by rw [← HN.out]; exact hlt)
      have rc : ∀ j, j < n * 4 → ∀ u, (effCells es)[j]? = some u → wr.cell? ⟨b, j, none⟩ = some u := fun j hj u hu => (hb.cell (p := ⟨b, j, none⟩) hbl).trans ((World.ownsRow.cellAt HX.out j hj).trans hu)
      have rd : ∀ j, j < n * 4 → ∀ u, (effCells es)[j]? = some u → wr.cell? ⟨b2, j, none⟩ = some u := fun j hj u hu => (hb.cell (p := ⟨b2, j, none⟩) hbl2).trans ((World.ownsRow.cellAt HY.out j hj).trans hu)
      have k1 := cell_regrown (rc (k * 4) (by omega) _ c1)
      have k2 := cell_regrown (rc (k * 4 + 1) (by omega) _ c2)
      have k3 := cell_regrown (rc (k * 4 + 2) (by omega) _ c3)
      have k4 := cell_regrown (rc (k * 4 + 3) (by omega) _ c4)
      have l1 := cell_regrown (rd (k * 4) (by omega) _ c1)
      have l2 := cell_regrown (rd (k * 4 + 1) (by omega) _ c2)
      have l3 := cell_regrown (rd (k * 4 + 2) (by omega) _ c3)
      have l4 := cell_regrown (rd (k * 4 + 3) (by omega) _ c4)
      have c47 : ∀ d os, Calls Tryz.prog 93 #[.agg #[.int .i64 x.kind, .int .i64 x.a, .int .i64 x.b, .int .i64 x.v], .agg #[.int .i64 x.kind, .int .i64 x.a, .int .i64 x.b, .int .i64 x.v]] (grow (redrawn wr d) os) fun e w'' => e = .returned (.bool true) ∧ ∃ p : Regrown, w'' = grow (redrawn wr p.d) p.os :=
        fun d os => Calls.regrown_of (eqEffect_same x.kind x.a x.b x.v _)
      obtain ⟨kd, av, bv, vv⟩ := x
      simp only at k1 k2 k3 k4 l1 l2 l3 l4 c47
      clear rc rd c1 c2 c3 c4 hb
      go_wp2
      refine wp_region_quiet_below (by kernel_rfl) (by kernel_rfl) ?_
      repeat (any_goals (first | go_big_quiet_step (first | exact c47 _ _) | quiet_step (first | exact c47 _ _)))
      refine wpQuiet_nil ?_
      intro _ hw'
      obtain ⟨⟨dq, osq⟩, hw''⟩ := hw'
      subst hw''
      go_wp2
      go_roundw
      case rel => exact ⟨k + 1, by omega, by go_num, HB.out.trans ((below_regrown wr dq osq).mono HB.out.size)⟩
      case measure => simp [intOf]; omega
    · have e : k = n := by omega
      subst e
      clear hb
      go_wp2
      go_ret
      exact ⟨rfl, HB.out⟩

theorem own_sliceOf {w : World} {B : Nat} {v : Value} {zs : List Int} (h : w.ownsRow B 3 1 v zs.length (zs.map (Value.int .i64))) : ∃ ao c, v = .slice ao zs.length c ∧ SliceOf w ao zs.length zs := by
  rcases h.2 with ⟨e, e0⟩ | ⟨g, cap, cur, e, _⟩
  · exact ⟨none, 0, by rw [e, e0], rfl, fun hn => by omega⟩
  · refine ⟨_, cap, e, ?_⟩
    subst e
    exact Own.slice ⟨h, by simp⟩
theorem eqBank_out {B1 B2 : Nat} {kv vv ev kv' vv' ev' : Value} {ks vs : List Int} {es es' : List EffD} {w : World} (h1 : OutE B1 w kv vv ev ks vs es) (h2 : OutE B2 w kv' vv' ev' ks vs es') (hk : ks.length ≤ 1048576) (hv : vs.length ≤ 1048576) :
    Calls Tryz.prog 34 #[.agg #[kv, vv], .agg #[kv', vv']] w fun e w' => e = .returned (.bool true) ∧ Below w.heap.size w w' := by
  obtain ⟨a1, c1, rfl, s1⟩ := own_sliceOf h1.k
  obtain ⟨a2, c2, rfl, s2⟩ := own_sliceOf h1.v
  obtain ⟨a3, c3, rfl, s3⟩ := own_sliceOf h2.k
  obtain ⟨a4, c4, rfl, s4⟩ := own_sliceOf h2.v
  refine (eqBank_any a1 a2 a3 a4 _ _ c1 c2 _ _ c3 c4 ks vs ks vs w hk hv hk hv s1 s2 s3 s4).mono ?_
  rintro e w' ⟨rfl, hb⟩
  exact ⟨by simp, hb⟩

/-- Only those two rows were written. -/
structure Only2 (kv vv : Value) (w w' : World) : Prop where
  os : w'.os = w.os
  tape : w'.tape = w.tape
  output : w'.output = w.output
  size : w.heap.size ≤ w'.heap.size
  block : ∀ q, q < w.heap.size → kv.ownBlock ≠ some q → vv.ownBlock ≠ some q → w'.heap[q]? = w.heap[q]?
theorem Only2.of_below {kv vv : Value} {w w' : World} (h : Below w.heap.size w w') : Only2 kv vv w w' := ⟨h.os, h.tape, h.output, h.size, fun q hq _ _ => h.block q hq⟩
theorem Only2.trans {kv vv : Value} {a b c : World} (h : Only2 kv vv a b) (k : Only2 kv vv b c) : Only2 kv vv a c := ⟨k.os.trans h.os, k.tape.trans h.tape, k.output.trans h.output, Nat.le_trans h.size k.size, fun q hq h1 h2 => (k.block q (Nat.lt_of_lt_of_le hq h.size) h1 h2).trans (h.block q hq h1 h2)⟩
theorem Only2.left {kv vv : Value} {w w' : World} (h : Only kv w w') : Only2 kv vv w w' := ⟨h.os, h.tape, h.output, Nat.le_of_eq h.size.symm, fun q _ h1 _ => h.block q h1⟩
theorem Only2.right {kv vv : Value} {w w' : World} (h : Only vv w w') : Only2 kv vv w w' := ⟨h.os, h.tape, h.output, Nat.le_of_eq h.size.symm, fun q _ _ h1 => h.block q h1⟩
theorem Only2.own {kv vv : Value} {w w' : World} {B : Nat} {e : TypeId} {size : Nat} {v2 : Value} {n : Nat} {xs : List Value} (h : Only2 kv vv w w') (ho : w.ownsRow B e size v2 n xs) (h1 : ∀ b, v2.ownBlock = some b → kv.ownBlock ≠ some b) (h2 : ∀ b, v2.ownBlock = some b → vv.ownBlock ≠ some b) : w'.ownsRow B e size v2 n xs := ownsRow_eqb ho (fun b hl hb => h.block b hl (h1 b hb) (h2 b hb))
theorem Only2.out {k0 v0 : Value} {w w' : World} {B : Nat} {kv vv ev : Value} {ks vs : List Int} {es : List EffD} (h : Only2 k0 v0 w w') (ho : OutE B w kv vv ev ks vs es) (h1 : ∀ b, (kv.ownBlock = some b ∨ vv.ownBlock = some b ∨ ev.ownBlock = some b) → k0.ownBlock ≠ some b ∧ v0.ownBlock ≠ some b) : OutE B w' kv vv ev ks vs es :=
  ⟨h.own ho.k (fun b hb => (h1 b (.inl hb)).1) (fun b hb => (h1 b (.inl hb)).2), h.own ho.v (fun b hb => (h1 b (.inr (.inl hb))).1) (fun b hb => (h1 b (.inr (.inl hb))).2), h.own ho.e (fun b hb => (h1 b (.inr (.inr hb))).1) (fun b hb => (h1 b (.inr (.inr hb))).2), ho.ne⟩

theorem IntsR.below {w w' : World} {B : Nat} {e : TypeId} {size : Nat} {v : Value} {n : Nat} (h : IntsR w B e size v n) (hb : Below w.heap.size w w') : IntsR w' B e size v n := by
  obtain ⟨xs, ho, hz⟩ := h
  exact ⟨xs, ownsRow_below ho hb, hz⟩
theorem MkdR.below {w w' : World} {B : Nat} {e : TypeId} {size : Nat} {v : Value} {n : Nat} {k : Int} (h : MkdR w B e size v n k) (hb : Below w.heap.size w w') : MkdR w' B e size v n k := by
  obtain ⟨xs, ho, hz⟩ := h
  exact ⟨xs, ownsRow_below ho hb, hz⟩
theorem Only.ints {v : Value} {w w' : World} {B : Nat} {e : TypeId} {size : Nat} {v2 : Value} {n : Nat} (h : Only v w w') (ho : IntsR w B e size v2 n) (hne : ∀ b, v2.ownBlock = some b → v.ownBlock ≠ some b) : IntsR w' B e size v2 n := by
  obtain ⟨xs, ho, hz⟩ := ho
  exact ⟨xs, h.own ho hne, hz⟩
theorem Only.mkd {v : Value} {w w' : World} {B : Nat} {e : TypeId} {size : Nat} {v2 : Value} {n : Nat} {k : Int} (h : Only v w w') (ho : MkdR w B e size v2 n k) (hne : ∀ b, v2.ownBlock = some b → v.ownBlock ≠ some b) : MkdR w' B e size v2 n k := by
  obtain ⟨xs, ho, hz⟩ := ho
  exact ⟨xs, h.own ho hne, hz⟩
theorem IntsR.any {w : World} {B : Nat} {e : TypeId} {size : Nat} {v : Value} {n : Nat} (h : IntsR w B e size v n) : ∃ ao c, v = .slice ao n c := by obtain ⟨xs, ho, _⟩ := h; exact own_any ho
theorem MkdR.any {w : World} {B : Nat} {e : TypeId} {size : Nat} {v : Value} {n : Nat} {k : Int} (h : MkdR w B e size v n k) : ∃ ao c, v = .slice ao n c := by obtain ⟨xs, ho, _⟩ := h; exact own_any ho

set_option maxHeartbeats 1600000 in
theorem markBank_own (B : Nat) (kv vv : Value) (n m : Nat) (k : Int) (w : World) (h0 : 0 ≤ k) (h1 : k + n + m ≤ 1099511627776) (hk : IntsR w B 3 1 kv n) (hv : IntsR w B 3 1 vv m) (hne : ∀ b, kv.ownBlock = some b → vv.ownBlock ≠ some b) :
    Calls Tryz.prog 36 #[.agg #[kv, vv], .int .i64 k] w fun e w' => e = .returned (.int .i64 (k + n + m)) ∧ (MkdR w' B 3 1 kv n k ∧ MkdR w' B 3 1 vv m (k + n)) ∧ Only2 kv vv w w' := by
  obtain ⟨ko, kc, rfl⟩ := hk.any
  obtain ⟨vo, vc, rfl⟩ := hv.any
  have NE := hid hne
  obtain ⟨W, hW⟩ : ∃ W, W = w.alloc (.cells #[.slice ko n kc, .slice vo m vc] 32) := ⟨_, rfl⟩
  have bW : Below w.heap.size w W := by rw [hW]; exact below1 _ _
  have qW : W.heap[w.heap.size]? = some (.cells #[.slice ko n kc, .slice vo m vc] 32 (0, 0)) := by rw [hW]; exact heap_alloc_new _ _
  have NL : Hid ((Value.slice ko n kc).ownBlock ≠ some w.heap.size) := hid (by obtain ⟨xs, ho, _⟩ := hk; exact ownsRow_lt ho (Nat.le_refl _))
  have NL2 : Hid ((Value.slice vo m vc).ownBlock ≠ some w.heap.size) := hid (by obtain ⟨xs, ho, _⟩ := hv; exact ownsRow_lt ho (Nat.le_refl _))
  have C1 := hid (markInt_own B (.slice ko n kc) n k W h0 (by omega) (hk.below bW))
  have V1 := hid (hv.below bW)
  have BW := hid bW
  have QW := hid qW
  have HW := hid hW
  rw [hW] at C1
  clear hk hv hW bW qW hne
  go_enter Tryz.func36, Tryz.ntmps36
  go_wp2_with (first
    | (go_at_call_of 85 (Value.int .i64 k); refine C1.out.mono ?_; rintro e w1 ⟨rfl, hm, ho⟩; rw [← HW.out] at ho; have M1 := hid hm; have O1 := hid ho; have Q1 := hid ((ho.block _ NL.out).trans QW.out); obtain ⟨q0, q1, _, _⟩ := pair_cells Q1.out; clear hm ho)
    | (go_at_call_of 85 (Value.slice vo m vc); refine (markInt_own B (.slice vo m vc) m (k + n) w1 (by omega) (by omega) (O1.out.ints V1.out (fun b hb hb2 => NE.out b hb2 hb))).mono ?_; rintro e w2 ⟨rfl, hm, ho⟩; have M2 := hid hm; have O2 := hid ho; clear hm ho))
  go_ret
  exact ⟨rfl, ⟨O2.out.mkd M1.out (fun b hb => NE.out b hb), M2.out⟩, ((Only2.of_below BW.out).trans (Only2.left O1.out)).trans (Only2.right O2.out)⟩

set_option maxHeartbeats 1600000 in
theorem heldBank_own (B : Nat) (kv vv : Value) (n m : Nat) (k : Int) (w : World) (h0 : 0 ≤ k) (h1 : k + n + m ≤ 1099511627776) (hk : MkdR w B 3 1 kv n k) (hv : MkdR w B 3 1 vv m (k + n)) :
    Calls Tryz.prog 38 #[.agg #[kv, vv], .int .i64 k] w fun e w' => e = .returned (.int .i64 (k + n + m)) ∧ Below w.heap.size w w' := by
  obtain ⟨ko, kc, rfl⟩ := hk.any
  obtain ⟨vo, vc, rfl⟩ := hv.any
  obtain ⟨W, hW⟩ : ∃ W, W = w.alloc (.cells #[.slice ko n kc, .slice vo m vc] 32) := ⟨_, rfl⟩
  have bW : Below w.heap.size w W := by rw [hW]; exact below1 _ _
  have C1 := hid (heldInt_own B (.slice ko n kc) n k W h0 (by omega) (hk.below bW))
  have C2 := hid (heldInt_own B (.slice vo m vc) m (k + n) W (by omega) (by omega) (hv.below bW))
  have BW := hid bW
  have p1 : ¬ (k + n : Int) < 0 := by omega
  have p2 : ¬ (k + n + m : Int) < 0 := by omega
  rw [hW] at C1 C2 BW
  clear hk hv hW bW
  go_enter Tryz.func38, Tryz.ntmps38
  go_wp2_with (first
    | (go_at_call_of 88 (Value.int .i64 k); refine C1.out.mono ?_; rintro e w1 ⟨rfl, hw⟩; obtain rfl := hw.symm)
    | (go_at_call_of 88 (Value.slice vo m vc); refine C2.out.mono ?_; rintro e w2 ⟨rfl, hw⟩; obtain rfl := hw.symm))
  go_ret
  exact ⟨rfl, BW.out⟩
end Go.Proofs.YtiimkhepplkocaaGreat
