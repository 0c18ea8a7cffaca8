import Derived.Test.YtiimkhepplkocaaGreatZ25
namespace Go.Proofs.YtiimkhepplkocaaGreat
open Go.RowKit Go.Sort
set_option linter.unusedVariables false
attribute [local go_sem ↓] Go.wp_at_zero Go.wp_at_succ
set_option maxRecDepth 100000 in
set_option maxHeartbeats 16000000 in
theorem implDispatch_any (so tq : Option Addr) (n sc tn tc : Nat) (ss : List StD) (ts : List TrD) (o s t v : Int) (leaf : Int) (kA vA : Option Addr) (kn kc vn vc : Nat) (ks vs : List Int) (sg arg : Int) (w : World) (hn : n ≤ 9223372036854775807) (htn : tn ≤ 9223372036854775807) (hkn : kn ≤ 1048576) (hvn : vn ≤ 1048576) (hs : StatesOf w so n ss) (ht : TransOf w tq tn ts) (hk : SliceOf w kA kn ks) (hv : SliceOf w vA vn vs) :
  Calls Tryz.prog 15 #[.agg #[.slice so n sc, .slice tq tn tc], .agg #[.int .i64 o, .int .i64 s, .int .i64 t, .int .i64 v], .int .i64 leaf, .agg #[.slice kA kn kc, .slice vA vn vc], .agg #[.int .i64 sg, .int .i64 arg]] w fun e w' => ∃ kv vv ev, e = .returned (.tuple #[.int .i64 (dL ss ts ⟨o, s, t, v⟩ ks vs leaf sg arg), .agg #[kv, vv], ev, .bool (dB ss ts ⟨o, s, t, v⟩ ks vs leaf sg arg)]) ∧ OutE w.heap.size w' kv vv ev (dK ss ts ⟨o, s, t, v⟩ ks vs leaf sg) (dV ss ts ⟨o, s, t, v⟩ ks vs leaf sg arg) (dE ss ts ⟨o, s, t, v⟩ ks vs leaf sg arg) ∧ Below w.heap.size w w' := by
 have EN := hid (bw_start w #[.slice so n sc, .slice tq tn tc] #[.int .i64 o, .int .i64 s, .int .i64 t, .int .i64 v] #[.slice kA kn kc, .slice vA vn vc] #[.int .i64 sg, .int .i64 arg])
 have HS : Hid (∀ w', Below w.heap.size w w' → SliceOf w' kA kn ks ∧ SliceOf w' vA vn vs) := fun w' h => ⟨hk.below h, hv.below h⟩
 have BF := hid (fun w' (hb : Below w.heap.size w w') => bankFits_any kA vA kn kc vn vc ks vs o s t v w' hkn hvn (HS.out w' hb).1 (HS.out w' hb).2)
 have SL := hid hs.1
 have TL := hid ht.1
 by_cases hc : (checkOf ss ts ⟨o, s, t, v⟩).1 = 0
 case neg =>
  have A1 : Hid (okDp ss ts ⟨o, s, t, v⟩ ks vs leaf sg = false) := hid (by unfold okDp okBt; rw [decide_eq_false hc]; rfl)
  have C := hid (machineOf_no so tq n sc tn tc ss ts o s t v _ hn htn (hs.below EN.out.bel) (ht.below EN.out.bel) hc)
  clear hs ht hk hv hc
  go_enter Tryz.func15, Tryz.ntmps15
  go_wp2_with (go_at_call 43; refine C.out.mono ?_; rintro e w1 ⟨rfl, hb⟩; have B1 := hid (EN.out.below hb); obtain ⟨z0, z1, z2, z3⟩ := pair_cells B1.out.r; have zl := lt_of_block B1.out.r; clear hb)
  obtain ⟨y0, y1⟩ := two_cells' (block_below (out_cells (u1 := .slice none 0 0) (u2 := .slice none 0 0) B1.out.r) (below1 _ OE))
  refine bodyPost_ret (v := .tuple #[.int .i64 (-1), .agg #[.slice none 0 0, .slice none 0 0], .slice (some ⟨w1.heap.size, 0, none⟩) 0 0, .bool false]) (by simp [results, Tryz.results15, go_sem, y0, y1]) rfl ?_
  refine ⟨.slice none 0 0, .slice none 0 0, .slice (some ⟨w1.heap.size, 0, none⟩) 0 0, by rw [show dL ss ts ⟨o, s, t, v⟩ ks vs leaf sg arg = -1 from by simp [dL, A1.out], show dB ss ts ⟨o, s, t, v⟩ ks vs leaf sg arg = false from by simp [dB, A1.out]], ?_, (out_bel B1.out.bel (by omega)).alloc (by have := B1.out.bel.size; simp; omega) _⟩
  simp only [dK, dV, dE, A1.out]
  exact outE_none (by simpa using new1 ((w1.setCell ⟨w.heap.size + 1 + 1 + 1 + 1, 0, none⟩ (.slice none 0 0)).setCell ⟨w.heap.size + 1 + 1 + 1 + 1, 1, none⟩ (.slice none 0 0)) OE) B1.out.bel.size
 have C := hid (machineOf_ok so tq n sc tn tc ss ts o s t v _ hn htn (hs.below EN.out.bel) (ht.below EN.out.bel) hc)
 have HC := hid (chk_of hc)
 obtain ⟨fb, hfb⟩ : ∃ b, b = fitB ks vs v := ⟨_, rfl⟩
 rw [← hfb] at BF
 cases fb with
 | false =>
  have A1 : Hid (okDp ss ts ⟨o, s, t, v⟩ ks vs leaf sg = false) := hid (by unfold okDp okBt; rw [← hfb]; simp)
  clear hs ht hk hv hc hfb
  go_enter Tryz.func15, Tryz.ntmps15
  go_wp2_with (first
   | (go_at_call 43; refine C.out.mono ?_; rintro e w1 ⟨x0, N, tg, tcap, B, P, M, E, F, ev, xv, L, lets, act, rfl, hx0, hL2, hb⟩; have B1 := hid (EN.out.below hb); have HL2 := hid hL2; obtain ⟨p0, p1, _, _⟩ := pair_cells B1.out.b; obtain ⟨l0, l1, l2, l3⟩ := quad_cells B1.out.l; clear hb hL2 hx0)
   | (go_at_call 57; refine (BF.out _ B1.out.bel).mono ?_; rintro e w2 ⟨rfl, hb⟩; have B2 := hid (B1.out.below hb); obtain ⟨p0, p1, _, _⟩ := pair_cells B2.out.b; obtain ⟨z0, z1, z2, z3⟩ := pair_cells B2.out.r; have zl := lt_of_block B2.out.r; clear hb))
  obtain ⟨y0, y1⟩ := two_cells' (block_below (out_cells (u1 := .slice none 0 0) (u2 := .slice none 0 0) B2.out.r) (below1 _ OE))
  refine bodyPost_ret (v := .tuple #[.int .i64 (-1), .agg #[.slice none 0 0, .slice none 0 0], .slice (some ⟨w2.heap.size, 0, none⟩) 0 0, .bool false]) (by simp [results, Tryz.results15, go_sem, y0, y1]) rfl ?_
  refine ⟨.slice none 0 0, .slice none 0 0, .slice (some ⟨w2.heap.size, 0, none⟩) 0 0, by rw [show dL ss ts ⟨o, s, t, v⟩ ks vs leaf sg arg = -1 from by simp [dL, A1.out], show dB ss ts ⟨o, s, t, v⟩ ks vs leaf sg arg = false from by simp [dB, A1.out]], ?_, (out_bel B2.out.bel (by omega)).alloc (by have := B2.out.bel.size; simp; omega) _⟩
  simp only [dK, dV, dE, A1.out]
  exact outE_none (by simpa using new1 ((w2.setCell ⟨w.heap.size + 1 + 1 + 1 + 1, 0, none⟩ (.slice none 0 0)).setCell ⟨w.heap.size + 1 + 1 + 1 + 1, 1, none⟩ (.slice none 0 0)) OE) B2.out.bel.size
 | true =>
  have A0 : Hid (okBt ss ts ⟨o, s, t, v⟩ ks vs = true) := hid (by unfold okBt; rw [← hfb, decide_eq_true hc]; rfl)
  have hf2 : bankB ks vs = true ∧ (vs.length : Int) = v := by
   unfold fitB at hfb
   have h2 := hfb.symm
   rw [Bool.and_eq_true, decide_eq_true_iff] at h2
   exact h2
  have BP := hid (bankP_of hf2.1)
  have HV := hid hf2.2
  clear hs ht hk hv hc hfb hf2
  obtain ⟨lb, hlb⟩ : ∃ b, b = leafB ss leaf := ⟨_, rfl⟩
  cases lb with
  | false =>
   have A1 : Hid (okDp ss ts ⟨o, s, t, v⟩ ks vs leaf sg = false) := hid (by unfold okDp; rw [← hlb]; simp)
   have LB := hid hlb
   clear hlb
   go_enter Tryz.func15, Tryz.ntmps15
   go_wp2_with (first
    | (go_at_call 43; refine C.out.mono ?_; rintro e w1 ⟨x0, N, tg, tcap, B, P, M, E, F, ev, xv, L, lets, act, rfl, hx0, hL2, hb⟩; have B1 := hid (EN.out.below hb); have HL2 := hid hL2; obtain ⟨p0, p1, _, _⟩ := pair_cells B1.out.b; obtain ⟨l0, l1, l2, l3⟩ := quad_cells B1.out.l; clear hb hL2 hx0)
    | (go_at_call 57; refine (BF.out _ B1.out.bel).mono ?_; rintro e w2 ⟨rfl, hb⟩; have B2 := hid (B1.out.below hb); have L2h := hid (HL2.out.below hb); obtain ⟨p0, p1, _, _⟩ := pair_cells B2.out.b; obtain ⟨z0, z1, z2, z3⟩ := pair_cells B2.out.r; have zl := lt_of_block B2.out.r; clear hb)
    | (go_at_call 58; refine (hasLeaf_any HC.out SL.out leaf _ L2h.out).mono ?_; rw [← LB.out]; rintro e wa ⟨rfl, hw⟩; obtain rfl := hw.symm))
   obtain ⟨y0, y1⟩ := two_cells' (block_below (out_cells (u1 := .slice none 0 0) (u2 := .slice none 0 0) B2.out.r) (below1 _ OE))
   refine bodyPost_ret (v := .tuple #[.int .i64 (-1), .agg #[.slice none 0 0, .slice none 0 0], .slice (some ⟨w2.heap.size, 0, none⟩) 0 0, .bool false]) (by simp [results, Tryz.results15, go_sem, y0, y1]) rfl ?_
   refine ⟨.slice none 0 0, .slice none 0 0, .slice (some ⟨w2.heap.size, 0, none⟩) 0 0, by rw [show dL ss ts ⟨o, s, t, v⟩ ks vs leaf sg arg = -1 from by simp [dL, A1.out], show dB ss ts ⟨o, s, t, v⟩ ks vs leaf sg arg = false from by simp [dB, A1.out]], ?_, (out_bel B2.out.bel (by omega)).alloc (by have := B2.out.bel.size; simp; omega) _⟩
   simp only [dK, dV, dE, A1.out]
   exact outE_none (by simpa using new1 ((w2.setCell ⟨w.heap.size + 1 + 1 + 1 + 1, 0, none⟩ (.slice none 0 0)).setCell ⟨w.heap.size + 1 + 1 + 1 + 1, 1, none⟩ (.slice none 0 0)) OE) B2.out.bel.size
  | true =>
   obtain ⟨sb, hsb⟩ : ∃ b, b = decide (0 ≤ sg ∧ sg < s) := ⟨_, rfl⟩
   have LB := hid hlb
   have CWs := hid (fun W => within_any sg s W)
   rw [← hsb] at CWs
   cases sb with
   | false =>
    have A1 : Hid (okDp ss ts ⟨o, s, t, v⟩ ks vs leaf sg = false) := hid (by unfold okDp; simp only; rw [← hsb]; simp)
    clear hlb hsb
    go_enter Tryz.func15, Tryz.ntmps15
    go_wp2_with (first
     | (go_at_call 43; refine C.out.mono ?_; rintro e w1 ⟨x0, N, tg, tcap, B, P, M, E, F, ev, xv, L, lets, act, rfl, hx0, hL2, hb⟩; have B1 := hid (EN.out.below hb); have HL2 := hid hL2; obtain ⟨p0, p1, _, _⟩ := pair_cells B1.out.b; obtain ⟨l0, l1, l2, l3⟩ := quad_cells B1.out.l; clear hb hL2 hx0)
     | (go_at_call 57; refine (BF.out _ B1.out.bel).mono ?_; rintro e w2 ⟨rfl, hb⟩; have B2 := hid (B1.out.below hb); have L2h := hid (HL2.out.below hb); obtain ⟨p0, p1, _, _⟩ := pair_cells B2.out.b; obtain ⟨z0, z1, z2, z3⟩ := pair_cells B2.out.r; obtain ⟨l0, l1, l2, l3⟩ := quad_cells B2.out.l; obtain ⟨v0, v1, _, _⟩ := pair_cells B2.out.e; have zl := lt_of_block B2.out.r; clear hb)
     | (go_at_call 58; refine (hasLeaf_any HC.out SL.out leaf _ L2h.out).mono ?_; rw [← LB.out]; rintro e wa ⟨rfl, hw⟩; obtain rfl := hw.symm)
     | (go_at_call 59; refine (CWs.out _).mono ?_; rintro e wa ⟨rfl, hw⟩; obtain rfl := hw.symm))
    obtain ⟨y0, y1⟩ := two_cells' (block_below (out_cells (u1 := .slice none 0 0) (u2 := .slice none 0 0) B2.out.r) (below1 _ OE))
    refine bodyPost_ret (v := .tuple #[.int .i64 (-1), .agg #[.slice none 0 0, .slice none 0 0], .slice (some ⟨w2.heap.size, 0, none⟩) 0 0, .bool false]) (by simp [results, Tryz.results15, go_sem, y0, y1]) rfl ?_
    refine ⟨.slice none 0 0, .slice none 0 0, .slice (some ⟨w2.heap.size, 0, none⟩) 0 0, by rw [show dL ss ts ⟨o, s, t, v⟩ ks vs leaf sg arg = -1 from by simp [dL, A1.out], show dB ss ts ⟨o, s, t, v⟩ ks vs leaf sg arg = false from by simp [dB, A1.out]], ?_, (out_bel B2.out.bel (by omega)).alloc (by have := B2.out.bel.size; simp; omega) _⟩
    simp only [dK, dV, dE, A1.out]
    exact outE_none (by simpa using new1 ((w2.setCell ⟨w.heap.size + 1 + 1 + 1 + 1, 0, none⟩ (.slice none 0 0)).setCell ⟨w.heap.size + 1 + 1 + 1 + 1, 1, none⟩ (.slice none 0 0)) OE) B2.out.bel.size
   | true =>
    have A1 : Hid (okDp ss ts ⟨o, s, t, v⟩ ks vs leaf sg = true) := hid (by unfold okDp; simp only; rw [← hsb, A0.out, ← hlb]; rfl)
    have hlr : 0 ≤ leaf ∧ leaf < ss.length := by
     have h1 := hlb
     by_cases h : 0 ≤ leaf ∧ leaf < ss.length
     ·exact h
     ·rw [leafB_out h] at h1; cases h1
    obtain ⟨lf, hlf⟩ : ∃ x, x = leaf.toNat := ⟨_, rfl⟩
    have hle : leaf = (lf : Int) := by omega
    have hln : lf < n := by have := SL.out; omega
    have LN := hid hln
    have HLE := hid hle
    subst hle
    obtain ⟨pk, hpk⟩ : ∃ p, p = pickX ss ts ⟨o, s, t, v⟩ vs arg lf sg := ⟨_, rfl⟩
    have PK := hid hpk
    obtain ⟨xr, hxr⟩ : ∃ x, x = dpX ss ts ⟨o, s, t, v⟩ ks vs arg lf pk := ⟨_, rfl⟩
    have XR := hid hxr
    obtain ⟨dn, hdn⟩ : ∃ x, x = dpN ss ts lf pk := ⟨_, rfl⟩
    have DN := hid hdn
    obtain ⟨ds, hds⟩ : ∃ x, x = pk.isSome := ⟨_, rfl⟩
    have DS := hid hds
    have CS := hid (fun (w0 : World) (N : Nat → Nat) (tg tcap B P M : Nat) (E F : List Value) (ev xv : Value) (L lets act : Nat → Value) (W : World) (hW : Below w.heap.size w W) (h : L2 w0 #[.slice so n sc, .slice tq tn tc] #[.int .i64 o, .int .i64 s, .int .i64 t, .int .i64 v] N tg tcap ss ts n ⟨o, s, t, v⟩ B P M tn E F ev xv L lets act W) => step_any HC.out SL.out TL.out lf LN.out sg arg kA vA kn kc vn vc ks vs W h hkn hvn (HS.out _ hW).1 (HS.out _ hW).2 BP.out HV.out.symm)
    rw [← hpk, ← hxr, ← hdn, ← hds] at CS
    clear hlb hsb hlr hlf hln hpk hxr hdn hds
    go_enter Tryz.func15, Tryz.ntmps15
    go_wp2_with (first
     | (go_at_call 43; refine C.out.mono ?_; rintro e w1 ⟨x0, N, tg, tcap, B, P, M, E, F, ev, xv, L, lets, act, rfl, hx0, hL2, hb⟩; have B1 := hid (EN.out.below hb); have HL2 := hid hL2; have X0 := hid hx0; obtain ⟨p0, p1, _, _⟩ := pair_cells B1.out.b; obtain ⟨l0, l1, l2, l3⟩ := quad_cells B1.out.l; clear hb hL2 hx0)
     | (go_at_call 57; refine (BF.out _ B1.out.bel).mono ?_; rintro e w2 ⟨rfl, hb⟩; have B2 := hid (B1.out.below hb); have L2h := hid (HL2.out.below hb); obtain ⟨p0, p1, _, _⟩ := pair_cells B2.out.b; obtain ⟨l0, l1, l2, l3⟩ := quad_cells B2.out.l; obtain ⟨v0, v1, _, _⟩ := pair_cells B2.out.e; clear hb)
     | (go_at_call 58; refine (hasLeaf_any HC.out SL.out _ _ L2h.out).mono ?_; rw [← LB.out]; rintro e wa ⟨rfl, hw⟩; obtain rfl := hw.symm)
     | (go_at_call 59; refine (CWs.out _).mono ?_; rintro e wa ⟨rfl, hw⟩; obtain rfl := hw.symm)
     | (go_at_call 60; refine (CS.out _ _ _ _ _ _ _ _ _ _ _ _ _ _ _ B2.out.bel L2h.out).mono ?_; rintro e w3 ⟨kv, vv, ee, rfl, ho, hb⟩; obtain ⟨ka, kcc, rfl⟩ := slice_of ho.k; obtain ⟨va, vcc, rfl⟩ := slice_of ho.v; obtain ⟨ea, ecc, rfl⟩ := slice_of ho.e; have R3 := hid (hb.box ⟨_, _, L2h.out.l1.mb.mp⟩ B2.out.r); have O3 := hid ho; have SZ := hid B2.out.bel.size; have P3 : Hid (w.heap.size ≤ P) := hid (by have h1 := L2h.out.l1.hB; have h2 := X0.out; have h3 := EN.out.bel.size; omega); have B3 := hid (B2.out.bel.trans (hb.below P3.out B2.out.bel.size)); obtain ⟨z0, z1, z2, z3⟩ := pair_cells R3.out; have zl := lt_of_block R3.out; clear ho hb))
    obtain ⟨y0, y1⟩ := two_cells' (out_cells (u1 := .slice ka ks.length kcc) (u2 := .slice va xr.1.length vcc) R3.out)
    refine bodyPost_ret (v := .tuple #[.int .i64 (dn : Int), .agg #[.slice ka ks.length kcc, .slice va xr.1.length vcc], .slice ea xr.2.length ecc, .bool ds]) (by simp [results, Tryz.results15, go_sem, y0, y1]) rfl ?_
    refine ⟨.slice ka ks.length kcc, .slice va xr.1.length vcc, .slice ea xr.2.length ecc, by rw [show dL ss ts ⟨o, s, t, v⟩ ks vs (lf : Int) sg arg = (dn : Int) from by simp [dL, A1.out, DN.out, PK.out], show dB ss ts ⟨o, s, t, v⟩ ks vs (lf : Int) sg arg = ds from by simp [dB, A1.out, DS.out, PK.out]], ?_, out_bel B3.out (by omega)⟩
    simp only [dK, dV, dE, A1.out, if_true, Int.toNat_natCast]
    rw [← PK.out, ← XR.out]
    exact (O3.out.under SZ.out).set2 R3.out (by decide) (by decide) 0 1 _ _
end Go.Proofs.YtiimkhepplkocaaGreat
