import Derived.Test.YtiimkhepplkocaaGreatZ28
import Derived.Test.YtiimkhepplkocaaGreatZg
namespace Go.Proofs.YtiimkhepplkocaaGreat
open Go.RowKit Go.Sort
set_option linter.unusedVariables false
attribute [local go_sem ↓] Go.wp_at_zero Go.wp_at_succ
set_option maxHeartbeats 800000 in
theorem l3Leaf_any (so po : Option Addr) (n sc tn tc : Nat) (ss : List StD) (l : Int) (w : World) (hn : n ≤ 9223372036854775807) (hs : StatesOf w so n ss) :
  Calls Tryz.prog 54 #[.agg #[.slice so n sc, .slice po tn tc], .int .i64 l] w fun e w' => e = .returned (.bool (leafB ss l)) ∧ Below w.heap.size w w' := by
 have HL := hid hs.1
 have B := below1 w (.cells #[.slice so n sc, .slice po tn tc] 36)
 have C1 := hid (l1Between_any l 0 ((n : Int) - 1))
 have BB := hid B
 by_cases h : 0 ≤ l ∧ l ≤ (n : Int) - 1
 ·obtain ⟨s, rfl⟩ : ∃ s : Nat, l = s := ⟨l.toNat, by omega⟩
  have C2 := hid (l2HasChild_any so po n sc tn tc ss s _ hn (hs.below B))
  rw [show betB (s : Int) 0 ((n : Int) - 1) = true from decide_eq_true h] at C1
  have E : Hid (leafB ss (s : Int) = !(decide (¬ kids ss ss.length s = []))) := hid (by
   unfold leafB
   rw [HL.out, show betB (s : Int) 0 ((n : Int) - 1) = true from decide_eq_true h]
   by_cases e : kids ss n s = [] <;> simp [e])
  rw [E.out]
  obtain ⟨kb, hkb⟩ : ∃ kb, kb = decide (¬ kids ss ss.length s = []) := ⟨_, rfl⟩
  rw [← hkb] at C2 ⊢
  clear hs hkb h B
  cases kb
  all_goals
   go_enter Tryz.func54, Tryz.ntmps54
   go_wp2_with (first | (go_at_call 55; refine (C1.out _).mono ?_; rintro e wa ⟨rfl, hw⟩; obtain rfl := hw.symm) | (go_at_call 49; refine C2.out.mono ?_; rintro e w1 ⟨rfl, hb1⟩; have B1 := hid (BB.out.trans (hb1.mono BB.out.size)); clear hb1))
   go_ret
   exact ⟨rfl, B1.out⟩
 ·rw [show betB l 0 ((n : Int) - 1) = false from decide_eq_false h] at C1
  have E : Hid (leafB ss l = false) := hid (by unfold leafB; rw [HL.out, show betB l 0 ((n : Int) - 1) = false from decide_eq_false h]; rfl)
  rw [E.out]
  clear hs h B
  go_enter Tryz.func54, Tryz.ntmps54
  go_wp2_with (go_at_call 55; refine (C1.out _).mono ?_; rintro e wa ⟨rfl, hw⟩; obtain rfl := hw.symm)
  go_ret
  exact ⟨rfl, BB.out⟩
set_option maxRecDepth 100000 in
set_option maxHeartbeats 16000000 in
theorem specDispatch_any (so tq : Option Addr) (n sc tn tc : Nat) (ss : List StD) (ts : List TrD) (o s t v : Int) (leaf : Int) (kA vA : Option Addr) (kn kc vn vc : Nat) (ks vs : List Int) (sg arg : Int) (ha : I64 arg) (w : World) (hn : n ≤ 9223372036854775807) (htn : tn ≤ 9223372036854775807) (hkn : kn ≤ 1048576) (hvn : vn ≤ 1048576) (hs : StatesOf w so n ss) (ht : TransOf w tq tn ts) (hk : SliceOf w kA kn ks) (hv : SliceOf w vA vn vs) (hi : ∀ i, I64 (vs.getD i 0)) :
  Calls Tryz.prog 14 #[.agg #[.slice so n sc, .slice tq tn tc], .agg #[.int .i64 o, .int .i64 s, .int .i64 t, .int .i64 v], .int .i64 leaf, .agg #[.slice kA kn kc, .slice vA vn vc], .agg #[.int .i64 sg, .int .i64 arg]] w fun e w' => ∃ kv vv ev, e = .returned (.tuple #[.int .i64 (dL ss ts ⟨o, s, t, v⟩ ks vs leaf sg arg), .agg #[kv, vv], ev, .bool (dB ss ts ⟨o, s, t, v⟩ ks vs leaf sg arg)]) ∧ OutE w.heap.size w' kv vv ev (dK ss ts ⟨o, s, t, v⟩ ks vs leaf sg) (dV ss ts ⟨o, s, t, v⟩ ks vs leaf sg arg) (dE ss ts ⟨o, s, t, v⟩ ks vs leaf sg arg) ∧ Below w.heap.size w w' := by
 have EN := hid (bw_start w #[.slice so n sc, .slice tq tn tc] #[.int .i64 o, .int .i64 s, .int .i64 t, .int .i64 v] #[.slice kA kn kc, .slice vA vn vc] #[.int .i64 sg, .int .i64 arg])
 have EK : Hid (ks.length = kn) := hid hk.1
 have EV : Hid (vs.length = vn) := hid hv.1
 have SL := hid hs.1
 have TL := hid ht.1
 have HS : Hid (∀ w', Below w.heap.size w w' → (StatesOf w' so n ss ∧ TransOf w' tq tn ts) ∧ SliceOf w' kA kn ks ∧ SliceOf w' vA vn vs) := fun w' h => ⟨⟨hs.below h, ht.below h⟩, hk.below h, hv.below h⟩
 have CR := hid (l3Ready_any so tq n sc tn tc ss ts o s t v kA vA kn kc vn vc ks vs _ hn htn hkn hvn (hs.below EN.out.bel) (ht.below EN.out.bel) (hk.below EN.out.bel) (hv.below EN.out.bel))
 have CLf := hid (fun w' (hb : Below w.heap.size w w') => l3Leaf_any so tq n sc tn tc ss leaf w' hn (HS.out w' hb).1.1)
 have HI := hid hi
 have HA := hid ha
 obtain ⟨ok, hok⟩ : ∃ b, b = okBt ss ts ⟨o, s, t, v⟩ ks vs := ⟨_, rfl⟩
 rw [← hok] at CR
 cases ok with
 | false =>
  have A1 : Hid (okDp ss ts ⟨o, s, t, v⟩ ks vs leaf sg = false) := hid (by unfold okDp; rw [← hok]; rfl)
  clear hs ht hk hv hi hok ha
  go_enter Tryz.func14, Tryz.ntmps14
  go_wp2_with (go_at_call 53; refine CR.out.mono ?_; rintro e w1 ⟨rfl, hb⟩; have B1 := hid (EN.out.below hb); obtain ⟨c0, c1⟩ := two_cells B1.out.c; obtain ⟨p0, p1, _, _⟩ := pair_cells B1.out.b; obtain ⟨z0, z1, z2, z3⟩ := pair_cells B1.out.r; have zl := lt_of_block B1.out.r; clear hb)
  obtain ⟨y0, y1⟩ := two_cells' (block_below (out_cells (u1 := .slice none 0 0) (u2 := .slice none 0 0) B1.out.r) (below1 _ OE))
  refine bodyPost_ret (v := .tuple #[.int .i64 (-1), .agg #[.slice none 0 0, .slice none 0 0], .slice (some ⟨w1.heap.size, 0, none⟩) 0 0, .bool false]) (by simp [results, Tryz.results14, go_sem, y0, y1]) rfl ?_
  refine ⟨.slice none 0 0, .slice none 0 0, .slice (some ⟨w1.heap.size, 0, none⟩) 0 0, by rw [show dL ss ts ⟨o, s, t, v⟩ ks vs leaf sg arg = -1 from by simp [dL, A1.out], show dB ss ts ⟨o, s, t, v⟩ ks vs leaf sg arg = false from by simp [dB, A1.out]], ?_, (out_bel B1.out.bel (by omega)).alloc (by have := B1.out.bel.size; simp; omega) _⟩
  simp only [dK, dV, dE, A1.out]
  exact outE_none (by simpa using new1 ((w1.setCell ⟨w.heap.size + 1 + 1 + 1 + 1, 0, none⟩ (.slice none 0 0)).setCell ⟨w.heap.size + 1 + 1 + 1 + 1, 1, none⟩ (.slice none 0 0)) OE) B1.out.bel.size
 | true =>
  have A0 : Hid (okBt ss ts ⟨o, s, t, v⟩ ks vs = true) := hid hok.symm
  have h2 := hok.symm
  unfold okBt fitB at h2
  rw [Bool.and_eq_true, Bool.and_eq_true, decide_eq_true_iff, decide_eq_true_iff] at h2
  have HC := hid (chk_of h2.1)
  have BP := hid (bankP_of h2.2.1)
  have HV : Hid ((vs.length : Int) = v) := hid h2.2.2
  have e1 : kn = vn := by have := BP.out.1; rw [EK.out, EV.out] at this; exact this
  subst e1
  have HV2 : Hid (v = (kn : Int)) := hid (by rw [← HV.out, EV.out])
  have SG : Hid (0 ≤ s ∧ s ≤ 64) := hid HC.out.lim.2.1
  clear hs ht hk hv hi hok h2 ha
  obtain ⟨lb, hlb⟩ : ∃ b, b = leafB ss leaf := ⟨_, rfl⟩
  rw [← hlb] at CLf
  cases lb with
  | false =>
   have A1 : Hid (okDp ss ts ⟨o, s, t, v⟩ ks vs leaf sg = false) := hid (by unfold okDp; rw [← hlb]; simp)
   clear hlb
   go_enter Tryz.func14, Tryz.ntmps14
   go_wp2_with (first
    | (go_at_call 53; refine CR.out.mono ?_; rintro e w1 ⟨rfl, hb⟩; have B1 := hid (EN.out.below hb); obtain ⟨c0, c1⟩ := two_cells B1.out.c; obtain ⟨p0, p1, _, _⟩ := pair_cells B1.out.b; obtain ⟨z0, z1, z2, z3⟩ := pair_cells B1.out.r; have zl := lt_of_block B1.out.r; clear hb)
    | (go_at_call 54; refine (CLf.out _ B1.out.bel).mono ?_; rintro e w2 ⟨rfl, hb⟩; have B2 := hid (B1.out.below hb); obtain ⟨c0, c1⟩ := two_cells B2.out.c; obtain ⟨p0, p1, _, _⟩ := pair_cells B2.out.b; obtain ⟨z0, z1, z2, z3⟩ := pair_cells B2.out.r; obtain ⟨l0, l1, l2, l3⟩ := quad_cells B2.out.l; obtain ⟨v0, v1, _, _⟩ := pair_cells B2.out.e; have zl := lt_of_block B2.out.r; clear hb))
   obtain ⟨y0, y1⟩ := two_cells' (block_below (out_cells (u1 := .slice none 0 0) (u2 := .slice none 0 0) B2.out.r) (below1 _ OE))
   refine bodyPost_ret (v := .tuple #[.int .i64 (-1), .agg #[.slice none 0 0, .slice none 0 0], .slice (some ⟨w2.heap.size, 0, none⟩) 0 0, .bool false]) (by simp [results, Tryz.results14, go_sem, y0, y1]) rfl ?_
   refine ⟨.slice none 0 0, .slice none 0 0, .slice (some ⟨w2.heap.size, 0, none⟩) 0 0, by rw [show dL ss ts ⟨o, s, t, v⟩ ks vs leaf sg arg = -1 from by simp [dL, A1.out], show dB ss ts ⟨o, s, t, v⟩ ks vs leaf sg arg = false from by simp [dB, A1.out]], ?_, (out_bel B2.out.bel (by omega)).alloc (by have := B2.out.bel.size; simp; omega) _⟩
   simp only [dK, dV, dE, A1.out]
   exact outE_none (by simpa using new1 ((w2.setCell ⟨w.heap.size + 1 + 1 + 1 + 1, 0, none⟩ (.slice none 0 0)).setCell ⟨w.heap.size + 1 + 1 + 1 + 1, 1, none⟩ (.slice none 0 0)) OE) B2.out.bel.size
  | true =>
   obtain ⟨sb, hsb⟩ : ∃ b, b = decide (0 ≤ sg ∧ sg < s) := ⟨_, rfl⟩
   have CBt := hid (fun W => l1Between_any sg 0 (s - 1) W)
   rw [show betB sg 0 (s - 1) = decide (0 ≤ sg ∧ sg < s) from by unfold betB; congr 1; exact propext ⟨fun h => ⟨h.1, by omega⟩, fun h => ⟨h.1, by omega⟩⟩, ← hsb] at CBt
   have s1 : 0 ≤ s := SG.out.1
   have s2 : s ≤ 64 := SG.out.2
   cases sb with
   | false =>
    have A1 : Hid (okDp ss ts ⟨o, s, t, v⟩ ks vs leaf sg = false) := hid (by unfold okDp; simp only; rw [← hsb]; simp)
    clear hlb hsb
    go_enter Tryz.func14, Tryz.ntmps14
    go_wp2_with (first
     | (go_at_call 53; refine CR.out.mono ?_; rintro e w1 ⟨rfl, hb⟩; have B1 := hid (EN.out.below hb); obtain ⟨c0, c1⟩ := two_cells B1.out.c; obtain ⟨p0, p1, _, _⟩ := pair_cells B1.out.b; obtain ⟨z0, z1, z2, z3⟩ := pair_cells B1.out.r; have zl := lt_of_block B1.out.r; clear hb)
     | (go_at_call 54; refine (CLf.out _ B1.out.bel).mono ?_; rintro e w2 ⟨rfl, hb⟩; have B2 := hid (B1.out.below hb); obtain ⟨c0, c1⟩ := two_cells B2.out.c; obtain ⟨p0, p1, _, _⟩ := pair_cells B2.out.b; obtain ⟨z0, z1, z2, z3⟩ := pair_cells B2.out.r; obtain ⟨l0, l1, l2, l3⟩ := quad_cells B2.out.l; obtain ⟨v0, v1, _, _⟩ := pair_cells B2.out.e; have zl := lt_of_block B2.out.r; clear hb)
     | (go_at_call 55; refine (CBt.out _).mono ?_; rintro e wa ⟨rfl, hw⟩; obtain rfl := hw.symm))
    obtain ⟨y0, y1⟩ := two_cells' (block_below (out_cells (u1 := .slice none 0 0) (u2 := .slice none 0 0) B2.out.r) (below1 _ OE))
    refine bodyPost_ret (v := .tuple #[.int .i64 (-1), .agg #[.slice none 0 0, .slice none 0 0], .slice (some ⟨w2.heap.size, 0, none⟩) 0 0, .bool false]) (by simp [results, Tryz.results14, go_sem, y0, y1]) rfl ?_
    refine ⟨.slice none 0 0, .slice none 0 0, .slice (some ⟨w2.heap.size, 0, none⟩) 0 0, by rw [show dL ss ts ⟨o, s, t, v⟩ ks vs leaf sg arg = -1 from by simp [dL, A1.out], show dB ss ts ⟨o, s, t, v⟩ ks vs leaf sg arg = false from by simp [dB, A1.out]], ?_, (out_bel B2.out.bel (by omega)).alloc (by have := B2.out.bel.size; simp; omega) _⟩
    simp only [dK, dV, dE, A1.out]
    exact outE_none (by simpa using new1 ((w2.setCell ⟨w.heap.size + 1 + 1 + 1 + 1, 0, none⟩ (.slice none 0 0)).setCell ⟨w.heap.size + 1 + 1 + 1 + 1, 1, none⟩ (.slice none 0 0)) OE) B2.out.bel.size
   | true =>
    have A1 : Hid (okDp ss ts ⟨o, s, t, v⟩ ks vs leaf sg = true) := hid (by unfold okDp; simp only; rw [← hsb, A0.out, ← hlb]; rfl)
    have hlr : 0 ≤ leaf ∧ leaf < ss.length := by
     have h1 := hlb
     by_cases h : 0 ≤ leaf ∧ leaf < ss.length
     ·exact h
     ·rw [leafB_out h] at h1; cases h1
    obtain ⟨lf, hlf⟩ : ∃ x, x = leaf.toNat := ⟨_, rfl⟩
    have hle : leaf = (lf : Int) := by omega
    have hln : lf < n := by have := SL.out; omega
    have LN := hid hln
    subst hle
    obtain ⟨pk, hpk⟩ : ∃ p, p = pickX ss ts ⟨o, s, t, v⟩ vs arg lf sg := ⟨_, rfl⟩
    have PK := hid hpk
    obtain ⟨xr, hxr⟩ : ∃ x, x = dpX ss ts ⟨o, s, t, v⟩ ks vs arg lf pk := ⟨_, rfl⟩
    have XR := hid hxr
    obtain ⟨dn, hdn⟩ : ∃ x, x = dpN ss ts lf pk := ⟨_, rfl⟩
    have DN := hid hdn
    obtain ⟨ds, hds⟩ : ∃ x, x = pk.isSome := ⟨_, rfl⟩
    have DS := hid hds
    have CD := hid (fun w' (hb : Below w.heap.size w w') => l3Dispatch_any so tq n sc tn tc ss ts ⟨o, s, t, v⟩ HC.out TL.out lf LN.out kA vA kn kc vc ks vs sg arg HA.out w' (HS.out w' hb).1.1 (HS.out w' hb).1.2 (HS.out w' hb).2.1 (HS.out w' hb).2.2 HI.out BP.out HV2.out)
    rw [← hpk, ← hxr, ← hdn, ← hds] at CD
    clear hlb hsb hlr hlf hln hpk hxr hdn hds
    go_enter Tryz.func14, Tryz.ntmps14
    go_wp2_with (first
     | (go_at_call 53; refine CR.out.mono ?_; rintro e w1 ⟨rfl, hb⟩; have B1 := hid (EN.out.below hb); obtain ⟨c0, c1⟩ := two_cells B1.out.c; obtain ⟨p0, p1, _, _⟩ := pair_cells B1.out.b; obtain ⟨z0, z1, z2, z3⟩ := pair_cells B1.out.r; have zl := lt_of_block B1.out.r; clear hb)
     | (go_at_call 54; refine (CLf.out _ B1.out.bel).mono ?_; rintro e w2 ⟨rfl, hb⟩; have B2 := hid (B1.out.below hb); obtain ⟨c0, c1⟩ := two_cells B2.out.c; obtain ⟨p0, p1, _, _⟩ := pair_cells B2.out.b; obtain ⟨z0, z1, z2, z3⟩ := pair_cells B2.out.r; obtain ⟨l0, l1, l2, l3⟩ := quad_cells B2.out.l; obtain ⟨v0, v1, _, _⟩ := pair_cells B2.out.e; have zl := lt_of_block B2.out.r; clear hb)
     | (go_at_call 55; refine (CBt.out _).mono ?_; rintro e wa ⟨rfl, hw⟩; obtain rfl := hw.symm)
     | (go_at_call 56; refine (CD.out _ B2.out.bel).mono ?_; rintro e w3 ⟨kv, vv, ee, rfl, ho, hb⟩; obtain ⟨ka, kcc, rfl⟩ := slice_of ho.k; obtain ⟨va, vcc, rfl⟩ := slice_of ho.v; obtain ⟨ea, ecc, rfl⟩ := slice_of ho.e; have B3 := hid (B2.out.below hb); have O3 := hid ho; have SZ := hid B2.out.bel.size; obtain ⟨z0, z1, z2, z3⟩ := pair_cells B3.out.r; have zl := lt_of_block B3.out.r; clear ho hb))
    obtain ⟨y0, y1⟩ := two_cells' (out_cells (u1 := .slice ka ks.length kcc) (u2 := .slice va xr.1.length vcc) B3.out.r)
    refine bodyPost_ret (v := .tuple #[.int .i64 (dn : Int), .agg #[.slice ka ks.length kcc, .slice va xr.1.length vcc], .slice ea xr.2.length ecc, .bool ds]) (by simp [results, Tryz.results14, go_sem, y0, y1]) rfl ?_
    refine ⟨.slice ka ks.length kcc, .slice va xr.1.length vcc, .slice ea xr.2.length ecc, by rw [show dL ss ts ⟨o, s, t, v⟩ ks vs (lf : Int) sg arg = (dn : Int) from by simp [dL, A1.out, DN.out, PK.out], show dB ss ts ⟨o, s, t, v⟩ ks vs (lf : Int) sg arg = ds from by simp [dB, A1.out, DS.out, PK.out]], ?_, out_bel B3.out.bel (by omega)⟩
    simp only [dK, dV, dE, A1.out, if_true, Int.toNat_natCast]
    rw [← PK.out, ← XR.out]
    exact (O3.out.under SZ.out).set2 B3.out.r (by decide) (by decide) 0 1 _ _
theorem disp_len {ss : List StD} {ts : List TrD} {l : LimD} {ks vs : List Int} {leaf sg arg : Int} (hk : ks.length ≤ 1048576) (hv : vs.length ≤ 1048576) : (dK ss ts l ks vs leaf sg).length ≤ 1048576 ∧ (dV ss ts l ks vs leaf sg arg).length ≤ 1048576 ∧ (dE ss ts l ks vs leaf sg arg).length ≤ 1048576 := by
 by_cases ho : okDp ss ts l ks vs leaf sg = true
 ·have h0 := ho
  unfold okDp at h0
  rw [Bool.and_eq_true, Bool.and_eq_true] at h0
  have hc : (checkOf ss ts l).1 = 0 := by have := h0.1; unfold okBt at this; simp at this; exact this.1
  have hC := chk_of hc
  have hlr : 0 ≤ leaf ∧ leaf < ss.length := by
   by_cases h : 0 ≤ leaf ∧ leaf < ss.length
   ·exact h
   ·have := h0.2.1; rw [leafB_out h] at this; cases this
  unfold dK dV dE
  rw [if_pos ho, if_pos ho, if_pos ho]
  cases hp : pickX ss ts l vs arg leaf.toNat sg with
  | none => simp only [dpX]; simp; omega
  | some q =>
   have hm : q ∈ cands ts (up ss leaf.toNat) sg := List.mem_of_find?_eq_some hp
   have h1 := run_len hC (way_of hC (show leaf.toNat < ss.length by omega) hm)
   have h2 := execS_len l.v ks arg (runX ss leaf.toNat (ts.getD q tr0)).flatten vs
   simp only [dpX]
   omega
 ·unfold dK dV dE
  rw [if_neg ho, if_neg ho, if_neg ho]
  simp
end Go.Proofs.YtiimkhepplkocaaGreat
