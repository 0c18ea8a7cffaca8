import Derived.Test.YtiimkhepplkocaaGreatZ15
import Derived.Test.YtiimkhepplkocaaGreatZ16
namespace Go.Proofs.YtiimkhepplkocaaGreat
open Go.RowKit Go.Sort
set_option linter.unusedVariables false
attribute [local go_sem ↓] Go.wp_at_zero Go.wp_at_succ

set_option maxRecDepth 100000 in
set_option maxHeartbeats 8000000 in
theorem specBoot_any (so tq : Option Addr) (n sc tn tc : Nat) (ss : List StD) (ts : List TrD) (o s t v : Int) (kb ko vb vo kn kc vn vc : Nat) (ks vs : List Int) (w : World) (hn : n ≤ 9223372036854775807) (htn : tn ≤ 9223372036854775807) (hkn : kn ≤ 1048576) (hvn : vn ≤ 1048576) (hs : StatesOf w so n ss) (ht : TransOf w tq tn ts) (hk : SliceOf w (some ⟨kb, ko, none⟩) kn ks) (hv : SliceOf w (some ⟨vb, vo, none⟩) vn vs) (hi : ∀ i, I64 (vs.getD i 0)) :
    Calls Tryz.prog 21 #[.agg #[.slice so n sc, .slice tq tn tc], .agg #[.int .i64 o, .int .i64 s, .int .i64 t, .int .i64 v], .agg #[.slice (some ⟨kb, ko, none⟩) kn kc, .slice (some ⟨vb, vo, none⟩) vn vc]] w fun e w' => ∃ kv vv ev, e = .returned (.tuple #[.int .i64 (btL ss ts ⟨o, s, t, v⟩ ks vs), .agg #[kv, vv], ev]) ∧ OutE w.heap.size w' kv vv ev (btK ss ts ⟨o, s, t, v⟩ ks vs) (btV ss ts ⟨o, s, t, v⟩ ks vs) (btE ss ts ⟨o, s, t, v⟩ ks vs) ∧ Below w.heap.size w w' := by
  have EN := hid (bx_start w #[.slice so n sc, .slice tq tn tc] #[.int .i64 o, .int .i64 s, .int .i64 t, .int .i64 v] #[.slice (some ⟨kb, ko, none⟩) kn kc, .slice (some ⟨vb, vo, none⟩) vn vc])
  have EK : Hid (ks.length = kn) := hid hk.1
  have EV : Hid (vs.length = vn) := hid hv.1
  have SL := hid hs.1
  have TL := hid ht.1
  have HS : Hid (∀ w', Below w.heap.size w w' → StatesOf w' so n ss ∧ SliceOf w' (some ⟨kb, ko, none⟩) kn ks ∧ SliceOf w' (some ⟨vb, vo, none⟩) vn vs) := fun w' h => ⟨hs.below h, hk.below h, hv.below h⟩
  have CR := hid (l3Ready_any so tq n sc tn tc ss ts o s t v kb ko vb vo kn kc vn vc ks vs _ hn htn hkn hvn (hs.below EN.out.bel) (ht.below EN.out.bel) (hk.below EN.out.bel) (hv.below EN.out.bel))
  have HI := hid hi
  obtain ⟨ok, hok⟩ : ∃ b, b = okBt ss ts ⟨o, s, t, v⟩ ks vs := ⟨_, rfl⟩
  rw [← hok] at CR
  cases ok with
  | false =>
    have A1 : Hid (okBt ss ts ⟨o, s, t, v⟩ ks vs = false) := hid hok.symm
    clear hs ht hk hv hi hok
    go_enter Tryz.func21, Tryz.ntmps21
    go_wp2_with (go_at_call 53; refine CR.out.mono ?_; rintro e w1 ⟨rfl, hb⟩; have B1 := hid (EN.out.below hb); obtain ⟨z0, z1, z2, z3⟩ := pair_cells B1.out.r; have zl := lt_of_block B1.out.r; clear hb)
    obtain ⟨y0, y1⟩ := two_cells' (block_below (out_cells (u1 := .slice none 0 0) (u2 := .slice none 0 0) B1.out.r) (below1 _ OE))
    refine bodyPost_ret (v := .tuple #[.int .i64 (-1), .agg #[.slice none 0 0, .slice none 0 0], .slice (some ⟨w1.heap.size, 0, none⟩) 0 0]) (by simp [results, Tryz.results21, go_sem, y0, y1]) rfl ?_
    refine ⟨.slice none 0 0, .slice none 0 0, .slice (some ⟨w1.heap.size, 0, none⟩) 0 0, by rw [show btL ss ts ⟨o, s, t, v⟩ ks vs = -1 from by simp [btL, A1.out]], ?_, (out_bel B1.out.bel (by omega)).alloc (by have := B1.out.bel.size; simp; omega) _⟩
    simp only [btK, btV, btE, A1.out]
    exact outE_none (by simpa using new1 ((w1.setCell ⟨w.heap.size + 1 + 1 + 1, 0, none⟩ (.slice none 0 0)).setCell ⟨w.heap.size + 1 + 1 + 1, 1, none⟩ (.slice none 0 0)) OE) B1.out.bel.size
  | true =>
    have A1 : Hid (okBt ss ts ⟨o, s, t, v⟩ ks vs = true) := hid hok.symm
    have h2 := hok.symm
    unfold okBt fitB at h2
    rw [Bool.and_eq_true, Bool.and_eq_true, decide_eq_true_iff, decide_eq_true_iff] at h2
    have HC := hid (chk_of h2.1)
    have BP := hid (bankP_of h2.2.1)
    have HV : Hid ((vs.length : Int) = v) := hid h2.2.2
    have e1 : kn = vn := by have := BP.out.1; rw [EK.out, EV.out] at this; exact this
    subst e1
    have HV2 : Hid (v = (kn : Int)) := hid (by rw [← HV.out, EV.out])
    have CB := hid (fun w' (hb : Below w.heap.size w w') => l3Boot_any so tq n sc tn tc ss ts ⟨o, s, t, v⟩ HC.out TL.out kb ko vb vo kn kc vc ks vs w' (HS.out w' hb).1 (HS.out w' hb).2.1 (HS.out w' hb).2.2 HI.out BP.out HV2.out)
    clear hs ht hk hv hi hok h2
    go_enter Tryz.func21, Tryz.ntmps21
    go_wp2_with (first
      | (go_at_call 53; refine CR.out.mono ?_; rintro e w1 ⟨rfl, hb⟩; have B1 := hid (EN.out.below hb); obtain ⟨c0, c1⟩ := two_cells B1.out.c; obtain ⟨p0, p1, _, _⟩ := pair_cells B1.out.b; clear hb)
      | (go_at_call 71; refine (CB.out _ B1.out.bel).mono ?_; rintro e w3 ⟨kv, vv, ee, rfl, ho, hb⟩; obtain ⟨ka, kcc, rfl⟩ := slice_of ho.k; obtain ⟨va, vcc, rfl⟩ := slice_of ho.v; obtain ⟨ea, ecc, rfl⟩ := slice_of ho.e; have B3 := hid (B1.out.below hb); have O3 := hid ho; have SZ := hid B1.out.bel.size; obtain ⟨z0, z1, z2, z3⟩ := pair_cells B3.out.r; have zl := lt_of_block B3.out.r; clear ho hb))
    obtain ⟨y0, y1⟩ := two_cells' (out_cells (u1 := .slice ka ks.length kcc) (u2 := .slice va (execS v ks 0 vs (bootS ss)).1.length vcc) B3.out.r)
    refine bodyPost_ret (v := .tuple #[.int .i64 (bootTo ss : Nat), .agg #[.slice ka ks.length kcc, .slice va (execS v ks 0 vs (bootS ss)).1.length vcc], .slice ea (execS v ks 0 vs (bootS ss)).2.length ecc]) (by simp [results, Tryz.results21, go_sem, y0, y1]) rfl ?_
    refine ⟨.slice ka ks.length kcc, .slice va (execS v ks 0 vs (bootS ss)).1.length vcc, .slice ea (execS v ks 0 vs (bootS ss)).2.length ecc, by rw [show btL ss ts ⟨o, s, t, v⟩ ks vs = (bootTo ss : Int) from by simp [btL, A1.out]], ?_, out_bel B3.out.bel (by omega)⟩
    simp only [btK, btV, btE, A1.out, if_true, HV.out]
    exact (O3.out.under SZ.out).set2 B3.out.r (by decide) (by decide) 0 1 _ _
end Go.Proofs.YtiimkhepplkocaaGreat
