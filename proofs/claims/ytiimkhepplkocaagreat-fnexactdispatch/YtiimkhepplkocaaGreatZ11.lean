import Derived.Test.YtiimkhepplkocaaGreatZ10
namespace Go.Proofs.YtiimkhepplkocaaGreat
open Go.RowKit Go.Sort
set_option linter.unusedVariables false
attribute [local go_sem ↓] Go.wp_at_zero Go.wp_at_succ

def fitB (ks vs : List Int) (v : Int) : Bool := bankB ks vs && decide ((vs.length : Int) = v)
set_option maxHeartbeats 1600000 in
theorem bankFits_any (kb ko vb vo kn kc vn vc : Nat) (ks vs : List Int) (o s t v : Int) (w : World) (hkn : kn ≤ 1048576) (hvn : vn ≤ 1048576) (hk : SliceOf w (some ⟨kb, ko, none⟩) kn ks) (hv : SliceOf w (some ⟨vb, vo, none⟩) vn vs) :
    Calls Tryz.prog 57 #[.agg #[.slice (some ⟨kb, ko, none⟩) kn kc, .slice (some ⟨vb, vo, none⟩) vn vc], .agg #[.int .i64 o, .int .i64 s, .int .i64 t, .int .i64 v]] w fun e w' => e = .returned (.bool (fitB ks vs v)) ∧ Below w.heap.size w w' := by
  have EV : Hid (vs.length = vn) := hid hv.1
  obtain ⟨W, hW⟩ : ∃ W, W = (w.alloc (.cells #[.slice (some ⟨kb, ko, none⟩) kn kc, .slice (some ⟨vb, vo, none⟩) vn vc] 32)).alloc (.cells #[.int .i64 o, .int .i64 s, .int .i64 t, .int .i64 v] 40) := ⟨_, rfl⟩
  have bW : Below w.heap.size w W := by rw [hW]; exact below2 _ _ _
  have q1 : W.heap[w.heap.size]? = some (.cells #[.slice (some ⟨kb, ko, none⟩) kn kc, .slice (some ⟨vb, vo, none⟩) vn vc] 32 (0, 0)) := by rw [hW]; exact block_below (heap_alloc_new w _) (below1 _ _)
  have q2 : W.heap[w.heap.size + 1]? = some (.cells #[.int .i64 o, .int .i64 s, .int .i64 t, .int .i64 v] 40 (0, 0)) := by
    rw [hW]; simpa using heap_alloc_new (w.alloc (.cells #[.slice (some ⟨kb, ko, none⟩) kn kc, .slice (some ⟨vb, vo, none⟩) vn vc] 32)) (.cells #[.int .i64 o, .int .i64 s, .int .i64 t, .int .i64 v] 40)
  obtain ⟨b, hb⟩ : ∃ b, b = bankB ks vs := ⟨_, rfl⟩
  have C := hid (implBankOK_any _ _ kn vn kc vc ks vs W (by omega) (by omega) (hk.below bW) (hv.below bW))
  rw [← hb] at C
  have Q1 := hid q1
  have Q2 := hid q2
  have BW := hid bW
  have HW := hid hW
  rw [hW] at C
  have EF : Hid (fitB ks vs v = (b && decide ((vn : Int) = v))) := hid (by unfold fitB; rw [← hb, EV.out])
  rw [EF.out]
  clear hk hv q1 q2 bW hW hb
  by_cases hvv : (vn : Int) = v
  · have hd : decide ((vn : Int) = v) = true := by simpa using hvv
    have hd2 : ((vn : Int) == v) = true := by simpa using hvv
    rw [hd]
    have HVV := hid hvv
    clear hd hvv
    cases b
    all_goals
      go_enter Tryz.func57, Tryz.ntmps57
      go_wp2_with (go_at_call 61; refine C.out.mono ?_; rintro e w1 ⟨rfl, hb⟩; rw [← HW.out] at hb; have B1 := hid (BW.out.trans (hb.mono BW.out.size)); obtain ⟨p0, p1, _, _⟩ := pair_cells (block_below Q1.out hb); obtain ⟨l0, l1, l2, l3⟩ := quad_cells (block_below Q2.out hb); clear hb)
      go_ret
      exact ⟨ret_bool (by simp), B1.out⟩
  · have hd : decide ((vn : Int) = v) = false := by simpa using hvv
    have hd2 : ((vn : Int) == v) = false := by simpa using hvv
    rw [hd]
    have HVV := hid hvv
    clear hd
    cases b
    all_goals
      go_enter Tryz.func57, Tryz.ntmps57
      go_wp2_with (go_at_call 61; refine C.out.mono ?_; rintro e w1 ⟨rfl, hb⟩; rw [← HW.out] at hb; have B1 := hid (BW.out.trans (hb.mono BW.out.size)); obtain ⟨p0, p1, _, _⟩ := pair_cells (block_below Q1.out hb); obtain ⟨l0, l1, l2, l3⟩ := quad_cells (block_below Q2.out hb); clear hb)
      go_ret
      exact ⟨ret_bool (by simp), B1.out⟩

/-- What Boot answers. -/
def okBt (ss : List StD) (ts : List TrD) (l : LimD) (ks vs : List Int) : Bool := decide ((checkOf ss ts l).1 = 0) && fitB ks vs l.v
def btL (ss : List StD) (ts : List TrD) (l : LimD) (ks vs : List Int) : Int := if okBt ss ts l ks vs then (bootTo ss : Int) else -1
def btK (ss : List StD) (ts : List TrD) (l : LimD) (ks vs : List Int) : List Int := if okBt ss ts l ks vs then ks else []
def btV (ss : List StD) (ts : List TrD) (l : LimD) (ks vs : List Int) : List Int := if okBt ss ts l ks vs then (execS vs.length ks 0 vs (bootS ss)).1 else []
def btE (ss : List StD) (ts : List TrD) (l : LimD) (ks vs : List Int) : List EffD := if okBt ss ts l ks vs then (execS vs.length ks 0 vs (bootS ss)).2 else []

theorem OutE.under {B B' : Nat} {w : World} {kv vv ev : Value} {ks vs : List Int} {es : List EffD} (h : OutE B w kv vv ev ks vs es) (hB : B' ≤ B) : OutE B' w kv vv ev ks vs es := ⟨ownsRow_base h.k hB, ownsRow_base h.v hB, ownsRow_base h.e hB, h.ne⟩
/-- What Boot keeps: the four boxes. -/
structure Bx (w : World) (cx lx bx : Array Value) (X : World) : Prop where
  bel : Below w.heap.size w X
  c : X.heap[w.heap.size]? = some (.cells cx 36 (0, 0))
  l : X.heap[w.heap.size + 1]? = some (.cells lx 40 (0, 0))
  b : X.heap[w.heap.size + 1 + 1]? = some (.cells bx 32 (0, 0))
  r : X.heap[w.heap.size + 1 + 1 + 1]? = some (.cells #[.slice none 0 0, .slice none 0 0] 32 (0, 0))
theorem Bx.below {w : World} {cx lx bx : Array Value} {X Y : World} (h : Bx w cx lx bx X) (hb : Below X.heap.size X Y) : Bx w cx lx bx Y := ⟨h.bel.trans (hb.mono h.bel.size), block_below h.c hb, block_below h.l hb, block_below h.b hb, block_below h.r hb⟩
theorem bx_start (w : World) (cx lx bx : Array Value) : Bx w cx lx bx ((((w.alloc (.cells cx 36)).alloc (.cells lx 40)).alloc (.cells bx 32)).alloc (.cells #[.slice none 0 0, .slice none 0 0] 32)) := by
  have h2 := heap_alloc_new (w.alloc (.cells cx 36)) (.cells lx 40)
  have h3 := heap_alloc_new ((w.alloc (.cells cx 36)).alloc (.cells lx 40)) (.cells bx 32)
  have h4 := heap_alloc_new (((w.alloc (.cells cx 36)).alloc (.cells lx 40)).alloc (.cells bx 32)) (.cells #[.slice none 0 0, .slice none 0 0] 32)
  simp only [World.size_alloc] at h2 h3 h4
  exact ⟨(below3 _ _ _ _).alloc (by simp; omega) _, block_below (block_below (block_below (heap_alloc_new w _) (below1 _ _)) (below1 _ _)) (below1 _ _), block_below (block_below h2 (below1 _ _)) (below1 _ _), block_below h3 (below1 _ _), h4⟩

set_option maxRecDepth 100000 in
set_option maxHeartbeats 8000000 in
theorem implBoot_any (so tq : Option Addr) (n sc tn tc : Nat) (ss : List StD) (ts : List TrD) (o s t v : Int) (kb ko vb vo kn kc vn vc : Nat) (ks vs : List Int) (w : World) (hn : n ≤ 9223372036854775807) (htn : tn ≤ 9223372036854775807) (hkn : kn ≤ 1048576) (hvn : vn ≤ 1048576) (hs : StatesOf w so n ss) (ht : TransOf w tq tn ts) (hk : SliceOf w (some ⟨kb, ko, none⟩) kn ks) (hv : SliceOf w (some ⟨vb, vo, none⟩) vn vs) :
    Calls Tryz.prog 20 #[.agg #[.slice so n sc, .slice tq tn tc], .agg #[.int .i64 o, .int .i64 s, .int .i64 t, .int .i64 v], .agg #[.slice (some ⟨kb, ko, none⟩) kn kc, .slice (some ⟨vb, vo, none⟩) vn vc]] w fun e w' => ∃ kv vv ev, e = .returned (.tuple #[.int .i64 (btL ss ts ⟨o, s, t, v⟩ ks vs), .agg #[kv, vv], ev]) ∧ OutE w.heap.size w' kv vv ev (btK ss ts ⟨o, s, t, v⟩ ks vs) (btV ss ts ⟨o, s, t, v⟩ ks vs) (btE ss ts ⟨o, s, t, v⟩ ks vs) ∧ Below w.heap.size w w' := by
  have EN := hid (bx_start w #[.slice so n sc, .slice tq tn tc] #[.int .i64 o, .int .i64 s, .int .i64 t, .int .i64 v] #[.slice (some ⟨kb, ko, none⟩) kn kc, .slice (some ⟨vb, vo, none⟩) vn vc])
  have HS : Hid (∀ w', Below w.heap.size w w' → SliceOf w' (some ⟨kb, ko, none⟩) kn ks ∧ SliceOf w' (some ⟨vb, vo, none⟩) vn vs) := fun w' h => ⟨hk.below h, hv.below h⟩
  have BF := hid (fun w' (hb : Below w.heap.size w w') => bankFits_any kb ko vb vo kn kc vn vc ks vs o s t v w' hkn hvn (HS.out w' hb).1 (HS.out w' hb).2)
  by_cases hc : (checkOf ss ts ⟨o, s, t, v⟩).1 = 0
  case neg =>
    have A1 : Hid (okBt ss ts ⟨o, s, t, v⟩ ks vs = false) := hid (by unfold okBt; rw [decide_eq_false hc]; rfl)
    have C := hid (machineOf_no so tq n sc tn tc ss ts o s t v _ hn htn (hs.below EN.out.bel) (ht.below EN.out.bel) hc)
    clear hs ht hk hv hc
    go_enter Tryz.func20, Tryz.ntmps20
    go_wp2_with (go_at_call 43; refine C.out.mono ?_; rintro e w1 ⟨rfl, hb⟩; have B1 := hid (EN.out.below hb); obtain ⟨z0, z1, z2, z3⟩ := pair_cells B1.out.r; have zl := lt_of_block B1.out.r; clear hb)
    obtain ⟨y0, y1⟩ := two_cells' (block_below (out_cells (u1 := .slice none 0 0) (u2 := .slice none 0 0) B1.out.r) (below1 _ OE))
    refine bodyPost_ret (v := .tuple #[.int .i64 (-1), .agg #[.slice none 0 0, .slice none 0 0], .slice (some ⟨w1.heap.size, 0, none⟩) 0 0]) (by simp [results, Tryz.results20, go_sem, y0, y1]) rfl ?_
    refine ⟨.slice none 0 0, .slice none 0 0, .slice (some ⟨w1.heap.size, 0, none⟩) 0 0, by rw [show btL ss ts ⟨o, s, t, v⟩ ks vs = -1 from by simp [btL, A1.out]], ?_, (out_bel B1.out.bel (by omega)).alloc (by have := B1.out.bel.size; simp; omega) _⟩
    simp only [btK, btV, btE, A1.out]
    exact outE_none (by simpa using new1 ((w1.setCell ⟨w.heap.size + 1 + 1 + 1, 0, none⟩ (.slice none 0 0)).setCell ⟨w.heap.size + 1 + 1 + 1, 1, none⟩ (.slice none 0 0)) OE) B1.out.bel.size
  have C := hid (machineOf_ok so tq n sc tn tc ss ts o s t v _ hn htn (hs.below EN.out.bel) (ht.below EN.out.bel) hc)
  have HC := hid (chk_of hc)
  have SL := hid hs.1
  obtain ⟨fb, hfb⟩ : ∃ b, b = fitB ks vs v := ⟨_, rfl⟩
  rw [← hfb] at BF
  cases fb with
  | false =>
    have A1 : Hid (okBt ss ts ⟨o, s, t, v⟩ ks vs = false) := hid (by unfold okBt; rw [← hfb]; simp)
    clear hs ht hk hv hc hfb
    go_enter Tryz.func20, Tryz.ntmps20
    go_wp2_with (first
      | (go_at_call 43; refine C.out.mono ?_; rintro e w1 ⟨x0, N, tg, tcap, B, P, M, E, F, ev, xv, L, lets, act, rfl, hx0, hL2, hb⟩; have B1 := hid (EN.out.below hb); have HL2 := hid hL2; obtain ⟨p0, p1, _, _⟩ := pair_cells B1.out.b; obtain ⟨l0, l1, l2, l3⟩ := quad_cells B1.out.l; clear hb hL2 hx0)
      | (go_at_call 57; refine (BF.out _ B1.out.bel).mono ?_; rintro e w2 ⟨rfl, hb⟩; have B2 := hid (B1.out.below hb); have L2h := hid (HL2.out.below hb); obtain ⟨p0, p1, _, _⟩ := pair_cells B2.out.b; obtain ⟨z0, z1, z2, z3⟩ := pair_cells B2.out.r; have zl := lt_of_block B2.out.r; clear hb))
    obtain ⟨y0, y1⟩ := two_cells' (block_below (out_cells (u1 := .slice none 0 0) (u2 := .slice none 0 0) B2.out.r) (below1 _ OE))
    refine bodyPost_ret (v := .tuple #[.int .i64 (-1), .agg #[.slice none 0 0, .slice none 0 0], .slice (some ⟨w2.heap.size, 0, none⟩) 0 0]) (by simp [results, Tryz.results20, go_sem, y0, y1]) rfl ?_
    refine ⟨.slice none 0 0, .slice none 0 0, .slice (some ⟨w2.heap.size, 0, none⟩) 0 0, by rw [show btL ss ts ⟨o, s, t, v⟩ ks vs = -1 from by simp [btL, A1.out]], ?_, (out_bel B2.out.bel (by omega)).alloc (by have := B2.out.bel.size; simp; omega) _⟩
    simp only [btK, btV, btE, A1.out]
    exact outE_none (by simpa using new1 ((w2.setCell ⟨w.heap.size + 1 + 1 + 1, 0, none⟩ (.slice none 0 0)).setCell ⟨w.heap.size + 1 + 1 + 1, 1, none⟩ (.slice none 0 0)) OE) B2.out.bel.size
  | true =>
    have A1 : Hid (okBt ss ts ⟨o, s, t, v⟩ ks vs = true) := hid (by unfold okBt; rw [← hfb, decide_eq_true hc]; rfl)
    have hf2 : bankB ks vs = true ∧ (vs.length : Int) = v := by
      unfold fitB at hfb
      have h2 := hfb.symm
      rw [Bool.and_eq_true, decide_eq_true_iff] at h2
      exact h2
    have BP := hid (bankP_of hf2.1)
    have HV := hid hf2.2
    clear hs ht hk hv hc hfb hf2
    go_enter Tryz.func20, Tryz.ntmps20
    go_wp2_with (first
      | (go_at_call 43; refine C.out.mono ?_; rintro e w1 ⟨x0, N, tg, tcap, B, P, M, E, F, ev, xv, L, lets, act, rfl, hx0, hL2, hb⟩; have B1 := hid (EN.out.below hb); have HL2 := hid hL2; obtain ⟨p0, p1, _, _⟩ := pair_cells B1.out.b; obtain ⟨l0, l1, l2, l3⟩ := quad_cells B1.out.l; clear hb hL2 hx0)
      | (go_at_call 57; refine (BF.out _ B1.out.bel).mono ?_; rintro e w2 ⟨rfl, hb⟩; have B2 := hid (B1.out.below hb); have L2h := hid (HL2.out.below hb); obtain ⟨p0, p1, _, _⟩ := pair_cells B2.out.b; obtain ⟨z0, z1, z2, z3⟩ := pair_cells B2.out.r; have zl := lt_of_block B2.out.r; clear hb)
      | (go_at_call 70; refine (firstStep_any HC.out SL.out kb ko vb vo kn kc vn vc ks vs _ L2h.out hkn hvn (HS.out _ B2.out.bel).1 (HS.out _ B2.out.bel).2 BP.out HV.out.symm).mono ?_; rintro e w3 ⟨kv, vv, ee, rfl, ho, hb⟩; obtain ⟨ka, kcc, rfl⟩ := slice_of ho.k; obtain ⟨va, vcc, rfl⟩ := slice_of ho.v; obtain ⟨ea, ecc, rfl⟩ := slice_of ho.e; have B3 := hid (B2.out.below hb); have O3 := hid ho; have SZ := hid B2.out.bel.size; obtain ⟨z0, z1, z2, z3⟩ := pair_cells B3.out.r; have zl := lt_of_block B3.out.r; clear ho hb))
    obtain ⟨y0, y1⟩ := two_cells' (out_cells (u1 := .slice ka ks.length kcc) (u2 := .slice va (execS v ks 0 vs (bootS ss)).1.length vcc) B3.out.r)
    refine bodyPost_ret (v := .tuple #[.int .i64 (bootTo ss : Nat), .agg #[.slice ka ks.length kcc, .slice va (execS v ks 0 vs (bootS ss)).1.length vcc], .slice ea (execS v ks 0 vs (bootS ss)).2.length ecc]) (by simp [results, Tryz.results20, go_sem, y0, y1]) rfl ?_
    refine ⟨.slice ka ks.length kcc, .slice va (execS v ks 0 vs (bootS ss)).1.length vcc, .slice ea (execS v ks 0 vs (bootS ss)).2.length ecc, by rw [show btL ss ts ⟨o, s, t, v⟩ ks vs = (bootTo ss : Int) from by simp [btL, A1.out]], ?_, out_bel B3.out.bel (by omega)⟩
    simp only [btK, btV, btE, A1.out, if_true, HV.out]
    exact (O3.out.under SZ.out).set2 B3.out.r (by decide) (by decide) 0 1 _ _
end Go.Proofs.YtiimkhepplkocaaGreat
