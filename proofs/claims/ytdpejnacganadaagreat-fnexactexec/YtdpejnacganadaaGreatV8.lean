import Derived.Test.YtdpejnacganadaaGreatV7
namespace Go.Proofs.YtdpejnacganadaaGreat
open Go.RowKit Go.Sort
set_option linter.unusedVariables false
attribute [local go_sem ↓] Go.wp_at_zero Go.wp_at_succ

theorem stmOk_cases {l : LimD} {s : StmD} (h : (nodeOf l s).isSome = true) : (s.kind = 1 ∧ 0 ≤ s.a ∧ s.a < l.v ∧ ∃ t, liftT s.code l.v = some t) ∨ (s.kind ≠ 1 ∧ hasB s.kind = true ∧ ∃ t, liftT s.code l.v = some t) ∨ (s.kind ≠ 1 ∧ hasB s.kind = false ∧ s.code.length = 0) := by
  by_cases h1 : s.kind = 1
  · refine .inl ⟨h1, ?_⟩
    unfold nodeOf at h
    split at h
    · cases h
    · rename_i hf
      simp [fieldsB, fieldA, h1] at hf
      rw [if_neg (by omega), if_neg (by omega), if_neg (by omega)] at h
      cases ht : liftT s.code l.v with
      | none => rw [ht] at h; cases h
      | some t => exact ⟨by omega, by omega, t, rfl⟩
  · by_cases h2 : hasB s.kind = true
    · refine .inr (.inl ⟨h1, h2, ?_⟩)
      simp [hasB] at h2
      unfold nodeOf at h
      split at h
      · cases h
      · rw [if_neg h2.1, if_neg h2.2.1, if_neg h2.2.2] at h
        cases ht : liftT s.code l.v with
        | none => rw [ht] at h; cases h
        | some t => exact ⟨t, rfl⟩
    · refine .inr (.inr ⟨h1, by simpa using h2, ?_⟩)
      unfold nodeOf at h
      split at h
      · cases h
      · rename_i hf
        simp [fieldsB, h2] at hf
        simpa using hf.2.2.2.2

theorem stms_tail {w : World} {b off n : Nat} {s : StmD} {r : List StmD} (h : StmsOf w (some ⟨b, off, none⟩) (n + 1) (s :: r)) : StmsOf w (some ⟨b, off + 4, none⟩) n r := by
  obtain ⟨hl, hc⟩ := h
  refine ⟨by simpa using hl, fun hn => ?_⟩
  obtain ⟨b', off', e, hb, hcell⟩ := hc (by omega)
  simp only [Option.some.injEq, Addr.mk.injEq] at e
  obtain ⟨rfl, rfl, _⟩ := e
  refine ⟨b, off + 4, rfl, hb, fun i hi => ?_⟩
  have := hcell (i + 1) (by omega)
  rw [show off + (i + 1) * 4 = off + 4 + i * 4 by omega] at this
  simpa using this
theorem I64_set {vs : List Int} {i : Nat} {x : Int} (h : ∀ j, I64 (vs.getD j 0)) (hx : I64 x) : ∀ j, I64 ((vs.set i x).getD j 0) := by
  intro j
  have h0 : I64 0 := by simp [I64]
  rw [List.getD_eq_getElem?_getD, List.getElem?_set]
  split
  · split
    · simpa using hx
    · simpa using h0
  · rw [← List.getD_eq_getElem?_getD]; exact h j

set_option maxRecDepth 100000 in
set_option maxHeartbeats 2000000 in
theorem l1Exec_any (l : LimD) (kb ko kn kc : Nat) (ks : List Int) (arg : Int) (ha : I64 arg) (hkn : kn ≤ 32) (hl : l.v = kn) (hks : ks.length = kn) (hkk : ∀ i, i < ks.length → 1 ≤ ks.getD i 0 ∧ ks.getD i 0 ≤ 7) : ∀ (ss : List StmD) (ad : Addr) (n c vb vo vc : Nat) (vs : List Int) (w : World), n ≤ 1000000 → n ≤ c → (∀ s ∈ ss, (nodeOf l s).isSome = true) → (∀ i, I64 (vs.getD i 0)) →
    StmsOf w (some ad) n ss → SliceOf w (some ⟨kb, ko, none⟩) kn ks → SliceOf w (some ⟨vb, vo, none⟩) kn vs →
    Calls Tryz.prog 22 #[.slice (some ad) n c, .slice (some ⟨kb, ko, none⟩) kn kc, .slice (some ⟨vb, vo, none⟩) kn vc, .int .i64 arg] w fun e w' => ∃ lv ev, e = .returned (.tuple #[lv, ev]) ∧ Own w' w.heap.size lv (execS l.v ks arg vs ss).1 ∧ w'.ownsRow w.heap.size 72 4 ev (execS l.v ks arg vs ss).2.length (effCells (execS l.v ks arg vs ss).2) ∧ ev ≠ .slice none 0 0 ∧ Below w.heap.size w w' := by
  intro ss
  induction ss with
  | nil =>
    intro ad n c vb vo vc vs w hn hnc hok hi hs hk hv
    obtain rfl : n = 0 := hs.1.symm
    exact l1Exec_nil _ _ _ _ _ _ _ _ _ vs arg w (by omega) hv
  | cons s r ih =>
    intro ad n c vb vo vc vs w hn hnc hok hi hs hk hv
    obtain ⟨m, rfl⟩ : ∃ m, n = m + 1 := ⟨r.length, by rw [← hs.1]; rfl⟩
    obtain ⟨b, off, e, hbl, hc⟩ := hs.2 (by omega)
    simp only [Option.some.injEq] at e
    subst e
    have h0 := hc 0 (by omega)
    simp only [List.getD_cons_zero, Nat.zero_mul, Nat.add_zero] at h0
    obtain ⟨x1, x2, x3, co, cn, cc, x4, hcn, hit⟩ := h0
    have ht := stms_tail hs
    have hvl : vs.length = kn := hv.1
    obtain ⟨sk, sa, sb, code⟩ := s
    simp only at x1 x2 x3 x4 hit
    have hcl : code.length = cn := hit.1
    have len2 := execS_len l.v ks arg r
    have hrl : r.length = m := by have := hs.1; simpa using this
    have rest : ∀ (ad : Addr) (c' : Nat), (c = 1 ∧ ad = ⟨b, off, none⟩ ∧ c' = 0) ∨ (¬ c = 1 ∧ ad = ⟨b, off + 4, none⟩ ∧ c' = c - 1) → ∀ (vs' : List Int), (∀ i, I64 (vs'.getD i 0)) → ∀ (g cap : Nat) (w' : World), Below w.heap.size w w' → Own w' w.heap.size (.slice (some ⟨g, 0, none⟩) kn cap) vs' → vs'.length = kn →
        Calls Tryz.prog 22 #[.slice (some ad) m c', .slice (some ⟨kb, ko, none⟩) kn kc, .slice (some ⟨g, 0, none⟩) kn cap, .int .i64 arg] w' fun e w'' => ∃ lv ev, e = .returned (.tuple #[lv, ev]) ∧ Own w'' w'.heap.size lv (execS l.v ks arg vs' r).1 ∧ w''.ownsRow w'.heap.size 72 4 ev (execS l.v ks arg vs' r).2.length (effCells (execS l.v ks arg vs' r).2) ∧ ev ≠ .slice none 0 0 ∧ Below w'.heap.size w' w'' := by
      intro ad c' had vs' hi' g cap w' hb ho hl'
      refine ih ad m c' g 0 cap vs' w' (by omega) (by omega) (fun s hs => hok s (List.mem_cons_of_mem _ hs)) hi' ?_ (hk.below hb) (by have := ho.slice; exact this)
      rcases had with ⟨h1, rfl, _⟩ | ⟨_, rfl, _⟩
      · exact ⟨hrl, fun h => by omega⟩
      · exact ht.below hb
    have pick : ∃ (ad : Addr) (c' : Nat), (c = 1 ∧ ad = ⟨b, off, none⟩ ∧ c' = 0) ∨ (¬ c = 1 ∧ ad = ⟨b, off + 4, none⟩ ∧ c' = c - 1) := by
      by_cases h1 : c = 1
      · exact ⟨_, _, .inl ⟨h1, rfl, rfl⟩⟩
      · exact ⟨_, _, .inr ⟨h1, rfl, rfl⟩⟩
    obtain ⟨ad', c', had⟩ := pick
    have R := rest ad' c' had
    rcases stmOk_cases (hok _ (List.mem_cons_self ..)) with ⟨hk1, ha0, ha1, t, hlt⟩ | ⟨hk1, hhb, t, hlt⟩ | ⟨hk1, hhb, hc0⟩
    · simp only at hk1 ha0 ha1 hlt
      subst hk1
      obtain ⟨i, rfl⟩ : ∃ i : Nat, sa = i := ⟨sa.toNat, by omega⟩
      have hva := value_top (c := cc) (vc := vc) hit hv hi ha (t := t) (by rw [← hl]; exact hlt)
      have hst : stepS l.v ks arg vs ⟨1, i, sb, code⟩ = (vs.set i (conv (ks.getD i 0) (evalT vs arg t)), []) := by simp [stepS, codeV, hlt]
      have hI := I64_set (i := i) hi (conv_I64 (k := ks.getD i 0) hva.1)
      simp only [execS, hst, List.nil_append]
      refine l1Exec_set b off m c kb ko kn kc vb vo kn vc ks vs arg i sb co cn cc (evalT vs arg t) w (by omega) (by omega) hkn hkn hk hv hbl x1 x2 x3 x4 (by rw [← hcl]; have := (liftT_some hlt).2.1; omega) hva.2 hva.1 (by omega) (by omega) (hkk i (by omega)).1 (hkk i (by omega)).2 _ _ (by have := (len2 (vs.set i (conv (ks.getD i 0) (evalT vs arg t)))).2; omega) ad' c' had ?_
      intro g cap w' hb ho
      exact R _ hI g cap w' hb ho (by rw [List.length_set]; exact hvl)
    · simp only at hk1 hhb hlt
      have hva := value_top (c := cc) (vc := vc) hit hv hi ha (t := t) (by rw [← hl]; exact hlt)
      have hst : stepS l.v ks arg vs ⟨sk, sa, sb, code⟩ = (vs, [⟨sk, sa, sb, evalT vs arg t⟩]) := by simp [stepS, codeV, hlt, hk1, hhb]
      simp only [execS, hst, List.singleton_append]
      refine l1Exec_eff b off m c kb ko kn kc vb vo kn vc ks vs arg sk sa sb co cn cc (evalT vs arg t) w (by omega) (by omega) hkn hkn hk hv hbl x1 x2 x3 x4 (by rw [← hcl]; have := (liftT_some hlt).2.1; omega) hva.2 hva.1 hk1 hhb _ _ (by have := (len2 vs).2; omega) ad' c' had ?_
      intro g cap w' hb ho
      exact R _ hi g cap w' hb ho hvl
    · simp only at hk1 hhb hc0
      have hst : stepS l.v ks arg vs ⟨sk, sa, sb, code⟩ = (vs, [⟨sk, sa, sb, 0⟩]) := by simp [stepS, hk1, hhb]
      simp only [execS, hst, List.singleton_append]
      refine l1Exec_plain b off m c kb ko kn kc vb vo kn vc ks vs arg sk sa sb co cn cc 0 w (by omega) (by omega) hkn hkn hk hv hbl x1 x2 x3 x4 (by omega) rfl hk1 hhb _ _ (by have := (len2 vs).2; omega) ad' c' had ?_
      intro g cap w' hb ho
      exact R _ hi g cap w' hb ho hvl

theorem nodes_of_stmsB {l : LimD} {ss : List StmD} (h : stmsB l ss = true) : ss.length ≤ 50 ∧ ∀ s ∈ ss, (nodeOf l s).isSome = true := by
  unfold stmsB at h
  obtain ⟨_, h2, h3⟩ := of_decide_eq_true h
  refine ⟨h2, fun s hs => ?_⟩
  obtain ⟨i, hi, rfl⟩ := List.getElem_of_mem hs
  have := h3 i hi
  rw [nodeOf_stmB]
  simpa [List.getD_eq_getElem?_getD, hi] using this

set_option maxRecDepth 100000 in
set_option maxHeartbeats 8000000 in
theorem specExec_any (ad : Addr) (n c : Nat) (ss : List StmD) (kb ko vb vo kn kc vn vc : Nat) (ks vs : List Int) (arg : Int) (w : World) (hn : n ≤ 1048576) (hnc : n ≤ c) (hkn : kn ≤ 1048576) (hvn : vn ≤ 1048576)
    (hs : StmsOf w (some ad) n ss) (hk : SliceOf w (some ⟨kb, ko, none⟩) kn ks) (hv : SliceOf w (some ⟨vb, vo, none⟩) vn vs) (hi : ∀ i, I64 (vs.getD i 0)) (ha : I64 arg) :
    Calls Tryz.prog 6 #[.slice (some ad) n c, .agg #[.slice (some ⟨kb, ko, none⟩) kn kc, .slice (some ⟨vb, vo, none⟩) vn vc], .int .i64 arg] w fun e w' => ∃ kv vv ev, e = .returned (.tuple #[.agg #[kv, vv], ev]) ∧ OutE w.heap.size w' kv vv ev (ansK ks vs ss) (ansV ks vs ss arg) (ansE ks vs ss arg) ∧ Below w.heap.size w w' := by
  obtain ⟨i0, hi0, hz0, hz1, hz2⟩ := info_parts Tryz.infoInt0
  have EV : Hid (vs.length = vn) := hv.1
  have EK : Hid (ks.length = kn) := hk.1
  have HS : Hid (∀ w', Below w.heap.size w w' → StmsOf w' (some ad) n ss ∧ SliceOf w' (some ⟨kb, ko, none⟩) kn ks ∧ SliceOf w' (some ⟨vb, vo, none⟩) vn vs) := fun w' h => ⟨hs.below h, hk.below h, hv.below h⟩
  obtain ⟨bb, hbb⟩ : ∃ b, b = bankB ks vs := ⟨_, rfl⟩
  obtain ⟨sb, hsb⟩ : ∃ b, b = stmsB ⟨64, 64, 200, vn⟩ ss := ⟨_, rfl⟩
  have CB : Hid (∀ w', Below w.heap.size w w' → Calls Tryz.prog 20 #[.agg #[.slice (some ⟨kb, ko, none⟩) kn kc, .slice (some ⟨vb, vo, none⟩) vn vc]] w' fun e w'' => e = .returned (.bool bb) ∧ Below w'.heap.size w' w'') := fun w' h => by rw [hbb]; exact specBankOK_any _ _ kn vn kc vc ks vs w' (by omega) (by omega) (hk.below h) (hv.below h)
  have CS : Hid (∀ w', Below w.heap.size w w' → Calls Tryz.prog 21 #[.slice (some ad) n c, .agg #[.int .i64 64, .int .i64 64, .int .i64 200, .int .i64 vn]] w' fun e w'' => e = .returned (.bool sb) ∧ Below w'.heap.size w' w'') := fun w' h => by rw [hsb]; exact specStmsOK_any (some ad) n c ss 64 64 200 vn w' (by omega) (hs.below h)
  have OKE : Hid (okE ks vs ss = (bb && sb)) := hid (by simp [okE, hbb, hsb, EV.out])
  obtain ⟨W, hW⟩ : ∃ W, W = ((w.alloc (.cells #[.slice (some ⟨kb, ko, none⟩) kn kc, .slice (some ⟨vb, vo, none⟩) vn vc] 28)).alloc (.cells #[.slice none 0 0, .slice none 0 0] 28)).alloc (.cells #[.int .i64 64, .int .i64 64, .int .i64 200, .int .i64 vn] 48) := ⟨_, rfl⟩
  have sW : W.heap.size = w.heap.size + 3 := by rw [hW]; simp
  have bW : Below w.heap.size w W := by rw [hW]; exact (below2 _ _ _).alloc (by simp; omega) _
  have q0 : W.heap[w.heap.size]? = some (.cells #[.slice (some ⟨kb, ko, none⟩) kn kc, .slice (some ⟨vb, vo, none⟩) vn vc] 28 (0, 0)) := by rw [hW]; exact block_below (block_below (heap_alloc_new w _) (below1 _ _)) (below1 _ _)
  have q1 : W.heap[w.heap.size + 1]? = some (.cells #[.slice none 0 0, .slice none 0 0] 28 (0, 0)) := by
    rw [hW]; exact block_below (by simpa using heap_alloc_new (w.alloc (.cells #[.slice (some ⟨kb, ko, none⟩) kn kc, .slice (some ⟨vb, vo, none⟩) vn vc] 28)) (.cells #[.slice none 0 0, .slice none 0 0] 28)) (below1 _ _)
  have q2 : W.heap[w.heap.size + 1 + 1]? = some (.cells #[.int .i64 64, .int .i64 64, .int .i64 200, .int .i64 vn] 48 (0, 0)) := by
    rw [hW]; simpa using heap_alloc_new ((w.alloc (.cells #[.slice (some ⟨kb, ko, none⟩) kn kc, .slice (some ⟨vb, vo, none⟩) vn vc] 28)).alloc (.cells #[.slice none 0 0, .slice none 0 0] 28)) (.cells #[.int .i64 64, .int .i64 64, .int .i64 200, .int .i64 vn] 48)
  have Q0 := hid q0
  have Q1 := hid q1
  have Q2 := hid q2
  have HW := hid hW
  have BW := hid bW
  have CW := hid (CB.out _ bW)
  rw [hW] at CW
  clear q0 q1 q2 hW bW hs hk hv
  cases bb with
  | false =>
    have A1 : Hid (okE ks vs ss = false) := hid (by rw [OKE.out]; rfl)
    clear hbb hsb
    go_enter Tryz.func6, Tryz.ntmps6
    go_wp2_with (go_at_call 20; refine CW.out.mono ?_; rintro e w1 ⟨rfl, hb⟩; rw [← HW.out] at hb; have HB1 := hid (BW.out.trans (hb.mono (by omega))); have Z2 := hid (block_below Q1.out hb); obtain ⟨z0, z1, z2, z3⟩ := pair_cells Z2.out; have zl := lt_of_block Z2.out; clear hb)
    obtain ⟨y0, y1⟩ := two_cells' (block_below (out_cells (u1 := .slice none 0 0) (u2 := .slice none 0 0) Z2.out) (below1 _ OE))
    refine bodyPost_ret (v := .tuple #[.agg #[.slice none 0 0, .slice none 0 0], .slice (some ⟨w1.heap.size, 0, none⟩) 0 0]) (by simp [results, Tryz.results6, go_sem, y0, y1]) rfl ?_
    refine ⟨_, _, _, rfl, ?_, (out_bel HB1.out (by omega)).alloc (by have := HB1.out.size; simp; omega) _⟩
    simp only [ansK, ansV, ansE, A1.out]
    exact outE_none (by simpa using new1 ((w1.setCell ⟨w.heap.size + 1, 0, none⟩ (.slice none 0 0)).setCell ⟨w.heap.size + 1, 1, none⟩ (.slice none 0 0)) OE) HB1.out.size
  | true =>
    cases sb with
    | false =>
      have A1 : Hid (okE ks vs ss = false) := hid (by rw [OKE.out]; rfl)
      clear hbb hsb
      go_enter Tryz.func6, Tryz.ntmps6
      go_wp2_with (first
        | (go_at_call 20; refine CW.out.mono ?_; rintro e w1 ⟨rfl, hb⟩; rw [← HW.out] at hb; have HB1 := hid (BW.out.trans (hb.mono (by omega))); have Z1 := hid (block_below Q1.out hb); obtain ⟨l0, l1, l2, l3⟩ := quad_cells (block_below Q2.out hb); clear hb)
        | (go_at_call 21; refine (CS.out _ HB1.out).mono ?_; rintro e w2 ⟨rfl, hb⟩; have HB2 := hid (HB1.out.trans (hb.mono HB1.out.size)); have Z2 := hid (block_below Z1.out hb); obtain ⟨z0, z1, z2, z3⟩ := pair_cells Z2.out; have zl := lt_of_block Z2.out; clear hb))
      obtain ⟨y0, y1⟩ := two_cells' (block_below (out_cells (u1 := .slice none 0 0) (u2 := .slice none 0 0) Z2.out) (below1 _ OE))
      refine bodyPost_ret (v := .tuple #[.agg #[.slice none 0 0, .slice none 0 0], .slice (some ⟨w2.heap.size, 0, none⟩) 0 0]) (by simp [results, Tryz.results6, go_sem, y0, y1]) rfl ?_
      refine ⟨_, _, _, rfl, ?_, (out_bel HB2.out (by omega)).alloc (by have := HB2.out.size; simp; omega) _⟩
      simp only [ansK, ansV, ansE, A1.out]
      exact outE_none (by simpa using new1 ((w2.setCell ⟨w.heap.size + 1, 0, none⟩ (.slice none 0 0)).setCell ⟨w.heap.size + 1, 1, none⟩ (.slice none 0 0)) OE) HB2.out.size
    | true =>
      have A1 : Hid (okE ks vs ss = true) := hid (by rw [OKE.out]; rfl)
      have BP := hid (bankP_of hbb.symm)
      have NS := hid (nodes_of_stmsB hsb.symm)
      have e1 : kn = vn := by have := BP.out.1; rw [EK.out, EV.out] at this; exact this
      subst e1
      have hn50 : n ≤ 50 := by have := (HS.out w (Below.refl _ _)).1.1; have := NS.out.1; omega
      have hk32 : kn ≤ 32 := by have := BP.out.2.1; rw [EV.out] at this; exact this
      have CE : Hid (∀ w', Below w.heap.size w w' → Calls Tryz.prog 22 #[.slice (some ad) n c, .slice (some ⟨kb, ko, none⟩) kn kc, .slice (some ⟨vb, vo, none⟩) kn vc, .int .i64 arg] w' fun e w'' => ∃ lv ev, e = .returned (.tuple #[lv, ev]) ∧ Own w'' w'.heap.size lv (execS kn ks arg vs ss).1 ∧ w''.ownsRow w'.heap.size 72 4 ev (execS kn ks arg vs ss).2.length (effCells (execS kn ks arg vs ss).2) ∧ ev ≠ .slice none 0 0 ∧ Below w'.heap.size w' w'') :=
        fun w' hb => l1Exec_any ⟨64, 64, 200, kn⟩ kb ko kn kc ks arg ha hk32 rfl EK.out BP.out.2.2 ss ad n c vb vo vc vs w' (by omega) hnc NS.out.2 hi (HS.out _ hb).1 (HS.out _ hb).2.1 (HS.out _ hb).2.2
      clear hbb hsb
      go_enter Tryz.func6, Tryz.ntmps6
      go_wp2_with (first
        | (go_at_call 20; refine CW.out.mono ?_; rintro e w1 ⟨rfl, hb⟩; rw [← HW.out] at hb; have HB1 := hid (BW.out.trans (hb.mono (by omega))); have Z0 := hid (block_below Q0.out hb); have Z1 := hid (block_below Q1.out hb); obtain ⟨l0, l1, l2, l3⟩ := quad_cells (block_below Q2.out hb); clear hb)
        | (go_at_call 21; refine (CS.out _ HB1.out).mono ?_; rintro e w2 ⟨rfl, hb⟩; have HB2 := hid (HB1.out.trans (hb.mono HB1.out.size)); have Y0 := hid (block_below Z0.out hb); have Y1 := hid (block_below Z1.out hb); obtain ⟨z0, z1, z2, z3⟩ := pair_cells Y0.out; clear hb)
        | (go_at_call 22; refine (CE.out _ HB2.out).mono ?_; rintro e w3 ⟨lv, ev, rfl, ho, he, hne, hb⟩; have HB3 := hid (HB2.out.trans (hb.mono HB2.out.size)); have X0 := hid (block_below Y0.out hb); have X1 := hid (block_below Y1.out hb); obtain ⟨p0, p1, p2, p3⟩ := pair_cells X0.out; have xl := lt_of_block X0.out; have xn : ¬ (w.heap.size = w3.heap.size) := Nat.ne_of_lt xl; have O3 := hid ho; have E3 := hid he; obtain ⟨gl, pl, hlv, hgl, _⟩ := ho.form; subst hlv; obtain ⟨ge, pe, hev, _, _⟩ := own_form he hne; subst hev; clear ho he hne hb)
        | (at_builtin; refine wpList_append_own _ rfl (.tmp 36) (.tmp 38) 23 rfl w3.heap.size 3 i0 (.int .i64 0) 1 8 Tryz.underlying23 hi0 hz0 hz1 hz2 rfl (by decide) _ 0 [] rfl (World.ownsRow_lit w3 #[] 0 (Nat.le_refl _) (by decide) rfl) ⟨kb, ko, none⟩ kn kc (ks.map (Value.int .i64)) rfl (by simp [EK.out]) (news_of (HS.out w (Below.refl _ _)).2.1 (HB3.out.alloc HB3.out.size _)) (ints_one1 ks) (by unfold maxLen; omega) (by omega) (by simp) ?_))
      intro v' w4 hown' hgrow hnil
      have C4 := hid ((below1 w3 (.cells #[] 3)).grown hgrow (by simp) (fun k hk => by simp [Value.ownBlock] at hk; omega))
      have O4 := hid (show Own w4 w3.heap.size v' ks from ⟨by rw [EK.out]; simpa using hown', by simpa using hnil⟩)
      obtain ⟨g4, p4, hv4, hg4, hl4⟩ := O4.out.form
      subst hv4
      have B4 := hid (HB3.out.trans (C4.out.mono HB3.out.size))
      have U1 := hid (block_below X1.out C4.out)
      obtain ⟨u0, u1, u2, u3⟩ := pair_cells U1.out
      have gl3 : gl < w3.heap.size := by obtain ⟨cur, h, _⟩ := own_block O3.out.1; exact lt_of_block h
      have h5 : OutE w.heap.size w4 (.slice (some ⟨g4, 0, none⟩) ks.length p4) (.slice (some ⟨gl, 0, none⟩) (execS kn ks arg vs ss).1.length pl) (.slice (some ⟨ge, 0, none⟩) (execS kn ks arg vs ss).2.length pe) ks (execS kn ks arg vs ss).1 (execS kn ks arg vs ss).2 :=
        ⟨ownsRow_base O4.out.1 HB3.out.size, ownsRow_below (ownsRow_base O3.out.1 HB2.out.size) C4.out, ownsRow_below (ownsRow_base E3.out HB2.out.size) C4.out, fun b e => by simp [Value.ownBlock] at e ⊢; omega⟩
      have H5 := hid h5
      clear hown' hgrow hnil h5 z0 z1 z2 z3 p0 p1 p2 p3 l0 l1 l2 l3
      go_wp2
      obtain ⟨y0, y1⟩ := two_cells' (out_cells (u1 := .slice (some ⟨g4, 0, none⟩) ks.length p4) (u2 := .slice (some ⟨gl, 0, none⟩) (execS kn ks arg vs ss).1.length pl) U1.out)
      refine bodyPost_ret (v := .tuple #[.agg #[.slice (some ⟨g4, 0, none⟩) ks.length p4, .slice (some ⟨gl, 0, none⟩) (execS kn ks arg vs ss).1.length pl], .slice (some ⟨ge, 0, none⟩) (execS kn ks arg vs ss).2.length pe]) (by simp [results, Tryz.results6, go_sem, y0, y1]) rfl ?_
      refine ⟨_, _, _, rfl, ?_, out_bel B4.out (by omega)⟩
      simp only [ansK, ansV, ansE, A1.out, if_true, EV.out]
      exact H5.out.set2 U1.out (by decide) (by decide) 0 1 _ _
end Go.Proofs.YtdpejnacganadaaGreat
