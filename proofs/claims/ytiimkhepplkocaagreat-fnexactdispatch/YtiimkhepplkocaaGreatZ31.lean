import Derived.Test.YtiimkhepplkocaaGreatZ18
import Derived.Test.YtiimkhepplkocaaGreatZ29
import Derived.Test.YtiimkhepplkocaaGreatZ26
namespace Go.Proofs.YtiimkhepplkocaaGreat
open Go.RowKit Go.Sort
set_option linter.unusedVariables false
attribute [local go_sem ↓] Go.wp_at_zero Go.wp_at_succ

theorem lw_start4 (w : World) (c l b e : Array Value) : Lw w [(w.heap.size, c, 76), (w.heap.size + 1, l, 77), (w.heap.size + 1 + 1, b, 86), (w.heap.size + 1 + 1 + 1, e, 92)] ((((w.alloc (.cells c 76)).alloc (.cells l 77)).alloc (.cells b 86)).alloc (.cells e 92)) := by
  have h2 := heap_alloc_new (w.alloc (.cells c 76)) (.cells l 77)
  have h3 := heap_alloc_new ((w.alloc (.cells c 76)).alloc (.cells l 77)) (.cells b 86)
  have h4 := heap_alloc_new (((w.alloc (.cells c 76)).alloc (.cells l 77)).alloc (.cells b 86)) (.cells e 92)
  simp only [World.size_alloc] at h2 h3 h4
  refine ⟨(below3 _ _ _ _).alloc (by simp; omega) _, fun p hp => ?_⟩
  simp only [List.mem_cons, List.not_mem_nil, or_false] at hp
  rcases hp with rfl | rfl | rfl | rfl
  · exact block_below (block_below (block_below (heap_alloc_new w _) (below1 _ _)) (below1 _ _)) (below1 _ _)
  · exact block_below (block_below h2 (below1 _ _)) (below1 _ _)
  · exact block_below h3 (below1 _ _)
  · exact h4
abbrev C10 (n m q e : Nat) (c0 c1 l0 l1 l2 l3 b0 b1 e0 e1 : Value) (X : World) : Prop := (X.cell? ⟨n, 0, none⟩ = some c0 ∧ X.cell? ⟨n, 1, none⟩ = some c1) ∧ (X.cell? ⟨m, 0, none⟩ = some l0 ∧ X.cell? ⟨m, 1, none⟩ = some l1 ∧ X.cell? ⟨m, 2, none⟩ = some l2 ∧ X.cell? ⟨m, 3, none⟩ = some l3) ∧ (X.cell? ⟨q, 0, none⟩ = some b0 ∧ X.cell? ⟨q, 1, none⟩ = some b1) ∧ (X.cell? ⟨e, 0, none⟩ = some e0 ∧ X.cell? ⟨e, 1, none⟩ = some e1)
theorem c10 {bs : BoxL} {X : World} (h : Boxes bs X) (i j k r : Nat) {n m q e : Nat} {c0 c1 l0 l1 l2 l3 b0 b1 v0 v1 : Value} {t1 t2 t3 t4 : TypeId} (e1 : bs[i]? = some (n, #[c0, c1], t1)) (e2 : bs[j]? = some (m, #[l0, l1, l2, l3], t2)) (e3 : bs[k]? = some (q, #[b0, b1], t3)) (e4 : bs[r]? = some (e, #[v0, v1], t4)) : C10 n m q e c0 c1 l0 l1 l2 l3 b0 b1 v0 v1 X :=
  ⟨two_cells' (h.at i e1), quad_cells (h.at j e2), two_cells' (h.at k e3), two_cells' (h.at r e4)⟩
theorem toEvent_any (s a : Int) (w : World) : Calls Tryz.prog 40 #[.agg #[.int .i64 s, .int .i64 a]] w fun e w' => e = .returned (.agg #[.int .i64 s, .int .i64 a]) ∧ Below w.heap.size w w' := by
  go_enter Tryz.func40, Tryz.ntmps40
  go_wp2
  exact bodyPost_ret (v := .agg #[.int .i64 s, .int .i64 a]) (by simp [results, Tryz.results40, go_sem]) rfl ⟨rfl, below3 _ _ _ _⟩

set_option maxRecDepth 100000 in
set_option maxHeartbeats 16000000 in
theorem lawDispatch (eo xo : Option Addr) (en ec xn xc : Nat) (es : List StD) (xs : List TrD) (o s t v leaf sg arg : Int) (ao bo : Option Addr) (kn kc vn vc : Nat) (ks vs : List Int) (w : World) (hen : en ≤ 9223372036854775807) (hxn : xn ≤ 9223372036854775807) (hkn : kn ≤ 9223372036854775807) (hvn : vn ≤ 9223372036854775807)
    (he : StatesOf w eo en es) (hx : TransOf w xo xn xs) (hk : SliceOf w ao kn ks) (hv : SliceOf w bo vn vs) (hr : ∀ i, I64 (vs.getD i 0)) (hag : I64 arg) :
    Calls Tryz.prog 7 #[.agg #[.slice eo en ec, .slice xo xn xc], .agg #[.int .i64 o, .int .i64 s, .int .i64 t, .int .i64 v], .int .i64 leaf, .agg #[.slice ao kn kc, .slice bo vn vc], .agg #[.int .i64 sg, .int .i64 arg]] w fun e w' => e = .returned (.bool true) ∧ Below w.heap.size w w' := by
  have HX : Hid (∀ w', Below w.heap.size w w' → (StatesOf w' eo en es ∧ TransOf w' xo xn xs) ∧ SliceOf w' ao kn ks ∧ SliceOf w' bo vn vs) := fun w' h => ⟨⟨he.below h, hx.below h⟩, hk.below h, hv.below h⟩
  have HR := hid hr
  have EN := hid (lw_start4 w #[.slice eo en ec, .slice xo xn xc] #[.int .i64 o, .int .i64 s, .int .i64 t, .int .i64 v] #[.slice ao kn kc, .slice bo vn vc] #[.int .i64 sg, .int .i64 arg])
  have HAG := hid hag
  obtain ⟨bs, hbs⟩ : ∃ b : BoxL, b = [(w.heap.size, #[.slice eo en ec, .slice xo xn xc], 76), (w.heap.size + 1, #[.int .i64 o, .int .i64 s, .int .i64 t, .int .i64 v], 77), (w.heap.size + 1 + 1, #[.slice ao kn kc, .slice bo vn vc], 86), (w.heap.size + 1 + 1 + 1, #[.int .i64 sg, .int .i64 arg], 92)] := ⟨_, rfl⟩
  rw [← hbs] at EN
  have G0 : Hid (bs[0]? = some (w.heap.size, #[.slice eo en ec, .slice xo xn xc], 76)) := hid (by rw [hbs]; rfl)
  have G1 : Hid (bs[1]? = some (w.heap.size + 1, #[.int .i64 o, .int .i64 s, .int .i64 t, .int .i64 v], 77)) := hid (by rw [hbs]; rfl)
  have G2 : Hid (bs[2]? = some (w.heap.size + 1 + 1, #[.slice ao kn kc, .slice bo vn vc], 86)) := hid (by rw [hbs]; rfl)
  have G3 : Hid (bs[3]? = some (w.heap.size + 1 + 1 + 1, #[.int .i64 sg, .int .i64 arg], 92)) := hid (by rw [hbs]; rfl)
  have FB : Hid (Far bs) := hid (by rw [hbs]; intro p hp; simp only [List.mem_cons, List.not_mem_nil, or_false] at hp; rcases hp with rfl | rfl | rfl | rfl <;> (dsimp only; decide))
  have KC : Hid (∀ {X : World}, Boxes bs X → C10 w.heap.size (w.heap.size + 1) (w.heap.size + 1 + 1) (w.heap.size + 1 + 1 + 1) (.slice eo en ec) (.slice xo xn xc) (.int .i64 o) (.int .i64 s) (.int .i64 t) (.int .i64 v) (.slice ao kn kc) (.slice bo vn vc) (.int .i64 sg) (.int .i64 arg) X) := hid (fun h => c10 h 0 1 2 3 G0.out G1.out G2.out G3.out)
  have C := hid (szChart_any eo xo en ec xn xc es xs _ hen hxn (he.below EN.out.bel) (hx.below EN.out.bel))
  clear he hx hk hv hr hbs hag
  by_cases hbig : (1048576 : Int) < ((wStates es + wTrans xs : Nat) : Int)
  · rw [szOut_no hbig] at C
    clear hbig
    go_enter Tryz.func7, Tryz.ntmps7
    go_wp2_with (go_at_call 24; refine C.out.mono ?_; rintro e w1 ⟨rfl, hb1⟩; have B1 := hid (EN.out.below hb1); clear hb1)
    go_ret
    exact ⟨rfl, B1.out.bel⟩
  · obtain ⟨r, hr⟩ : ∃ r : Int, r = 1048576 - ((wStates es + wTrans xs : Nat) : Int) := ⟨_, rfl⟩
    rw [szOut_yes hbig, ← hr] at C
    have hr0 : ¬ r < 0 := by omega
    have HWT : Hid (wStates es + wTrans xs ≤ 1048576) := hid (by omega)
    have fe : FitsSt es := fitsSt_of (by omega)
    have fx : FitsTr xs := fitsTr_of (by omega)
    have FE := hid fe
    have FX := hid fx
    have C2 := hid (fun w => szBank_any ao bo kn vn kc vc r w hkn hvn (by omega) (by omega))
    by_cases hs2 : szB r kn vn < 0
    · clear hbig hr fe fx
      go_enter Tryz.func7, Tryz.ntmps7
      go_wp2_with (first | (go_at_call 24; refine C.out.mono ?_; rintro e w1 ⟨rfl, hb1⟩; have B1 := hid (EN.out.below hb1); obtain ⟨_, _, ⟨q0, q1⟩, _⟩ := KC.out B1.out.bx; clear hb1) | (go_at_call 32; refine (C2.out _).mono ?_; rintro e w2 ⟨rfl, hb⟩; have B := hid (B1.out.below hb); clear hb))
      go_ret
      exact ⟨rfl, B.out.bel⟩
    · have hkn' : kn ≤ 1048576 := by unfold szB at hs2; split at hs2 <;> first | omega | (split at hs2 <;> omega)
      have hvn' : vn ≤ 1048576 := by unfold szB at hs2; split at hs2 <;> first | omega | (split at hs2 <;> omega)
      obtain ⟨RL, hRL⟩ : ∃ r, r = dL es xs ⟨o, s, t, v⟩ ks vs leaf sg arg := ⟨_, rfl⟩
      obtain ⟨RK, hRK⟩ : ∃ r, r = dK es xs ⟨o, s, t, v⟩ ks vs leaf sg := ⟨_, rfl⟩
      obtain ⟨RV, hRV⟩ : ∃ r, r = dV es xs ⟨o, s, t, v⟩ ks vs leaf sg arg := ⟨_, rfl⟩
      obtain ⟨RE, hRE⟩ : ∃ r, r = dE es xs ⟨o, s, t, v⟩ ks vs leaf sg arg := ⟨_, rfl⟩
      obtain ⟨RB, hRB⟩ : ∃ r, r = dB es xs ⟨o, s, t, v⟩ ks vs leaf sg arg := ⟨_, rfl⟩
      have SP := hid (fun a b g1 g2 w' (h1 : StatesOf w' (some ⟨a, 0, none⟩) en es ∧ TransOf w' (some ⟨b, 0, none⟩) xn xs) (h2 : SliceOf w' (some ⟨g1, 0, none⟩) kn ks ∧ SliceOf w' (some ⟨g2, 0, none⟩) vn vs) => specDispatch_any (some ⟨a, 0, none⟩) (some ⟨b, 0, none⟩) en en xn xn es xs o s t v leaf g1 0 g2 0 kn kn vn vn ks vs sg arg HAG.out w' hen hxn hkn' hvn' h1.1 h1.2 h2.1 h2.2 HR.out)
      have IM := hid (fun a b g1 g2 w' (h1 : StatesOf w' (some ⟨a, 0, none⟩) en es ∧ TransOf w' (some ⟨b, 0, none⟩) xn xs) (h2 : SliceOf w' (some ⟨g1, 0, none⟩) kn ks ∧ SliceOf w' (some ⟨g2, 0, none⟩) vn vs) => implDispatch_any (some ⟨a, 0, none⟩) (some ⟨b, 0, none⟩) en en xn xn es xs o s t v leaf g1 0 g2 0 kn kn vn vn ks vs sg arg w' hen hxn hkn' hvn' h1.1 h1.2 h2.1 h2.2)
      rw [← hRL, ← hRK, ← hRV, ← hRE, ← hRB] at SP IM
      have LEN : Hid (RK.length ≤ 1048576 ∧ RV.length ≤ 1048576 ∧ RE.length ≤ 1048576) := hid (by
        have l1 : ks.length = kn := (HX.out w (Below.refl _ _)).2.1.1
        have l2 : vs.length = vn := (HX.out w (Below.refl _ _)).2.2.1
        rw [hRK, hRV, hRE]
        exact disp_len (by omega) (by omega))
      have T := hid (fun w' (hL : w.heap.size ≤ w'.heap.size) (h : StatesOf w' eo en es ∧ TransOf w' xo xn xs) => toChart_full eo xo en ec xn xc es xs w.heap.size w' hL fe fx h.1 h.2)
      have TB := hid (fun w' (h : SliceOf w' ao kn ks ∧ SliceOf w' bo vn vs) => toBank_full ao bo kn vn kc vc ks vs w' hkn' hvn' h.1 h.2)
      clear hbig hr fe fx hRL hRK hRV hRE hRB
      go_enter Tryz.func7, Tryz.ntmps7
      go_upto_region 8 with (first | (go_at_call 24; refine C.out.mono ?_; rintro e w1 ⟨rfl, hb1⟩; have P1 := hid (EN.out.below hb1); obtain ⟨_, _, ⟨q0, q1⟩, _⟩ := KC.out P1.out.bx; clear hb1) | (go_at_call 32; refine (C2.out _).mono ?_; rintro e w2 ⟨rfl, hb⟩; have P2 := hid (P1.out.below hb); obtain ⟨⟨c0, c1⟩, ⟨u0, u1, u2, u3⟩, ⟨r0, r1⟩, ⟨v0, v1⟩⟩ := KC.out P2.out.bx; have cl := lt_of_block (P2.out.bx.at 0 G0.out); have ul := lt_of_block (P2.out.bx.at 1 G1.out); have rl := lt_of_block (P2.out.bx.at 2 G2.out); have vl := lt_of_block (P2.out.bx.at 3 G3.out); clear hb))
      have X1 := hid (P2.out.below ((Below.refl _ _).drew))
      have X2 := hid (P2.out.below ((below1 w2 ZB).drew))
      have E2 : Hid (Ez w bs w2.heap.size (w2.alloc ZB).drew) := hid (⟨(ez_new P2.out).z, (ez_new P2.out).lt, (ez_new P2.out).le⟩)
      go_cut [12, 13, 14, 15] (fun s8 s9 s10 s11 wx => ∃ H ka kx kp va vx vp ea ex ep, s8 = .int .i64 RL ∧ s9 = .pointer (some ⟨H, 0, none⟩) ∧ s10 = .slice ea ex ep ∧ s11 = .bool RB ∧ LwA w ((H, #[.slice ka kx kp, .slice va vx vp], 32) :: bs) RK RV RE (.slice ka kx kp) (.slice va vx vp) (.slice ea ex ep) wx)
      case first =>
        as_aux_lemma =>
          go_region_held3 (fun w' => (w'.cell? ⟨w.heap.size, 0, none⟩ = some (.slice eo en ec) ∧ w'.cell? ⟨w.heap.size, 1, none⟩ = some (.slice xo xn xc)) ∧ (w'.cell? ⟨w.heap.size + 1, 0, none⟩ = some (.int .i64 o) ∧ w'.cell? ⟨w.heap.size + 1, 1, none⟩ = some (.int .i64 s) ∧ w'.cell? ⟨w.heap.size + 1, 2, none⟩ = some (.int .i64 t) ∧ w'.cell? ⟨w.heap.size + 1, 3, none⟩ = some (.int .i64 v)) ∧ (w'.cell? ⟨w.heap.size + 1 + 1, 0, none⟩ = some (.slice ao kn kc) ∧ w'.cell? ⟨w.heap.size + 1 + 1, 1, none⟩ = some (.slice bo vn vc)) ∧ (w'.cell? ⟨w.heap.size + 1 + 1 + 1, 0, none⟩ = some (.int .i64 sg) ∧ w'.cell? ⟨w.heap.size + 1 + 1 + 1, 1, none⟩ = some (.int .i64 arg)))
            (first | with_reducible exact KC.out P6.out.bx | with_reducible exact KC.out P5e.out.bx | with_reducible exact KC.out (P5e.out.bx.below (below1 _ _)) | with_reducible exact KC.out P5.out.bx | with_reducible exact KC.out P4.out.bx | with_reducible exact KC.out P3.out.bx | with_reducible exact KC.out X1.out.bx | with_reducible exact KC.out X2.out.bx | with_reducible exact KC.out (P6.out.bx.below (below1 _ _)) | with_reducible exact KC.out (P5.out.bx.below (below1 _ _)) | with_reducible exact KC.out (P4.out.bx.below (below1 _ _)) | with_reducible exact KC.out (P3.out.bx.below (below1 _ _)) | with_reducible exact KC.out (P6.out.bx.set E6.out.lt))
            (first
              | (go_at_call 25; refine (T.out _ X1.out.bel.size (HX.out _ X1.out.bel).1).mono ?_; rintro e w3 ⟨a, b, rfl, hs, _, hb⟩; have P3 := hid (X1.out.below hb); have S3 := hid hs; clear hs hb)
              | (go_at_call 25; refine (T.out _ X2.out.bel.size (HX.out _ X2.out.bel).1).mono ?_; rintro e w3 ⟨a, b, rfl, hs, _, hb⟩; have P3 := hid (X2.out.below hb); have S3 := hid hs; have E3 := hid (E2.out.below hb); clear hs hb)
              | (go_at_call 26; refine (toLimits_any o s t v _).mono ?_; rintro e w4 ⟨rfl, hb⟩; have P4 := hid (P3.out.below hb); have S4 := hid (And.intro (S3.out.1.below hb) (S3.out.2.below hb)); (try (have E4 := hid (E3.out.below hb))); clear hb)
              | (go_at_call 26; refine (toLimits_any o s t v _).mono ?_; rintro e w4 ⟨rfl, hb⟩; have P4 := hid ((P3.out.below (below1 w3 ZB)).below hb); have S4 := hid (And.intro ((S3.out.1.below (below1 w3 ZB)).below hb) ((S3.out.2.below (below1 w3 ZB)).below hb)); have E4 := hid ((ez_new P3.out).below hb); clear hb)
              | (go_at_call 33; refine (TB.out _ (HX.out _ P4.out.bel).2).mono ?_; rintro e w5 ⟨g1, g2, rfl, hk, _, hb⟩; have P5 := hid (P4.out.below hb); have S5 := hid (And.intro (S4.out.1.below hb) (S4.out.2.below hb)); have K5 := hid hk; (try (have E5 := hid (E4.out.below hb))); clear hk hb)
              | (go_at_call 33; refine (TB.out _ (HX.out _ (P4.out.below (below1 w4 ZB)).bel).2).mono ?_; rintro e w5 ⟨g1, g2, rfl, hk, _, hb⟩; have P5 := hid ((P4.out.below (below1 w4 ZB)).below hb); have S5 := hid (And.intro ((S4.out.1.below (below1 w4 ZB)).below hb) ((S4.out.2.below (below1 w4 ZB)).below hb)); have K5 := hid hk; have E5 := hid ((ez_new P4.out).below hb); clear hk hb)
              | (go_at_call 40; refine (toEvent_any sg arg _).mono ?_; rintro e w5e ⟨rfl, hb⟩; have P5e := hid (P5.out.below hb); have S5e := hid (And.intro (S5.out.1.below hb) (S5.out.2.below hb)); have K5e := hid (And.intro (K5.out.1.below hb) (K5.out.2.below hb)); (try (have E5e := hid (E5.out.below hb))); clear hb)
              | (go_at_call 40; refine (toEvent_any sg arg _).mono ?_; rintro e w5e ⟨rfl, hb⟩; have P5e := hid ((P5.out.below (below1 w5 ZB)).below hb); have S5e := hid (And.intro ((S5.out.1.below (below1 w5 ZB)).below hb) ((S5.out.2.below (below1 w5 ZB)).below hb)); have K5e := hid (And.intro ((K5.out.1.below (below1 w5 ZB)).below hb) ((K5.out.2.below (below1 w5 ZB)).below hb)); have E5e := hid ((ez_new P5.out).below hb); clear hb)
              | (go_at_call 14; refine (SP.out a b g1 g2 _ S5e.out K5e.out).mono ?_; rintro e w6 ⟨kv, vv, ev, rfl, ho, hb⟩; obtain ⟨ka, kp, hka⟩ := own_any ho.k; obtain ⟨va, vp, hva⟩ := own_any ho.v; obtain ⟨ea, ep, hea⟩ := own_any ho.e; subst hka; subst hva; subst hea; have P6 := hid (P5e.out.below hb); have O6 := hid (ho.under P5e.out.bel.size); (try (have E6 := hid (E5e.out.below hb); obtain ⟨b0, b1, b2, b3⟩ := pair_cells E6.out.z)); clear ho hb)
              | (go_at_call 14; refine (SP.out a b g1 g2 _ (And.intro (S5e.out.1.below (below1 w5e ZB)) (S5e.out.2.below (below1 w5e ZB))) (And.intro (K5e.out.1.below (below1 w5e ZB)) (K5e.out.2.below (below1 w5e ZB)))).mono ?_; rintro e w6 ⟨kv, vv, ev, rfl, ho, hb⟩; obtain ⟨ka, kp, hka⟩ := own_any ho.k; obtain ⟨va, vp, hva⟩ := own_any ho.v; obtain ⟨ea, ep, hea⟩ := own_any ho.e; subst hka; subst hva; subst hea; have P6 := hid ((P5e.out.below (below1 w5e ZB)).below hb); have O6 := hid (ho.under (P5e.out.below (below1 w5e ZB)).bel.size); have E6 := hid ((ez_new P5e.out).below hb); obtain ⟨b0, b1, b2, b3⟩ := pair_cells E6.out.z; clear ho hb))
          all_goals
            go_wp2_with fail
            go_meet
            refine ⟨_, ka, RK.length, kp, va, RV.length, vp, ea, RE.length, ep, rfl, rfl, rfl, rfl, ?_⟩
            first | exact LwA.new P6.out O6.out | exact LwA.set P6.out E6.out O6.out
      case rest =>
        as_aux_lemma =>
          obtain ⟨H, ka, kx, kp, va, vx, vp, ea, ex, ep, rfl, rfl, rfl, rfl, hF⟩ := hcut
          have F0 := hid hF
          have W0 : Hid (w.heap.size < wc.heap.size) := hid (lt_of_block (hF.bx.at 1 G0.out))
          obtain ⟨⟨i0, i1⟩, _, _⟩ := KC.out hF.bx.tail
          clear hF q0 q1 c0 c1 u0 u1 u2 u3 r0 r1 v0 v1 cl ul rl vl X1 X2 E2
          go_wp2_with (go_at_call 25; refine (T.out _ F0.out.bel.size (HX.out _ F0.out.bel).1).mono ?_; rintro e w3 ⟨a3, b3, rfl, hs, ht, hb⟩; have F3 := hid (F0.out.below hb); have S3 := hid hs; have T3 := hid ht; have B3 := hid hb; obtain ⟨_, _, ⟨i30, i31⟩, _⟩ := KC.out F3.out.bx.tail; have l3 := lt_of_block (F3.out.bx.at 3 G2.out); clear hs ht hb)
          go_upto_region 11 with (go_at_call 33; refine (TB.out _ (HX.out _ (F3.out.below (below1 _ _)).bel).2).mono ?_; rintro e w4 ⟨g6, g7, rfl, hk, hi, hb⟩; have K4 := hid hk; have I4 := hid hi; have B4 := hid hb; have F4 := hid (((LwA.lw F3.out).add #[.slice (some ⟨a3, 0, none⟩) en en, .slice (some ⟨b3, 0, none⟩) xn xn] 36).below hb); clear hk hi hb)
          have hbW := below1 w4 (.cells #[.slice (some ⟨g6, 0, none⟩) kn kn, .slice (some ⟨g7, 0, none⟩) vn vn] 32)
          have F5 := hid (F4.out.add #[.slice (some ⟨g6, 0, none⟩) kn kn, .slice (some ⟨g7, 0, none⟩) vn vn] 32)
          obtain ⟨W, hW⟩ : ∃ W, W = w4.alloc (.cells #[.slice (some ⟨g6, 0, none⟩) kn kn, .slice (some ⟨g7, 0, none⟩) vn vn] 32) := ⟨_, rfl⟩
          rw [← hW] at F5 hbW ⊢
          clear hW i0 i1 i30 i31 l3
          have BW := hid hbW
          have SW : Hid (StatesOf W (some ⟨a3, 0, none⟩) en es ∧ TransOf W (some ⟨b3, 0, none⟩) xn xs) := hid ⟨((S3.out.1.below (below1 _ _)).below B4.out).below hbW, ((S3.out.2.below (below1 _ _)).below B4.out).below hbW⟩
          have KW : Hid (SliceOf W (some ⟨g6, 0, none⟩) kn ks ∧ SliceOf W (some ⟨g7, 0, none⟩) vn vs) := hid ⟨K4.out.1.below hbW, K4.out.2.below hbW⟩
          obtain ⟨bs3, hbs3⟩ : ∃ b : BoxL, b = (w4.heap.size, #[.slice (some ⟨g6, 0, none⟩) kn kn, .slice (some ⟨g7, 0, none⟩) vn vn], 32) :: (w3.heap.size, #[.slice (some ⟨a3, 0, none⟩) en en, .slice (some ⟨b3, 0, none⟩) xn xn], 36) :: (H, #[.slice ka kx kp, .slice va vx vp], 32) :: bs := ⟨_, rfl⟩
          rw [← hbs3] at F5
          have I0 : Hid (bs3[0]? = some (w4.heap.size, #[.slice (some ⟨g6, 0, none⟩) kn kn, .slice (some ⟨g7, 0, none⟩) vn vn], 32)) := hid (by rw [hbs3]; rfl)
          have I1 : Hid (bs3[1]? = some (w3.heap.size, #[.slice (some ⟨a3, 0, none⟩) en en, .slice (some ⟨b3, 0, none⟩) xn xn], 36)) := hid (by rw [hbs3]; rfl)
          have I2 : Hid (bs3[2]? = some (H, #[.slice ka kx kp, .slice va vx vp], 32)) := hid (by rw [hbs3]; rfl)
          have I3 : Hid (bs3[3]? = some (w.heap.size, #[.slice eo en ec, .slice xo xn xc], 76)) := hid (by rw [hbs3]; exact G0.out)
          have I4' : Hid (bs3[4]? = some (w.heap.size + 1, #[.int .i64 o, .int .i64 s, .int .i64 t, .int .i64 v], 77)) := hid (by rw [hbs3]; exact G1.out)
          have I5 : Hid (bs3[5]? = some (w.heap.size + 1 + 1, #[.slice ao kn kc, .slice bo vn vc], 86)) := hid (by rw [hbs3]; exact G2.out)
          have I6 : Hid (bs3[6]? = some (w.heap.size + 1 + 1 + 1, #[.int .i64 sg, .int .i64 arg], 92)) := hid (by rw [hbs3]; exact G3.out)
          have I9 : Hid (∀ X, Boxes bs3 X → Boxes bs X) := hid (fun X h => by rw [hbs3] at h; exact h.tail.tail.tail)
          have FB3 : Hid (Far bs3) := hid (by rw [hbs3]; exact ((FB.out.add (by decide)).add (by decide)).add (by decide))
          have L5 : Hid (Lw W bs3 W) := hid ⟨Below.refl _ _, F5.out.bx⟩
          have KC3 : Hid (∀ {X : World}, Boxes bs3 X → C10 w3.heap.size (w.heap.size + 1) w4.heap.size (w.heap.size + 1 + 1 + 1) (.slice (some ⟨a3, 0, none⟩) en en) (.slice (some ⟨b3, 0, none⟩) xn xn) (.int .i64 o) (.int .i64 s) (.int .i64 t) (.int .i64 v) (.slice (some ⟨g6, 0, none⟩) kn kn) (.slice (some ⟨g7, 0, none⟩) vn vn) (.int .i64 sg) (.int .i64 arg) X) := hid (fun h => c10 h 1 4 0 6 I1.out I4'.out I0.out I6.out)
          obtain ⟨⟨c0, c1⟩, ⟨u0, u1, u2, u3⟩, ⟨r0, r1⟩, ⟨v0, v1⟩⟩ := KC3.out F5.out.bx
          have cl := lt_of_block (F5.out.bx.at 1 I1.out)
          have ul := lt_of_block (F5.out.bx.at 4 I4'.out)
          have rl := lt_of_block (F5.out.bx.at 0 I0.out)
          have vl := lt_of_block (F5.out.bx.at 6 I6.out)
          have Y1 := hid (L5.out.below ((Below.refl _ _).drew))
          have Y2 := hid (L5.out.below ((below1 W ZB).drew))
          have D2 : Hid (Ez W bs3 W.heap.size (W.alloc ZB).drew) := hid (⟨(ez_new L5.out).z, (ez_new L5.out).lt, (ez_new L5.out).le⟩)
          have MK : Hid (∀ {bs' kI vI eI w5}, LwA W bs' RK RV RE kI vI eI w5 → LwB w bs' RK RV RE (.slice ka kx kp) (.slice va vx vp) (.slice ea ex ep) es xs kn vn (.slice (some ⟨a3, 0, none⟩) en en) (.slice (some ⟨b3, 0, none⟩) xn xn) g6 g7 kI vI eI w5) := hid (fun hI => mkSb F0.out W0.out (B3.out.trans ((below1 _ _).mono B3.out.size)) (T3.out.1.of_below (below1 _ _)) (T3.out.2.of_below (below1 _ _)) B4.out I4.out.1 I4.out.2.1 I4.out.2.2 BW.out hI)
          clear hbs3 hbW
          go_cut [18, 19, 20, 21] (fun s13 s14 s15 s16 wx => ∃ HG kb kx2 kq vb vx2 vq eb ex2 eq2, s13 = .int .i64 RL ∧ s14 = .pointer (some ⟨HG, 0, none⟩) ∧ s15 = .slice eb ex2 eq2 ∧ s16 = .bool RB ∧ LwA W ((HG, #[.slice kb kx2 kq, .slice vb vx2 vq], 32) :: bs3) RK RV RE (.slice kb kx2 kq) (.slice vb vx2 vq) (.slice eb ex2 eq2) wx)
          case first =>
            as_aux_lemma =>
              go_region_held3 (fun w' => (w'.cell? ⟨w3.heap.size, 0, none⟩ = some (.slice (some ⟨a3, 0, none⟩) en en) ∧ w'.cell? ⟨w3.heap.size, 1, none⟩ = some (.slice (some ⟨b3, 0, none⟩) xn xn)) ∧ (w'.cell? ⟨w.heap.size + 1, 0, none⟩ = some (.int .i64 o) ∧ w'.cell? ⟨w.heap.size + 1, 1, none⟩ = some (.int .i64 s) ∧ w'.cell? ⟨w.heap.size + 1, 2, none⟩ = some (.int .i64 t) ∧ w'.cell? ⟨w.heap.size + 1, 3, none⟩ = some (.int .i64 v)) ∧ (w'.cell? ⟨w4.heap.size, 0, none⟩ = some (.slice (some ⟨g6, 0, none⟩) kn kn) ∧ w'.cell? ⟨w4.heap.size, 1, none⟩ = some (.slice (some ⟨g7, 0, none⟩) vn vn)) ∧ (w'.cell? ⟨w.heap.size + 1 + 1 + 1, 0, none⟩ = some (.int .i64 sg) ∧ w'.cell? ⟨w.heap.size + 1 + 1 + 1, 1, none⟩ = some (.int .i64 arg)))
                (first | with_reducible exact KC3.out Q4.out.bx | with_reducible exact KC3.out Q3e.out.bx | with_reducible exact KC3.out (Q3e.out.bx.below (below1 _ _)) | with_reducible exact KC3.out Q3.out.bx | with_reducible exact KC3.out Y1.out.bx | with_reducible exact KC3.out Y2.out.bx | with_reducible exact KC3.out (Q4.out.bx.below (below1 _ _)) | with_reducible exact KC3.out (Q3.out.bx.below (below1 _ _)) | with_reducible exact KC3.out (Q4.out.bx.set D4.out.lt))
                (first
                  | (go_at_call 26; refine (toLimits_any o s t v _).mono ?_; rintro e y3 ⟨rfl, hb⟩; have Q3 := hid (Y1.out.below hb); clear hb)
                  | (go_at_call 26; refine (toLimits_any o s t v _).mono ?_; rintro e y3 ⟨rfl, hb⟩; have Q3 := hid (Y2.out.below hb); have D3 := hid (D2.out.below hb); clear hb)
                  | (go_at_call 40; refine (toEvent_any sg arg _).mono ?_; rintro e y3e ⟨rfl, hb⟩; have Q3e := hid (Q3.out.below hb); (try (have D3e := hid (D3.out.below hb))); clear hb)
                  | (go_at_call 40; refine (toEvent_any sg arg _).mono ?_; rintro e y3e ⟨rfl, hb⟩; have Q3e := hid ((Q3.out.below (below1 y3 ZB)).below hb); have D3e := hid ((ez_new Q3.out).below hb); clear hb)
                  | (go_at_call 15; refine (IM.out a3 b3 g6 g7 _ (And.intro (SW.out.1.below Q3e.out.bel) (SW.out.2.below Q3e.out.bel)) (And.intro (KW.out.1.below Q3e.out.bel) (KW.out.2.below Q3e.out.bel))).mono ?_; rintro e y4 ⟨kv, vv, ev, rfl, ho, hb⟩; obtain ⟨kb, kq, hka⟩ := own_any ho.k; obtain ⟨vb, vq, hva⟩ := own_any ho.v; obtain ⟨eb, eq2, hea⟩ := own_any ho.e; subst hka; subst hva; subst hea; have Q4 := hid (Q3e.out.below hb); have O4 := hid (ho.under Q3e.out.bel.size); (try (have D4 := hid (D3e.out.below hb); obtain ⟨b0, b1, b2, b3⟩ := pair_cells D4.out.z)); clear ho hb)
                  | (go_at_call 15; refine (IM.out a3 b3 g6 g7 _ (And.intro (SW.out.1.below (Q3e.out.below (below1 y3e ZB)).bel) (SW.out.2.below (Q3e.out.below (below1 y3e ZB)).bel)) (And.intro (KW.out.1.below (Q3e.out.below (below1 y3e ZB)).bel) (KW.out.2.below (Q3e.out.below (below1 y3e ZB)).bel))).mono ?_; rintro e y4 ⟨kv, vv, ev, rfl, ho, hb⟩; obtain ⟨kb, kq, hka⟩ := own_any ho.k; obtain ⟨vb, vq, hva⟩ := own_any ho.v; obtain ⟨eb, eq2, hea⟩ := own_any ho.e; subst hka; subst hva; subst hea; have Q4 := hid ((Q3e.out.below (below1 y3e ZB)).below hb); have O4 := hid (ho.under (Q3e.out.below (below1 y3e ZB)).bel.size); have D4 := hid ((ez_new Q3e.out).below hb); obtain ⟨b0, b1, b2, b3⟩ := pair_cells D4.out.z; clear ho hb))
              all_goals
                go_wp2_with fail
                go_meet
                refine ⟨_, kb, RK.length, kq, vb, RV.length, vq, eb, RE.length, eq2, rfl, rfl, rfl, rfl, ?_⟩
                first | exact LwA.new Q4.out O4.out | exact LwA.set Q4.out D4.out O4.out
          case rest =>
            as_aux_lemma =>
              obtain ⟨HG, kb, kx2, kq, vb, vx2, vq, eb, ex2, eq2, rfl, rfl, rfl, rfl, hI⟩ := hcut
              have U5 := hid (MK.out hI)
              have BX := hid hI.bel
              have FB4 : Hid (Far ((HG, #[.slice kb kx2 kq, .slice vb vx2 vq], 32) :: bs3)) := hid (FB3.out.add (by decide))
              obtain ⟨j0, j1⟩ := two_cells' (hI.bx.at 0 rfl)
              obtain ⟨j2, j3⟩ := two_cells' (hI.bx.at 3 I2.out)
              clear hI c0 c1 u0 u1 u2 u3 r0 r1 v0 v1 cl ul rl vl Y1 Y2 D2
              go_upto_region 14 with (first
                | (go_at_call 34; refine (eqBank_out U5.out.oi U5.out.os LEN.out.1 LEN.out.2.1).mono ?_; rintro e w6 ⟨rfl, hb⟩; have U6 := hid (U5.out.below hb); have BX6 := hid (BX.out.trans (hb.mono BX.out.size)); clear hb)
                | (go_at_call 35; refine (eqEffectS_same _ _ _ _ RE _ LEN.out.2.2 U6.out.oi.e U6.out.os.e).mono ?_; rintro e w7 ⟨rfl, hb⟩; have U7 := hid (U6.out.below hb); have BX7 := hid (BX6.out.trans (hb.mono BX6.out.size)); clear hb))
              have D7 := hid (U7.out.below ((Below.refl _ _).drew))
              have DX : Hid (Below W.heap.size W w7.drew) := hid (BX7.out.drew)
              have M7 : Hid (∀ {X : World}, Boxes ((HG, #[.slice kb kx2 kq, .slice vb vx2 vq], 32) :: bs3) X → ((X.cell? ⟨w3.heap.size, 0, none⟩ = some (.slice (some ⟨a3, 0, none⟩) en en) ∧ X.cell? ⟨w3.heap.size, 1, none⟩ = some (.slice (some ⟨b3, 0, none⟩) xn xn)) ∧ (X.cell? ⟨w.heap.size, 0, none⟩ = some (.slice eo en ec) ∧ X.cell? ⟨w.heap.size, 1, none⟩ = some (.slice xo xn xc)))) := hid (fun h => ⟨two_cells' (h.at 2 I1.out), two_cells' (h.at 4 I3.out)⟩)
              have M8 : Hid (∀ {X : World}, Boxes ((HG, #[.slice kb kx2 kq, .slice vb vx2 vq], 32) :: bs3) X → ((X.cell? ⟨w4.heap.size, 0, none⟩ = some (.slice (some ⟨g6, 0, none⟩) kn kn) ∧ X.cell? ⟨w4.heap.size, 1, none⟩ = some (.slice (some ⟨g7, 0, none⟩) vn vn)) ∧ (X.cell? ⟨w.heap.size + 1 + 1, 0, none⟩ = some (.slice ao kn kc) ∧ X.cell? ⟨w.heap.size + 1 + 1, 1, none⟩ = some (.slice bo vn vc)))) := hid (fun h => ⟨two_cells' (h.at 1 I0.out), two_cells' (h.at 6 I5.out)⟩)
              obtain ⟨⟨c0, c1⟩, ⟨d0, d1⟩⟩ := M7.out U7.out.bx
              clear j0 j1 j2 j3
              go_region_held3 (fun X => (X.cell? ⟨w3.heap.size, 0, none⟩ = some (.slice (some ⟨a3, 0, none⟩) en en) ∧ X.cell? ⟨w3.heap.size, 1, none⟩ = some (.slice (some ⟨b3, 0, none⟩) xn xn)) ∧ (X.cell? ⟨w.heap.size, 0, none⟩ = some (.slice eo en ec) ∧ X.cell? ⟨w.heap.size, 1, none⟩ = some (.slice xo xn xc)))
                (first | with_reducible exact M7.out UB.out.bx | with_reducible exact M7.out UA.out.bx | with_reducible exact M7.out D7.out.bx)
                (first
                | (go_at_call 25; refine (T.out _ D7.out.bel.size (HX.out _ D7.out.bel).1).mono ?_; rintro e wa ⟨ga, gb, rfl, hs, _, hb⟩; have UA := hid (D7.out.below hb); have SA := hid hs; have XA := hid (DX.out.trans (hb.mono DX.out.size)); clear hs hb)
                | (go_at_call 28; refine (eqChart_same _ _ _ _ _ _ _ _ _ _ es xs _ FE.out FX.out (SW.out.1.below XA.out) (SW.out.2.below XA.out) SA.out.1 SA.out.2).mono ?_; rintro e wb ⟨rfl, hb⟩; have UB := hid (UA.out.below hb); have XB := hid (XA.out.trans (hb.mono XA.out.size)); clear hb))
              all_goals
                clear c0 c1 d0 d1
                go_upto_region 16 with fail
                have D8 := hid (UB.out.below ((Below.refl _ _).drew))
                have DY : Hid (Below W.heap.size W wb.drew) := hid (XB.out.drew)
                obtain ⟨⟨c0, c1⟩, ⟨d0, d1⟩⟩ := M8.out UB.out.bx
                go_region_held3 (fun X => (X.cell? ⟨w4.heap.size, 0, none⟩ = some (.slice (some ⟨g6, 0, none⟩) kn kn) ∧ X.cell? ⟨w4.heap.size, 1, none⟩ = some (.slice (some ⟨g7, 0, none⟩) vn vn)) ∧ (X.cell? ⟨w.heap.size + 1 + 1, 0, none⟩ = some (.slice ao kn kc) ∧ X.cell? ⟨w.heap.size + 1 + 1, 1, none⟩ = some (.slice bo vn vc)))
                  (first | with_reducible exact M8.out UD.out.bx | with_reducible exact M8.out UC.out.bx | with_reducible exact M8.out D8.out.bx)
                  (first
                  | (go_at_call 33; refine (TB.out _ (HX.out _ D8.out.bel).2).mono ?_; rintro e wc8 ⟨ga8, gb8, rfl, hs, _, hb⟩; have UC := hid (D8.out.below hb); have SC := hid hs; have XC := hid (DY.out.trans (hb.mono DY.out.size)); clear hs hb)
                  | (go_at_call 34; refine (eqBank_any _ _ _ _ _ _ _ _ _ _ _ _ ks vs ks vs _ hkn' hvn' hkn' hvn' (KW.out.1.below XC.out) (KW.out.2.below XC.out) SC.out.1 SC.out.2).mono ?_; rw [show decide (ks = ks ∧ vs = vs) = true by simp]; rintro e wd ⟨rfl, hb⟩; have UD := hid (UC.out.below hb); clear hb))
                all_goals
                  clear c0 c1 d0 d1
                  obtain ⟨c0, c1⟩ := two_cells' (UD.out.bx.at 2 I1.out)
                  go_wp2_with (go_at_call 29; refine (markChart_bd w.heap.size _ _ es xs _ HWT.out UD.out.tt UD.out.tr).mono ?_; rintro e we ⟨kd, rfl, hkd, hm⟩; have UE := hid ((UD.out.below (below1 _ _)).mk' FB4.out hm); have KD := hid hkd; have kd0 : 0 ≤ kd := (by omega); have kd1 : kd ≤ 1 + 3 * 1048576 := (by omega); obtain ⟨n6, n7⟩ := two_cells' (UE.out.bx.at 1 I0.out); clear hm hkd)
                  go_wp2_with (go_at_call 36; refine (markBank_own w.heap.size _ _ kn vn kd _ kd0 (by omega) UE.out.xk UE.out.xv (fun b e => by have := UE.out.lt; simp [Value.ownBlock] at e ⊢; omega)).mono ?_; rintro e wf ⟨rfl, _, hoe⟩; have VE := hid (UE.out.marked FB4.out hoe); have ke0 : ¬ (kd + kn + vn : Int) < 0 := (by omega); have ke1 : decide ((kd + kn + vn : Int) < 0) = false := (by simpa using ke0); obtain ⟨o0, o1⟩ := two_cells' (VE.out.bx.at 0 rfl); obtain ⟨o2, o3⟩ := two_cells' (VE.out.bx.at 3 I2.out); clear hoe)
                  go_wp2_with (first
                    | (go_at_call 34; refine (eqBank_out VE.out.oi VE.out.os LEN.out.1 LEN.out.2.1).mono ?_; rintro e wg ⟨rfl, hb⟩; have VF := hid (VE.out.below hb); clear hb)
                    | (go_at_call 35; refine (eqEffectS_same _ _ _ _ RE _ LEN.out.2.2 VF.out.oi.e VF.out.os.e).mono ?_; rintro e wg2 ⟨rfl, hb⟩; have VG := hid (VF.out.below hb); obtain ⟨s0, s1⟩ := two_cells' (VG.out.bx.at 0 rfl); clear hb)
                    | (go_at_call 36; refine (markBank_own w.heap.size _ _ RK.length RV.length 1 _ (by omega) (by have := LEN.out; omega) (ints_of VG.out.oi.k) (ints_of VG.out.oi.v) VG.out.oi.ne).mono ?_; rintro e wh1 ⟨rfl, hm, hoe⟩; have WH := hid (VG.out.marked FB4.out hoe hm.1 hm.2); have MH := hid hm; clear hm hoe)
                    | (go_at_call 37; refine (markEff_own w.heap.size _ RE.length (1 + RK.length + RV.length) _ (by omega) (by have := LEN.out; omega) WH.out.ie).mono ?_; rintro e wh9 ⟨rfl, hm, hoe⟩; have ZH0 := hid (WH.out.marked FB4.out hoe MH.out.1 MH.out.2); have ME := hid hm; obtain ⟨t0, t1⟩ := two_cells' (ZH0.out.1.bx.at 0 rfl); clear hm hoe))
                  go_upto_region 35 with (first
                    | (go_at_call 38; refine (heldBank_own w.heap.size _ _ RK.length RV.length 1 _ (by omega) (by have := LEN.out; omega) ZH0.out.2.1 ZH0.out.2.2).mono ?_; rintro e wi ⟨rfl, hb⟩; have ZI := hid (ZH0.out.1.below hb); have MI := hid (ME.out.below hb); have qi0 : ¬ (1 + (RK.length : Int) + RV.length) < 0 := (by omega); have qi1 : ¬ (1 + (RK.length : Int) + RV.length + 4 * RE.length) < 0 := (by omega); clear hb)
                    | (go_at_call 39; refine (heldEff_own w.heap.size _ RE.length (1 + RK.length + RV.length) _ (by omega) (by have := LEN.out; omega) MI.out).mono ?_; rintro e wh2 ⟨rfl, hw⟩; obtain rfl := hw.symm))
                  obtain ⟨wh, hwh⟩ : ∃ x, x = wi := ⟨_, rfl⟩
                  subst hwh
                  clear c0 c1 n6 n7 o0 o1 o2 o3 s0 s1 t0 t1 ke0 ke1 qi0 qi1
                  have BH := hid ZI.out.bel
                  have LH : Hid (Lw wh bs wh) := hid ⟨Below.refl _ _, I9.out _ ZI.out.bx.tail⟩
                  obtain ⟨⟨c0, c1⟩, ⟨u0, u1, u2, u3⟩, ⟨r0, r1⟩, ⟨v0, v1⟩⟩ := KC.out LH.out.bx
                  have cl := lt_of_block (LH.out.bx.at 0 G0.out)
                  have ul := lt_of_block (LH.out.bx.at 1 G1.out)
                  have rl := lt_of_block (LH.out.bx.at 2 G2.out)
                  have vl := lt_of_block (LH.out.bx.at 3 G3.out)
                  have X1 := hid (LH.out.below ((Below.refl _ _).drew))
                  have X2 := hid (LH.out.below ((below1 wh ZB).drew))
                  have E2 : Hid (Ez wh bs wh.heap.size (wh.alloc ZB).drew) := hid (⟨(ez_new LH.out).z, (ez_new LH.out).lt, (ez_new LH.out).le⟩)
                  have HB : Hid (∀ X, Below wh.heap.size wh X → Below w.heap.size w X) := hid (fun X h => BH.out.trans (h.mono BH.out.size))
                  go_cut [25, 26, 27, 28] (fun s19 s20 s21 s22 wx => ∃ H2 ka2 kx3 kp2 va2 vx3 vp2 ea2 ex3 ep2, s19 = .int .i64 RL ∧ s20 = .pointer (some ⟨H2, 0, none⟩) ∧ s21 = .slice ea2 ex3 ep2 ∧ s22 = .bool RB ∧ LwA wh ((H2, #[.slice ka2 kx3 kp2, .slice va2 vx3 vp2], 32) :: bs) RK RV RE (.slice ka2 kx3 kp2) (.slice va2 vx3 vp2) (.slice ea2 ex3 ep2) wx)
                  case first =>
                    as_aux_lemma =>
                      go_region_held3 (fun w' => (w'.cell? ⟨w.heap.size, 0, none⟩ = some (.slice eo en ec) ∧ w'.cell? ⟨w.heap.size, 1, none⟩ = some (.slice xo xn xc)) ∧ (w'.cell? ⟨w.heap.size + 1, 0, none⟩ = some (.int .i64 o) ∧ w'.cell? ⟨w.heap.size + 1, 1, none⟩ = some (.int .i64 s) ∧ w'.cell? ⟨w.heap.size + 1, 2, none⟩ = some (.int .i64 t) ∧ w'.cell? ⟨w.heap.size + 1, 3, none⟩ = some (.int .i64 v)) ∧ (w'.cell? ⟨w.heap.size + 1 + 1, 0, none⟩ = some (.slice ao kn kc) ∧ w'.cell? ⟨w.heap.size + 1 + 1, 1, none⟩ = some (.slice bo vn vc)) ∧ (w'.cell? ⟨w.heap.size + 1 + 1 + 1, 0, none⟩ = some (.int .i64 sg) ∧ w'.cell? ⟨w.heap.size + 1 + 1 + 1, 1, none⟩ = some (.int .i64 arg)))
                        (first | with_reducible exact KC.out P6.out.bx | with_reducible exact KC.out P5e.out.bx | with_reducible exact KC.out (P5e.out.bx.below (below1 _ _)) | with_reducible exact KC.out P5.out.bx | with_reducible exact KC.out P4.out.bx | with_reducible exact KC.out P3.out.bx | with_reducible exact KC.out X1.out.bx | with_reducible exact KC.out X2.out.bx | with_reducible exact KC.out (P6.out.bx.below (below1 _ _)) | with_reducible exact KC.out (P5.out.bx.below (below1 _ _)) | with_reducible exact KC.out (P4.out.bx.below (below1 _ _)) | with_reducible exact KC.out (P3.out.bx.below (below1 _ _)) | with_reducible exact KC.out (P6.out.bx.set E6.out.lt))
                        (first
                          | (go_at_call 25; refine (T.out _ (HB.out _ X1.out.bel).size (HX.out _ (HB.out _ X1.out.bel)).1).mono ?_; rintro e z3 ⟨a, b, rfl, hs, _, hb⟩; have P3 := hid (X1.out.below hb); have S3 := hid hs; clear hs hb)
                          | (go_at_call 25; refine (T.out _ (HB.out _ X2.out.bel).size (HX.out _ (HB.out _ X2.out.bel)).1).mono ?_; rintro e z3 ⟨a, b, rfl, hs, _, hb⟩; have P3 := hid (X2.out.below hb); have S3 := hid hs; have E3 := hid (E2.out.below hb); clear hs hb)
                          | (go_at_call 26; refine (toLimits_any o s t v _).mono ?_; rintro e z4 ⟨rfl, hb⟩; have P4 := hid (P3.out.below hb); have S4 := hid (And.intro (S3.out.1.below hb) (S3.out.2.below hb)); (try (have E4 := hid (E3.out.below hb))); clear hb)
                          | (go_at_call 26; refine (toLimits_any o s t v _).mono ?_; rintro e z4 ⟨rfl, hb⟩; have P4 := hid ((P3.out.below (below1 z3 ZB)).below hb); have S4 := hid (And.intro ((S3.out.1.below (below1 z3 ZB)).below hb) ((S3.out.2.below (below1 z3 ZB)).below hb)); have E4 := hid ((ez_new P3.out).below hb); clear hb)
                          | (go_at_call 33; refine (TB.out _ (HX.out _ (HB.out _ P4.out.bel)).2).mono ?_; rintro e z5 ⟨g1, g2, rfl, hk, _, hb⟩; have P5 := hid (P4.out.below hb); have S5 := hid (And.intro (S4.out.1.below hb) (S4.out.2.below hb)); have K5 := hid hk; (try (have E5 := hid (E4.out.below hb))); clear hk hb)
                          | (go_at_call 33; refine (TB.out _ (HX.out _ (HB.out _ (P4.out.below (below1 z4 ZB)).bel)).2).mono ?_; rintro e z5 ⟨g1, g2, rfl, hk, _, hb⟩; have P5 := hid ((P4.out.below (below1 z4 ZB)).below hb); have S5 := hid (And.intro ((S4.out.1.below (below1 z4 ZB)).below hb) ((S4.out.2.below (below1 z4 ZB)).below hb)); have K5 := hid hk; have E5 := hid ((ez_new P4.out).below hb); clear hk hb)
                          | (go_at_call 40; refine (toEvent_any sg arg _).mono ?_; rintro e z5e ⟨rfl, hb⟩; have P5e := hid (P5.out.below hb); have S5e := hid (And.intro (S5.out.1.below hb) (S5.out.2.below hb)); have K5e := hid (And.intro (K5.out.1.below hb) (K5.out.2.below hb)); (try (have E5e := hid (E5.out.below hb))); clear hb)
                          | (go_at_call 40; refine (toEvent_any sg arg _).mono ?_; rintro e z5e ⟨rfl, hb⟩; have P5e := hid ((P5.out.below (below1 z5 ZB)).below hb); have S5e := hid (And.intro ((S5.out.1.below (below1 z5 ZB)).below hb) ((S5.out.2.below (below1 z5 ZB)).below hb)); have K5e := hid (And.intro ((K5.out.1.below (below1 z5 ZB)).below hb) ((K5.out.2.below (below1 z5 ZB)).below hb)); have E5e := hid ((ez_new P5.out).below hb); clear hb)
                          | (go_at_call 15; refine (IM.out a b g1 g2 _ S5e.out K5e.out).mono ?_; rintro e z6 ⟨kv, vv, ev, rfl, ho, hb⟩; obtain ⟨ka9, kp9, hka⟩ := own_any ho.k; obtain ⟨va9, vp9, hva⟩ := own_any ho.v; obtain ⟨ea9, ep9, hea⟩ := own_any ho.e; subst hka; subst hva; subst hea; have P6 := hid (P5e.out.below hb); have O6 := hid (ho.under P5e.out.bel.size); (try (have E6 := hid (E5e.out.below hb); obtain ⟨b0, b1, b2, b3⟩ := pair_cells E6.out.z)); clear ho hb)
                          | (go_at_call 15; refine (IM.out a b g1 g2 _ (And.intro (S5e.out.1.below (below1 z5e ZB)) (S5e.out.2.below (below1 z5e ZB))) (And.intro (K5e.out.1.below (below1 z5e ZB)) (K5e.out.2.below (below1 z5e ZB)))).mono ?_; rintro e z6 ⟨kv, vv, ev, rfl, ho, hb⟩; obtain ⟨ka9, kp9, hka⟩ := own_any ho.k; obtain ⟨va9, vp9, hva⟩ := own_any ho.v; obtain ⟨ea9, ep9, hea⟩ := own_any ho.e; subst hka; subst hva; subst hea; have P6 := hid ((P5e.out.below (below1 z5e ZB)).below hb); have O6 := hid (ho.under (P5e.out.below (below1 z5e ZB)).bel.size); have E6 := hid ((ez_new P5e.out).below hb); obtain ⟨b0, b1, b2, b3⟩ := pair_cells E6.out.z; clear ho hb))
                      all_goals
                        go_wp2_with fail
                        go_meet
                        refine ⟨_, ka9, RK.length, kp9, va9, RV.length, vp9, ea9, RE.length, ep9, rfl, rfl, rfl, rfl, ?_⟩
                        first | exact LwA.new P6.out O6.out | exact LwA.set P6.out E6.out O6.out
                  case rest =>
                    as_aux_lemma =>
                      obtain ⟨H2, ka2, kx3, kp2, va2, vx3, vp2, ea2, ex3, ep2, rfl, rfl, rfl, rfl, hF2⟩ := hcut
                      have N0 := hid hF2
                      have ZC := hid (ZI.out.below hF2.bel)
                      obtain ⟨e0, e1⟩ := two_cells' (hF2.bx.at 0 rfl)
                      obtain ⟨f0, f1⟩ := two_cells' (ZC.out.bx.at 3 I2.out)
                      clear hF2
                      go_wp2_with (first
                        | (go_at_call 34; refine (eqBank_out N0.out.o ZC.out.o LEN.out.1 LEN.out.2.1).mono ?_; rintro e wk ⟨rfl, hb⟩; have N1 := hid (N0.out.below hb); have ZD := hid (ZC.out.below hb); clear hb)
                        | (go_at_call 35; refine (eqEffectS_same _ _ _ _ RE _ LEN.out.2.2 N1.out.o.e ZD.out.o.e).mono ?_; rintro e wl ⟨rfl, hb⟩; have ZE := hid (ZD.out.below hb); clear hb))
                      go_ret
                      exact ⟨rfl, ZE.out.bel⟩
end Go.Proofs.YtiimkhepplkocaaGreat
