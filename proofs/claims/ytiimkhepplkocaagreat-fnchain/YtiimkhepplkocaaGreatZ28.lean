import Derived.Test.YtiimkhepplkocaaGreatZ27
namespace Go.Proofs.YtiimkhepplkocaaGreat
open Go.RowKit Go.Sort
set_option linter.unusedVariables false
attribute [local go_sem ↓] Go.wp_at_zero Go.wp_at_succ
set_option maxRecDepth 100000 in
set_option maxHeartbeats 16000000 in
theorem l3Dispatch_any (so tq : Option Addr) (n sc tn tc : Nat) (ss : List StD) (ts : List TrD) (l : LimD) (hC : Chk ss ts l) (htn : ts.length = tn) (leaf : Nat) (hlf : leaf < n) (kA vA : Option Addr) (kn kc vc : Nat) (ks vs : List Int) (sg arg : Int) (ha : I64 arg) (w : World) (hs : StatesOf w so n ss) (ht : TransOf w tq tn ts) (hk : SliceOf w kA kn ks) (hv : SliceOf w vA kn vs) (hi : ∀ i, I64 (vs.getD i 0)) (hbp : ks.length = vs.length ∧ vs.length ≤ 32 ∧ ∀ i, i < ks.length → 1 ≤ ks.getD i 0 ∧ ks.getD i 0 ≤ 7) (hlv : l.v = kn) :
  Calls Tryz.prog 56 #[.agg #[.slice so n sc, .slice tq tn tc], .int .i64 (leaf : Int), .agg #[.slice kA kn kc, .slice vA kn vc], .agg #[.int .i64 sg, .int .i64 arg]] w fun e w' => ∃ kv vv ee, e = .returned (.tuple #[.int .i64 (dpN ss ts leaf (pickX ss ts l vs arg leaf sg) : Nat), .agg #[kv, vv], ee, .bool (pickX ss ts l vs arg leaf sg).isSome]) ∧ OutE w.heap.size w' kv vv ee ks (dpX ss ts l ks vs arg leaf (pickX ss ts l vs arg leaf sg)).1 (dpX ss ts l ks vs arg leaf (pickX ss ts l vs arg leaf sg)).2 ∧ Below w.heap.size w w' := by
 obtain ⟨i0, hi0, hz0, hz1, hz2⟩ := info_parts Tryz.infoInt0
 have HL := hid hs.1
 have hls : leaf < ss.length := by rw [HL.out]; exact hlf
 have EK : Hid (ks.length = kn) := hid hk.1
 have EV : Hid (vs.length = kn) := hid hv.1
 have k32 : kn ≤ 32 := by have := hbp.2.1; rw [EV.out] at this; exact this
 have HX : Hid (∀ w', Below w.heap.size w w' → (StatesOf w' so n ss ∧ TransOf w' tq tn ts) ∧ SliceOf w' kA kn ks ∧ SliceOf w' vA kn vs) := hid (fun w' h => ⟨⟨hs.below h, ht.below h⟩, hk.below h, hv.below h⟩)
 have NK : Hid (∀ X, Below w.heap.size w X → NewsAt X kA kn (ks.map (Value.int .i64))) := hid (fun X hb => news_of hk hb)
 have NV : Hid (∀ X, Below w.heap.size w X → NewsAt X vA kn (vs.map (Value.int .i64))) := hid (fun X hb => news_of hv hb)
 have LK1 : Hid ((ks.map (Value.int .i64)).length = kn * 1) := hid (by simp [EK.out])
 have LV1 : Hid ((vs.map (Value.int .i64)).length = kn * 1) := hid (by simp [EV.out])
 have t5 : tn ≤ 500 := by rw [← htn]; exact hC.good.tn
 have n2 : n ≤ 200 := by rw [← HL.out]; exact hC.good.n2
 have CC := hid (fun w' (hb : Below w.heap.size w w') => l3Cand_any so tq n sc tn tc ss ts hC.good.tree n2 t5 leaf hlf sg w' (HX.out w' hb).1.1 (HX.out w' hb).1.2)
 have WY := hid (fun q (hq : q ∈ cands ts (up ss leaf) sg) => way_of hC hls hq)
 have CP := hid (fun q (hq : Way ss ts leaf q) w' (hb : Below w.heap.size w w') => path_q hC so tq n sc tn tc htn hlf hq w' (HX.out w' hb).1.1 (HX.out w' hb).1.2)
 have CS := hid (fun q (hq : Way ss ts leaf q) xo eo ao xc an ac ec w' (hb : Below w.heap.size w w') (ha2 : an ≤ 50) (h1 : NatsOf w' xo (exX ss leaf (ts.getD q tr0))) (h2 : NatsOf w' eo (enX ss (ts.getD q tr0))) (h3 : StmsOf w' ao an (ts.getD q tr0).action) => l3Script_any so tq n sc tn tc ss ts l hC xo ao eo xc an ac ec (exX ss leaf (ts.getD q tr0)) (enX ss (ts.getD q tr0)) (ts.getD q tr0).action w' hq.ex hq.en (fun x hx => by rw [← HL.out]; exact hq.exm x hx) (fun x hx => by rw [← HL.out]; exact hq.enm x hx) ha2 (HX.out w' hb).1.1 h1 h2 h3)
 have CE := hid (fun q (hq : Way ss ts leaf q) g cap w' (hb : Below w.heap.size w w') (hcap : (scriptS ss (exX ss leaf (ts.getD q tr0)) (ts.getD q tr0).action (enX ss (ts.getD q tr0))).length ≤ cap) (h : StmsOf w' (some ⟨g, 0, none⟩) (scriptS ss (exX ss leaf (ts.getD q tr0)) (ts.getD q tr0).action (enX ss (ts.getD q tr0))).length (scriptS ss (exX ss leaf (ts.getD q tr0)) (ts.getD q tr0).action (enX ss (ts.getD q tr0)))) => l1Exec_any l kA kn kc ks arg ha k32 hlv EK.out hbp.2.2 (scriptS ss (exX ss leaf (ts.getD q tr0)) (ts.getD q tr0).action (enX ss (ts.getD q tr0))) ⟨g, 0, none⟩ (scriptS ss (exX ss leaf (ts.getD q tr0)) (ts.getD q tr0).action (enX ss (ts.getD q tr0))).length cap vA vc vs w' (by rw [← run_script]; have := run_len hC hq; omega) hcap (script_nodes hC hq.exm hq.enm (by obtain ⟨vs2, hv2⟩ := hC.act q hq.lt; exact nodes_all (lift_nodes hv2))) hi h (HX.out w' hb).2.1 (HX.out w' hb).2.2)
 have CV := hid (fun X (hb : Below w.heap.size w X) co cn cc its t (h1 : ItemsOf X co cn its) (h2 : liftT its l.v = some t) => value_top (c := cc) (vc := vc) (arg := arg) h1 (HX.out X hb).2.2 hi ha (show liftT its ((kn : Nat) : Int) = some t by rw [← hlv]; exact h2))
 have DA := hid (fun q (hq : Way ss ts leaf q) => show (ts.getD q tr0).action.length ≤ 50 from by obtain ⟨vs2, hv2⟩ := hC.act q hq.lt; exact lift_len hv2)
 have GR := hid (fun q (hq : Way ss ts leaf q) => hC.grd q hq.lt)
 have FA := hid (fun a ha h0 h1 => find_at (K := cands ts (up ss leaf) sg) (f := fun q => letB l.v (ts.getD q tr0).guard vs arg) (a := a) ha h0 h1)
 have FN := hid (fun h0 => find_no (K := cands ts (up ss leaf) sg) (f := fun q => letB l.v (ts.getD q tr0).guard vs arg) h0)
 obtain ⟨pk, hpk⟩ : ∃ p, p = pickX ss ts l vs arg leaf sg := ⟨_, rfl⟩
 have PK : Hid (pk = (cands ts (up ss leaf) sg).find? (fun q => letB l.v (ts.getD q tr0).guard vs arg)) := hid hpk
 rw [← hpk]
 obtain ⟨K, hK⟩ : ∃ K, K = cands ts (up ss leaf) sg := ⟨_, rfl⟩
 rw [← hK] at CC WY PK FA FN
 have LKm : Hid (K.length ≤ 100000) := hid (by
  rw [hK]
  have h1 := cands_len ts sg (up ss leaf)
  have h2 := up_len hC.good.tree leaf hls
  have h3 := hC.good.n2
  have h4 := hC.good.tn
  have h5 := Nat.mul_le_mul (show (up ss leaf).length ≤ 200 by omega) h4
  omega)
 obtain ⟨m, hm⟩ : ∃ m, m = K.length := ⟨_, rfl⟩
 have EM := hid hm
 rw [← hm] at CC LKm FA FN
 have HT := hid htn
 have HLV := hid hlv
 have EN := hid (dq_start w #[.slice so n sc, .slice tq tn tc] #[.slice kA kn kc, .slice vA kn vc] #[.int .i64 sg, .int .i64 arg])
 obtain ⟨W, hW⟩ : ∃ W, W = (((w.alloc (.cells #[.slice so n sc, .slice tq tn tc] 36)).alloc (.cells #[.slice kA kn kc, .slice vA kn vc] 32)).alloc (.cells #[.int .i64 sg, .int .i64 arg] 51)).alloc (.cells #[.slice none 0 0, .slice none 0 0] 32) := ⟨_, rfl⟩
 rw [← hW] at EN
 have OU : Hid ((W.alloc (.cells #[] 3)).ownsRow w.heap.size 3 1 (.slice (some ⟨W.heap.size, 0, none⟩) 0 0) 0 []) := hid (own_none (heap_alloc_new W (.cells #[] 3)) EN.out.bel.size)
 have BU := hid (EN.out.below (below1 W (.cells #[] 3)))
 clear hs ht hk hv hi hbp hlv htn hC hK hm hpk ha hls
 go_enter Tryz.func56, Tryz.ntmps56
 go_upto_region 1 with fail
 rw [← hW]
 obtain ⟨b0, b1, _, _⟩ := pair_cells EN.out.b
 have bl := lt_of_block EN.out.b
 clear hW
 go_wp2_with (at_builtin; refine wpList_append_opt _ rfl (.tmp 21) (.tmp 23) 30 rfl w.heap.size 3 i0 (.int .i64 0) 1 8 Tryz.underlying30 hi0 hz0 hz1 hz2 rfl (by decide) (.slice (some ⟨W.heap.size, 0, none⟩) 0 0) 0 [] rfl OU.out kA kn kc (ks.map (Value.int .i64)) rfl LK1.out (NK.out _ BU.out.bel) (ints_one1 ks) (by unfold maxLen; omega) (by omega) BU.out.bel.size ?_)
 intro v' w2 hown hgrow _
 have B2 := hid (Dq.grown BU.out OU.out hgrow)
 have O2 : Hid (w2.ownsRow w.heap.size 3 1 v' ks.length (ks.map (Value.int .i64))) := hid (by rw [EK.out]; simpa using hown)
 obtain ⟨ka, kp, hkv⟩ := slice_of hown
 subst hkv
 obtain ⟨c0, c1⟩ := two_cells B2.out.c
 obtain ⟨e0, e1, _, _⟩ := pair_cells B2.out.e
 have cl := lt_of_block B2.out.c
 have el := lt_of_block B2.out.e
 clear hown hgrow b0 b1 bl OU BU
 try rw [show (0 : Nat) + kn = kn from Nat.zero_add kn]
 have D2 := hid (B2.out.below (below1 w2 (.cells #[.slice ka kn kp, .slice none 0 0] 32)))
 go_wp2_with (go_at_call 50; refine (CC.out _ D2.out.bel).mono ?_; rintro e w3 ⟨gc, cc, rfl, ho, hb⟩; have L3 : Hid (Dl w #[.slice so n sc, .slice tq tn tc] #[.slice kA kn kc, .slice vA kn vc] #[.int .i64 sg, .int .i64 arg] w2.heap.size (.slice ka kn kp) ks gc cc K w3) := hid ⟨D2.out.below hb, block_below (heap_alloc_new w2 _) hb, ownsRow_below (ownsRow_below O2.out (below1 _ _)) hb, (by have h := ownsRow_base ho D2.out.bel.size; rw [EM.out] at h; exact h)⟩; clear ho hb)
 clear c0 c1 e0 e1 cl el
 obtain ⟨HB, hHB⟩ : ∃ x, x = w2.heap.size := ⟨_, rfl⟩
 rw [← hHB] at L3 ⊢
 have HR : Hid (w.heap.size + 1 + 1 + 1 < HB) := hid (by rw [hHB]; exact lt_of_block B2.out.r)
 clear hHB
 go_loopg [32] m (fun mm i X => ∃ a : Nat, a ≤ m ∧ mm = m - a ∧ i = .int .i64 a ∧ Dl w #[.slice so n sc, .slice tq tn tc] #[.slice kA kn kc, .slice vA kn vc] #[.int .i64 sg, .int .i64 arg] HB (.slice ka kn kp) ks gc cc K X ∧ Hid (∀ i, i < a → letB l.v (ts.getD (K.getD i 0) tr0).guard vs arg = false))
 case atStart => exact ⟨0, by omega, by omega, rfl, L3.out, hid (fun i hi => absurd hi (by omega))⟩
 case round =>
  obtain ⟨a, ha, rfl, rfl, hD, HF⟩ := hrel
  have DD := hid hD
  obtain ⟨c0, c1⟩ := two_cells hD.q.c
  obtain ⟨b0, b1, _, _⟩ := pair_cells hD.q.b
  obtain ⟨e0, e1, _, _⟩ := pair_cells hD.q.e
  have cl := lt_of_block hD.q.c
  have bl := lt_of_block hD.q.b
  have el := lt_of_block hD.q.e
  by_cases hlt : a < m
  ·obtain ⟨q, hq⟩ : ∃ q, q = K.getD a 0 := ⟨_, rfl⟩
   have hqm : q ∈ K := by rw [hq, List.getD_eq_getElem?_getD, List.getElem?_eq_getElem (by rw [← EM.out]; exact hlt)]; simp
   have HQ := hid hq
   have WQ := hid (WY.out q hqm)
   have cq : wr.cell? ⟨gc, a, none⟩ = some (.int .i64 (q : Int)) := by
    rw [World.ownsRow.cellAt hD.oc a (by rw [← EM.out]; omega), hq]
    simp [ints, List.getElem?_eq_getElem (show a < K.length by rw [← EM.out]; exact hlt)]
   have hqt : q < tn := by rw [← HT.out]; exact WQ.out.lt
   obtain ⟨tb, off, htq, htl, htc⟩ := (HX.out _ hD.q.bel).1.2.2 (by omega)
   subst htq
   obtain ⟨x1, x2, ⟨co, cn, cc2, x3, hcn, hit⟩, x4, ⟨do_, dn, dc, x5, hdn, hst⟩⟩ := htc q hqt
   have LG : Hid ((ts.getD q tr0).guard.length = cn) := hid hit.1
   have LA : Hid ((ts.getD q tr0).action.length = dn) := hid hst.1
   have IT := hid hit
   have ST := hid hst
   obtain ⟨sv, hsv⟩ : ∃ x, x = (ts.getD q tr0).src := ⟨_, rfl⟩
   obtain ⟨gv, hgv⟩ : ∃ x, x = (ts.getD q tr0).sig := ⟨_, rfl⟩
   obtain ⟨tv2, htv⟩ : ∃ x, x = (ts.getD q tr0).target := ⟨_, rfl⟩
   rw [← hsv] at x1
   rw [← hgv] at x2
   rw [← htv] at x4
   have qi : (q : Int) < (tn : Int) := by omega
   have ai : (a : Int) < (m : Int) := by omega
   have a5 : a ≤ 100000 := by have := LKm.out; omega
   obtain ⟨b, hb⟩ : ∃ b, b = letB l.v (ts.getD q tr0).guard vs arg := ⟨_, rfl⟩
   have HBB := hid hb
   have CV2 := hid (fun t (ht : liftT (ts.getD q tr0).guard l.v = some t) => CV.out wr DD.out.q.bel co cn cc2 _ t IT.out ht)
   clear hD hq hqm htc hit hst hsv hgv htv hb
   cases b with
   | false =>
    rcases GR.out q WQ.out with hg0 | ⟨hg0, t, ht⟩
    ·have := HBB.out; rw [hg0, letB_nil] at this; cases this
    ·have EZ : Hid (evalT vs arg t = 0) := hid (by have := HBB.out; rw [letB_some hg0 ht] at this; simpa using this.symm)
     have cn0 : (0 : Int) < (cn : Int) := by
      have h1 := LG.out
      have h2 : (ts.getD q tr0).guard.length ≠ 0 := fun e => hg0 (List.length_eq_zero_iff.1 e)
      omega
     have CW := hid (CV2.out t ht).2
     rw [EZ.out] at CW
     clear hg0 ht
     go_wp2_with (go_at_call 112; refine (CW.out _ (below1 _ _)).mono ?_; rintro e w4 ⟨rfl, hb⟩; have D4 := hid ((DD.out.below (below1 _ _)).below hb); clear hb)
     go_roundg (m - (a + 1))
     case measure => omega
     case rel => exact ⟨a + 1, by omega, rfl, by go_num, D4.out, hid (fun i hi => by
      by_cases h : i < a
      ·exact HF.out i h
      ·obtain rfl : i = a := by omega
       rw [← HQ.out]; exact HBB.out.symm)⟩
   | true =>
    have PQ : Hid (pk = some q) := hid (by rw [PK.out, HQ.out]; exact FA.out a hlt (fun i hi => HF.out i hi) (by rw [← HQ.out]; exact HBB.out.symm))
    have dn5 : dn ≤ 50 := by rw [← LA.out]; exact DA.out q WQ.out
    have CP2 := hid (fun X hX => CP.out q WQ.out X hX)
    have CS2 := hid (fun xo eo xc ec X hX h1 h2 (h3 : StmsOf X do_ dn (ts.getD q tr0).action) => CS.out q WQ.out xo eo do_ xc dn dc ec X hX dn5 h1 h2 h3)
    have CE2 := hid (fun g cap X hX h1 h2 => CE.out q WQ.out g cap X hX h1 h2)
    obtain ⟨xl, hxl⟩ : ∃ x, x = exX ss leaf (ts.getD q tr0) := ⟨_, rfl⟩
    obtain ⟨nl, hnl⟩ : ∃ x, x = enX ss (ts.getD q tr0) := ⟨_, rfl⟩
    obtain ⟨nx, hnx⟩ : ∃ x, x = nxX ss leaf (ts.getD q tr0) := ⟨_, rfl⟩
    obtain ⟨sl, hsl⟩ : ∃ x, x = scriptS ss (exX ss leaf (ts.getD q tr0)) (ts.getD q tr0).action (enX ss (ts.getD q tr0)) := ⟨_, rfl⟩
    rw [← hsl] at CS2 CE2
    rw [← hxl, ← hnl, ← hnx] at CP2
    rw [← hxl, ← hnl] at CS2
    obtain ⟨xr, hxr⟩ : ∃ x, x = execS l.v ks arg vs sl := ⟨_, rfl⟩
    rw [← hxr] at CE2
    have XR : Hid (dpX ss ts l ks vs arg leaf pk = xr) := hid (by rw [PQ.out, hxr, hsl, ← run_script]; rfl)
    have DN : Hid (dpN ss ts leaf pk = nx) := hid (by rw [PQ.out, hnx]; rfl)
    have DS : Hid (pk.isSome = true) := hid (by rw [PQ.out]; rfl)
    clear hxl hnl hnx hsl hxr dn5
    have TBX : Hid (∀ X, Below (wr.alloc (.cells #[.int .i64 sv, .int .i64 gv, .slice co cn cc2, .int .i64 tv2, .slice do_ dn dc] 60)).heap.size (wr.alloc (.cells #[.int .i64 sv, .int .i64 gv, .slice co cn cc2, .int .i64 tv2, .slice do_ dn dc] 60)) X → X.heap[wr.heap.size]? = some (.cells #[.int .i64 sv, .int .i64 gv, .slice co cn cc2, .int .i64 tv2, .slice do_ dn dc] 60 (0, 0)) ∧ Below wr.heap.size wr X) := hid (fun X hb => ⟨block_below (heap_alloc_new wr _) hb, (below1 _ _).trans (hb.mono (by simp))⟩)
    rcases GR.out q WQ.out with hg0 | ⟨hg0, t, ht⟩
    case inl =>
     have cn0 : cn = 0 := by have h1 := LG.out; rw [hg0] at h1; exact h1.symm
     subst cn0
     clear hg0 CV2
     go_wp2_with (go_at_call 51; refine (CP2.out _ (DD.out.below (below1 _ _)).q.bel).mono ?_; rintro e w4 ⟨ge, ce, gn, cn3, rfl, o1, o2, hb⟩; have R4 := hid (TBX.out _ hb); have D4 := hid (DD.out.below R4.out.2); have O1 := hid o1; have O2 := hid o2; clear o1 o2 hb)
     have D5 := hid (D4.out.below ((Below.refl _ _).drew))
     have R5 : Hid (w4.drew.heap[wr.heap.size]? = some (.cells #[.int .i64 sv, .int .i64 gv, .slice co 0 cc2, .int .i64 tv2, .slice do_ dn dc] 60 (0, 0))) := hid R4.out.1
     have KX : Hid (∀ X, Dl w #[.slice so n sc, .slice (some ⟨tb, off, none⟩) tn tc] #[.slice kA kn kc, .slice vA kn vc] #[.int .i64 sg, .int .i64 arg] HB (.slice ka kn kp) ks gc cc K X → X.heap[wr.heap.size]? = some (.cells #[.int .i64 sv, .int .i64 gv, .slice co 0 cc2, .int .i64 tv2, .slice do_ dn dc] 60 (0, 0)) → (X.cell? ⟨w.heap.size, 0, none⟩ = some (.slice so n sc) ∧ X.cell? ⟨w.heap.size, 1, none⟩ = some (.slice (some ⟨tb, off, none⟩) tn tc)) ∧ (X.cell? ⟨w.heap.size + 1, 0, none⟩ = some (.slice kA kn kc) ∧ X.cell? ⟨w.heap.size + 1, 1, none⟩ = some (.slice vA kn vc)) ∧ X.cell? ⟨w.heap.size + 1 + 1, 1, none⟩ = some (.int .i64 arg) ∧ X.cell? ⟨wr.heap.size, 4, none⟩ = some (.slice do_ dn dc)) := hid (fun X h h5 => ⟨two_cells h.q.c, two_cells h.q.b, (pair_cells h.q.e).2.1, (five_cells h5).2.2.2.2⟩)
     obtain ⟨⟨f0, f1⟩, ⟨f2, f3⟩, f4, f5⟩ := KX.out _ D4.out R4.out.1
     clear c0 c1 b0 b1 e0 e1 cl bl el x1 x2 x3 x4 x5 cq
     go_region_held3 (fun X => (X.cell? ⟨w.heap.size, 0, none⟩ = some (.slice so n sc) ∧ X.cell? ⟨w.heap.size, 1, none⟩ = some (.slice (some ⟨tb, off, none⟩) tn tc)) ∧ (X.cell? ⟨w.heap.size + 1, 0, none⟩ = some (.slice kA kn kc) ∧ X.cell? ⟨w.heap.size + 1, 1, none⟩ = some (.slice vA kn vc)) ∧ X.cell? ⟨w.heap.size + 1 + 1, 1, none⟩ = some (.int .i64 arg) ∧ X.cell? ⟨wr.heap.size, 4, none⟩ = some (.slice do_ dn dc))
      (first | with_reducible exact KX.out _ D7.out R7.out | with_reducible exact KX.out _ D6.out R6.out | with_reducible exact KX.out _ D5.out R5.out)
      (first
       | (go_at_call 114; refine (CS2.out (some ⟨ge, 0, none⟩) (some ⟨gn, 0, none⟩) ce cn3 _ D5.out.q.bel (nats_own O1.out ((Below.refl _ _).drew)) (nats_own O2.out ((Below.refl _ _).drew)) (ST.out.below R4.out.2.drew)).mono ?_; rintro e w5 ⟨g5, cap5, rfl, hcp, hst, hb⟩; have D6 := hid (D5.out.below hb); have R6 := hid (block_below R5.out hb); have S6 := hid hst; have P6 := hid hcp; clear hcp hst hb)
       | (go_at_call 113; refine (CE2.out g5 cap5 _ D6.out.q.bel P6.out S6.out).mono ?_; rintro e w6 ⟨lv, ee, rfl, hol, hoe, hne, hb⟩; have D7 := hid (D6.out.below hb); have R7 := hid (block_below R6.out hb); have OL := hid hol; have OE7 := hid hoe; have S7 := hid D6.out.q.bel.size; have K7 : Hid (∀ b, (Value.slice ka kn kp).ownBlock = some b → b < w5.heap.size) := hid (fun b e => (D6.out.ok.lt b e).2); obtain ⟨gl, pl, hlv2, hgl, _⟩ := hol.form; subst hlv2; obtain ⟨ge7, pe7, hev, _, _⟩ := own_form hoe hne; subst hev; have GL7 := hid hgl; obtain ⟨h0, h1, h2, h3⟩ := pair_cells D7.out.h; clear hol hoe hne hb hgl))
     all_goals
      clear f0 f1 f2 f3 f4 f5
      have H6 : Hid (OutE w.heap.size w6 (.slice ka kn kp) (.slice (some ⟨gl, 0, none⟩) xr.1.length pl) (.slice (some ⟨ge7, 0, none⟩) xr.2.length pe7) ks xr.1 xr.2) := hid ⟨D7.out.ok, ownsRow_base OL.out.1 S7.out, ownsRow_base OE7.out S7.out, fun b e => by have := K7.out b e; have := GL7.out; simp [Value.ownBlock]; omega⟩
      go_upto_region 10 with fail
      obtain ⟨Y, hY⟩ : ∃ Y, Y = w6.setCell ⟨HB, 1, none⟩ (.slice (some ⟨gl, 0, none⟩) xr.1.length pl) := ⟨_, rfl⟩
      rw [← hY]
      have yH : Y.heap[HB]? = some (.cells #[.slice ka kn kp, .slice (some ⟨gl, 0, none⟩) xr.1.length pl] 32 (0, 0)) := by rw [hY, heap_setCell_same w6 HB 1 _ _ _ D7.out.h]; rfl
      have yR : Y.heap[w.heap.size + 1 + 1 + 1]? = some (.cells #[.slice none 0 0, .slice none 0 0] 32 (0, 0)) := by rw [hY]; exact (Below.heap_setCell _ _ _ _ (Nat.ne_of_lt HR.out)).trans D7.out.q.r
      have YO : Hid (OutE w.heap.size Y (.slice ka kn kp) (.slice (some ⟨gl, 0, none⟩) xr.1.length pl) (.slice (some ⟨ge7, 0, none⟩) xr.2.length pe7) ks xr.1 xr.2) := hid (by rw [hY]; exact H6.out.set1 D7.out.h (by decide) (by decide) 1 _)
      have YB : Hid (Below w.heap.size w Y) := hid (by rw [hY]; exact D7.out.q.bel.setCell (show w.heap.size ≤ HB by have := HR.out; omega) _)
      have YR := hid yR
      obtain ⟨u0, u1, u2, u3⟩ := pair_cells yH
      obtain ⟨r0, r1, r2, r3⟩ := pair_cells yR
      have nr : ¬ (HB = w.heap.size + 1 + 1 + 1) := by have := HR.out; omega
      have nr2 : ¬ (w.heap.size + 1 + 1 + 1 = HB) := fun e => nr e.symm
      clear hY yH yR h0 h1 h2 h3
      go_region
      all_goals
       go_wp2_with fail
       obtain ⟨y0, y1⟩ := two_cells' (out_cells (u1 := .slice ka kn kp) (u2 := .slice (some ⟨gl, 0, none⟩) xr.1.length pl) YR.out)
       refine bodyPost_ret (v := .tuple #[.int .i64 (nx : Int), .agg #[.slice ka kn kp, .slice (some ⟨gl, 0, none⟩) xr.1.length pl], .slice (some ⟨ge7, 0, none⟩) xr.2.length pe7, .bool true]) (by simp [results, Tryz.results56, go_sem, y0, y1]) rfl ?_
       refine ⟨.slice ka kn kp, .slice (some ⟨gl, 0, none⟩) xr.1.length pl, .slice (some ⟨ge7, 0, none⟩) xr.2.length pe7, by rw [DN.out, DS.out], ?_, (out_bel YB.out (by omega)).drew⟩
       rw [XR.out]
       exact (YO.out.set2 YR.out (by decide) (by decide) 0 1 _ _).below ((Below.refl _ _).drew)
    case inr =>
     have zb : Hid (¬ evalT vs arg t = 0) := hid (by have := HBB.out; rw [letB_some hg0 ht] at this; simpa using this.symm)
     have cn0 : (0 : Int) < (cn : Int) := by
      have h1 := LG.out
      have h2 : (ts.getD q tr0).guard.length ≠ 0 := fun e => hg0 (List.length_eq_zero_iff.1 e)
      omega
     have CW := hid (CV2.out t ht).2
     obtain ⟨z, hz⟩ : ∃ z, z = evalT vs arg t := ⟨_, rfl⟩
     rw [← hz] at CW zb
     have zf : (z == 0) = false := by simpa using zb.out
     clear hg0 ht CV2 hz
     go_wp2_with (first
      | (go_at_call 112; refine (CW.out _ (below1 _ _)).mono ?_; rintro e w3b ⟨rfl, hb⟩; have R3 := hid (TBX.out _ hb); have D3 := hid (DD.out.below R3.out.2); obtain ⟨c0, c1⟩ := two_cells D3.out.q.c; clear hb)
      | (go_at_call 51; refine (CP2.out _ D3.out.q.bel).mono ?_; rintro e w4 ⟨ge, ce, gn, cn3, rfl, o1, o2, hb⟩; have R4 := hid (And.intro (block_below R3.out.1 hb) (R3.out.2.trans (hb.mono R3.out.2.size))); have D4 := hid (DD.out.below R4.out.2); have O1 := hid o1; have O2 := hid o2; clear o1 o2 hb))
     have D5 := hid (D4.out.below ((Below.refl _ _).drew))
     have R5 : Hid (w4.drew.heap[wr.heap.size]? = some (.cells #[.int .i64 sv, .int .i64 gv, .slice co cn cc2, .int .i64 tv2, .slice do_ dn dc] 60 (0, 0))) := hid R4.out.1
     have KX : Hid (∀ X, Dl w #[.slice so n sc, .slice (some ⟨tb, off, none⟩) tn tc] #[.slice kA kn kc, .slice vA kn vc] #[.int .i64 sg, .int .i64 arg] HB (.slice ka kn kp) ks gc cc K X → X.heap[wr.heap.size]? = some (.cells #[.int .i64 sv, .int .i64 gv, .slice co cn cc2, .int .i64 tv2, .slice do_ dn dc] 60 (0, 0)) → (X.cell? ⟨w.heap.size, 0, none⟩ = some (.slice so n sc) ∧ X.cell? ⟨w.heap.size, 1, none⟩ = some (.slice (some ⟨tb, off, none⟩) tn tc)) ∧ (X.cell? ⟨w.heap.size + 1, 0, none⟩ = some (.slice kA kn kc) ∧ X.cell? ⟨w.heap.size + 1, 1, none⟩ = some (.slice vA kn vc)) ∧ X.cell? ⟨w.heap.size + 1 + 1, 1, none⟩ = some (.int .i64 arg) ∧ X.cell? ⟨wr.heap.size, 4, none⟩ = some (.slice do_ dn dc)) := hid (fun X h h5 => ⟨two_cells h.q.c, two_cells h.q.b, (pair_cells h.q.e).2.1, (five_cells h5).2.2.2.2⟩)
     obtain ⟨⟨f0, f1⟩, ⟨f2, f3⟩, f4, f5⟩ := KX.out _ D4.out R4.out.1
     clear c0 c1 b0 b1 e0 e1 cl bl el x1 x2 x3 x4 x5 cq
     go_region_held3 (fun X => (X.cell? ⟨w.heap.size, 0, none⟩ = some (.slice so n sc) ∧ X.cell? ⟨w.heap.size, 1, none⟩ = some (.slice (some ⟨tb, off, none⟩) tn tc)) ∧ (X.cell? ⟨w.heap.size + 1, 0, none⟩ = some (.slice kA kn kc) ∧ X.cell? ⟨w.heap.size + 1, 1, none⟩ = some (.slice vA kn vc)) ∧ X.cell? ⟨w.heap.size + 1 + 1, 1, none⟩ = some (.int .i64 arg) ∧ X.cell? ⟨wr.heap.size, 4, none⟩ = some (.slice do_ dn dc))
      (first | with_reducible exact KX.out _ D7.out R7.out | with_reducible exact KX.out _ D6.out R6.out | with_reducible exact KX.out _ D5.out R5.out)
      (first
       | (go_at_call 114; refine (CS2.out (some ⟨ge, 0, none⟩) (some ⟨gn, 0, none⟩) ce cn3 _ D5.out.q.bel (nats_own O1.out ((Below.refl _ _).drew)) (nats_own O2.out ((Below.refl _ _).drew)) (ST.out.below R4.out.2.drew)).mono ?_; rintro e w5 ⟨g5, cap5, rfl, hcp, hst, hb⟩; have D6 := hid (D5.out.below hb); have R6 := hid (block_below R5.out hb); have S6 := hid hst; have P6 := hid hcp; clear hcp hst hb)
       | (go_at_call 113; refine (CE2.out g5 cap5 _ D6.out.q.bel P6.out S6.out).mono ?_; rintro e w6 ⟨lv, ee, rfl, hol, hoe, hne, hb⟩; have D7 := hid (D6.out.below hb); have R7 := hid (block_below R6.out hb); have OL := hid hol; have OE7 := hid hoe; have S7 := hid D6.out.q.bel.size; have K7 : Hid (∀ b, (Value.slice ka kn kp).ownBlock = some b → b < w5.heap.size) := hid (fun b e => (D6.out.ok.lt b e).2); obtain ⟨gl, pl, hlv2, hgl, _⟩ := hol.form; subst hlv2; obtain ⟨ge7, pe7, hev, _, _⟩ := own_form hoe hne; subst hev; have GL7 := hid hgl; obtain ⟨h0, h1, h2, h3⟩ := pair_cells D7.out.h; clear hol hoe hne hb hgl))
     all_goals
      clear f0 f1 f2 f3 f4 f5
      have H6 : Hid (OutE w.heap.size w6 (.slice ka kn kp) (.slice (some ⟨gl, 0, none⟩) xr.1.length pl) (.slice (some ⟨ge7, 0, none⟩) xr.2.length pe7) ks xr.1 xr.2) := hid ⟨D7.out.ok, ownsRow_base OL.out.1 S7.out, ownsRow_base OE7.out S7.out, fun b e => by have := K7.out b e; have := GL7.out; simp [Value.ownBlock]; omega⟩
      go_upto_region 10 with fail
      obtain ⟨Y, hY⟩ : ∃ Y, Y = w6.setCell ⟨HB, 1, none⟩ (.slice (some ⟨gl, 0, none⟩) xr.1.length pl) := ⟨_, rfl⟩
      rw [← hY]
      have yH : Y.heap[HB]? = some (.cells #[.slice ka kn kp, .slice (some ⟨gl, 0, none⟩) xr.1.length pl] 32 (0, 0)) := by rw [hY, heap_setCell_same w6 HB 1 _ _ _ D7.out.h]; rfl
      have yR : Y.heap[w.heap.size + 1 + 1 + 1]? = some (.cells #[.slice none 0 0, .slice none 0 0] 32 (0, 0)) := by rw [hY]; exact (Below.heap_setCell _ _ _ _ (Nat.ne_of_lt HR.out)).trans D7.out.q.r
      have YO : Hid (OutE w.heap.size Y (.slice ka kn kp) (.slice (some ⟨gl, 0, none⟩) xr.1.length pl) (.slice (some ⟨ge7, 0, none⟩) xr.2.length pe7) ks xr.1 xr.2) := hid (by rw [hY]; exact H6.out.set1 D7.out.h (by decide) (by decide) 1 _)
      have YB : Hid (Below w.heap.size w Y) := hid (by rw [hY]; exact D7.out.q.bel.setCell (show w.heap.size ≤ HB by have := HR.out; omega) _)
      have YR := hid yR
      obtain ⟨u0, u1, u2, u3⟩ := pair_cells yH
      obtain ⟨r0, r1, r2, r3⟩ := pair_cells yR
      have nr : ¬ (HB = w.heap.size + 1 + 1 + 1) := by have := HR.out; omega
      have nr2 : ¬ (w.heap.size + 1 + 1 + 1 = HB) := fun e => nr e.symm
      clear hY yH yR h0 h1 h2 h3
      go_region
      all_goals
       go_wp2_with fail
       obtain ⟨y0, y1⟩ := two_cells' (out_cells (u1 := .slice ka kn kp) (u2 := .slice (some ⟨gl, 0, none⟩) xr.1.length pl) YR.out)
       refine bodyPost_ret (v := .tuple #[.int .i64 (nx : Int), .agg #[.slice ka kn kp, .slice (some ⟨gl, 0, none⟩) xr.1.length pl], .slice (some ⟨ge7, 0, none⟩) xr.2.length pe7, .bool true]) (by simp [results, Tryz.results56, go_sem, y0, y1]) rfl ?_
       refine ⟨.slice ka kn kp, .slice (some ⟨gl, 0, none⟩) xr.1.length pl, .slice (some ⟨ge7, 0, none⟩) xr.2.length pe7, by rw [DN.out, DS.out], ?_, (out_bel YB.out (by omega)).drew⟩
       rw [XR.out]
       exact (YO.out.set2 YR.out (by decide) (by decide) 0 1 _ _).below ((Below.refl _ _).drew)
  ·obtain rfl : a = m := by omega
   have PQ : Hid (pk = none) := hid (by rw [PK.out]; exact FN.out (fun i hi => HF.out i hi))
   have XR : Hid (dpX ss ts l ks vs arg leaf pk = (vs, [])) := hid (by rw [PQ.out]; rfl)
   have DN : Hid (dpN ss ts leaf pk = leaf) := hid (by rw [PQ.out]; rfl)
   have DS : Hid (pk.isSome = false) := hid (by rw [PQ.out]; rfl)
   obtain ⟨h0, h1, h2, h3⟩ := pair_cells hD.h
   have K7 : Hid (∀ b, (Value.slice ka kn kp).ownBlock = some b → b < wr.heap.size) := hid (fun b e => (DD.out.ok.lt b e).2)
   clear hD
   go_wp2_with (at_builtin; refine wpList_append_opt _ rfl (.tmp 89) (.tmp 91) 30 rfl wr.heap.size 3 i0 (.int .i64 0) 1 8 Tryz.underlying30 hi0 hz0 hz1 hz2 rfl (by decide) (.slice none 0 0) 0 [] rfl (World.ownsRow_nil _ _ _ _) vA kn vc (vs.map (Value.int .i64)) rfl LV1.out (NV.out _ DD.out.q.bel) (ints_one1 vs) (by unfold maxLen; omega) (by omega) (Nat.le_refl _) ?_)
   intro v' w7 hown hgrow _
   have b7 : Below wr.heap.size wr w7 := ⟨hgrow.os, hgrow.tape, hgrow.output, hgrow.size, fun k hk => hgrow.block k hk (by simp [Value.ownBlock])⟩
   have D7 := hid (DD.out.below b7)
   have OV : Hid (w7.ownsRow wr.heap.size 3 1 v' vs.length (vs.map (Value.int .i64))) := hid (by rw [EV.out]; simpa using hown)
   have B7 := hid b7
   obtain ⟨va, vp, hvv⟩ := slice_of hown
   subst hvv
   try rw [show (0 : Nat) + kn = kn from Nat.zero_add kn]
   obtain ⟨g0, g1, g2, g3⟩ := pair_cells D7.out.h
   have H7 : Hid (∀ Z ee, Below w7.heap.size w7 Z → Z.ownsRow w.heap.size 136 4 ee 0 [] → OutE w.heap.size Z (.slice ka kn kp) (.slice va kn vp) ee ks vs []) := hid (fun Z ee hZ he => ⟨ownsRow_below D7.out.ok hZ, ownsRow_base (ownsRow_below OV.out hZ) DD.out.q.bel.size, he, fun b e e2 => by have := K7.out b e; have := (OV.out.lt b e2).1; omega⟩)
   clear hown hgrow b7 c0 c1 b0 b1 e0 e1 cl bl el h0 h1 h2 h3
   go_upto_region 13 with fail
   obtain ⟨Y, hY⟩ : ∃ Y, Y = w7.setCell ⟨HB, 1, none⟩ (.slice va kn vp) := ⟨_, rfl⟩
   rw [← hY]
   have yH : Y.heap[HB]? = some (.cells #[.slice ka kn kp, .slice va kn vp] 32 (0, 0)) := by rw [hY, heap_setCell_same w7 HB 1 _ _ _ D7.out.h]; rfl
   have yR : Y.heap[w.heap.size + 1 + 1 + 1]? = some (.cells #[.slice none 0 0, .slice none 0 0] 32 (0, 0)) := by rw [hY]; exact (Below.heap_setCell _ _ _ _ (Nat.ne_of_lt HR.out)).trans D7.out.q.r
   have YB : Hid (Below w.heap.size w Y) := hid (by rw [hY]; exact D7.out.q.bel.setCell (show w.heap.size ≤ HB by have := HR.out; omega) _)
   have YO : Hid (∀ Z ee, Below Y.heap.size Y Z → Z.ownsRow w.heap.size 136 4 ee 0 [] → OutE w.heap.size Z (.slice ka kn kp) (.slice va kn vp) ee ks vs []) := hid (fun Z ee hZ he => by
    have o1 := (H7.out w7 (.slice none 0 0) (Below.refl _ _) (World.ownsRow_nil _ _ _ _)).set1 D7.out.h (by decide) (by decide) 1 (.slice va kn vp)
    rw [← hY] at o1
    exact ⟨(o1.below hZ).k, (o1.below hZ).v, he, o1.ne⟩)
   have YR := hid yR
   obtain ⟨u0, u1, u2, u3⟩ := pair_cells yH
   obtain ⟨r0, r1, r2, r3⟩ := pair_cells yR
   have rl := lt_of_block yR
   have hl := lt_of_block yH
   have nr : ¬ (HB = w.heap.size + 1 + 1 + 1) := by have := HR.out; omega
   have nr2 : ¬ (w.heap.size + 1 + 1 + 1 = HB) := fun e => nr e.symm
   have YS : Hid (w.heap.size ≤ Y.heap.size) := hid YB.out.size
   clear hY yH yR g0 g1 g2 g3
   go_region
   all_goals
    go_wp2_with fail
    obtain ⟨y0, y1⟩ := two_cells' (block_below (out_cells (u1 := .slice ka kn kp) (u2 := .slice va kn vp) YR.out) ((below1 _ OE).drew))
    refine bodyPost_ret (v := .tuple #[.int .i64 (leaf : Int), .agg #[.slice ka kn kp, .slice va kn vp], .slice (some ⟨Y.heap.size, 0, none⟩) 0 0, .bool false]) (by simp [results, Tryz.results56, go_sem, y0, y1]) rfl ?_
    refine ⟨.slice ka kn kp, .slice va kn vp, .slice (some ⟨Y.heap.size, 0, none⟩) 0 0, by rw [DN.out, DS.out], ?_, ((out_bel YB.out (by omega)).alloc (by simpa using YS.out) _).drew⟩
    rw [XR.out]
    have o2 := ((YO.out Y (.slice none 0 0) (Below.refl _ _) (World.ownsRow_nil _ _ _ _)).set2 YR.out (by decide) (by decide) 0 1 (.slice ka kn kp) (.slice va kn vp)).below ((below1 _ OE).drew)
    have hn := new1 ((Y.setCell ⟨w.heap.size + 1 + 1 + 1, 0, none⟩ (.slice ka kn kp)).setCell ⟨w.heap.size + 1 + 1 + 1, 1, none⟩ (.slice va kn vp)) OE
    rw [World.size_setCell, World.size_setCell] at hn
    exact ⟨o2.k, o2.v, eff_none (show _ from hn) YS.out, o2.ne⟩
end Go.Proofs.YtiimkhepplkocaaGreat
