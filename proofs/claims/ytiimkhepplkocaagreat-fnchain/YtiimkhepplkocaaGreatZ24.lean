import Derived.Test.YtiimkhepplkocaaGreatZd
namespace Go.Proofs.YtiimkhepplkocaaGreat
open Go.RowKit Go.Sort
set_option linter.unusedVariables false
attribute [local go_sem ↓] Go.wp_at_zero Go.wp_at_succ
structure SB (w : World) (bx ex : Array Value) (X : World) : Prop where
 bel : Below w.heap.size w X
 b : X.heap[w.heap.size]? = some (.cells bx 32 (0, 0))
 e : X.heap[w.heap.size + 1]? = some (.cells ex 51 (0, 0))
 r : X.heap[w.heap.size + 1 + 1]? = some (.cells #[.slice none 0 0, .slice none 0 0] 32 (0, 0))
theorem SB.below {w : World} {bx ex : Array Value} {X Y : World} (h : SB w bx ex X) (hb : Below X.heap.size X Y) : SB w bx ex Y := ⟨h.bel.trans (hb.mono h.bel.size), block_below h.b hb, block_below h.e hb, block_below h.r hb⟩
theorem sb_start (w : World) (bx ex : Array Value) : SB w bx ex (((w.alloc (.cells bx 32)).alloc (.cells ex 51)).alloc (.cells #[.slice none 0 0, .slice none 0 0] 32)) := by
 have h2 := heap_alloc_new (w.alloc (.cells bx 32)) (.cells ex 51)
 have h3 := heap_alloc_new ((w.alloc (.cells bx 32)).alloc (.cells ex 51)) (.cells #[.slice none 0 0, .slice none 0 0] 32)
 simp only [World.size_alloc] at h2 h3
 exact ⟨below3 _ _ _ _, block_below (block_below (heap_alloc_new w _) (below1 _ _)) (below1 _ _), block_below h2 (below1 _ _), h3⟩
theorem mom_out {w X Y : World} {H B : Nat} {ks vs : List Int} {es : List EffD} {kg kc vg vc : Nat} {ev x y : Value} (ok : Own X B (.slice (some ⟨kg, 0, none⟩) ks.length kc) ks) (ov : Own X B (.slice (some ⟨vg, 0, none⟩) vs.length vc) vs) (hne : kg ≠ vg) (oe : X.ownsRow B 136 4 ev es.length (effCells es)) (hB : w.heap.size ≤ B) (hb : Below X.heap.size X Y) (hH : Y.heap[H]? = some (.cells #[x, y] 32 (0, 0))) :
  OutE w.heap.size ((Y.setCell ⟨H, 0, none⟩ (.slice (some ⟨kg, 0, none⟩) ks.length kc)).setCell ⟨H, 1, none⟩ (.slice (some ⟨vg, 0, none⟩) vs.length vc)) (.slice (some ⟨kg, 0, none⟩) ks.length kc) (.slice (some ⟨vg, 0, none⟩) vs.length vc) ev ks vs es := by
 have h5 : OutE w.heap.size Y (.slice (some ⟨kg, 0, none⟩) ks.length kc) (.slice (some ⟨vg, 0, none⟩) vs.length vc) ev ks vs es :=
  (OutE.mk (ownsRow_base ok.1 hB) (ownsRow_base ov.1 hB) (ownsRow_base oe hB) (fun b e => by simp [Value.ownBlock] at e ⊢; omega) : OutE w.heap.size X _ _ _ _ _ _).below hb
 exact h5.set2 hH (by decide) (by decide) 0 1 _ _
theorem GuardAt.but {P0 : Nat} {X Y : World} {B : Nat} {v : Int} {its : List (Int × Int)} {g : Value} (h : GuardAt X B v its g) (ht : ButM P0 X Y) (hm : ∃ es c, X.heap[P0]? = some (.map es c)) : GuardAt Y 0 v its g := by
 rcases h with h | ⟨h0, t, P, h1, h2, h3, h4⟩
 ·exact .inl h
 ·exact .inr ⟨h0, t, P, h1, h2, Nat.zero_le _, ht.box hm h4⟩
set_option maxRecDepth 100000 in
set_option maxHeartbeats 16000000 in
theorem step_any {w0 : World} {cx lx : Array Value} {N : Nat → Nat} {tg tcap : Nat} {ss : List StD} {ts : List TrD} {n : Nat} {l : LimD} {B P M tn : Nat} {E F : List Value} {ev xv : Value} {L lets act : Nat → Value} (hC : Chk ss ts l) (hn : ss.length = n) (htn : ts.length = tn) (leaf : Nat) (hlf : leaf < n) (sg arg : Int) (kA vA : Option Addr) (kn kc vn vc : Nat) (ks vs : List Int) (w : World) (h : L2 w0 cx lx N tg tcap ss ts n l B P M tn E F ev xv L lets act w) (hkn : kn ≤ 1048576) (hvn : vn ≤ 1048576) (hk : SliceOf w kA kn ks) (hv : SliceOf w vA vn vs) (hbp : ks.length = vs.length ∧ vs.length ≤ 32 ∧ ∀ i, i < ks.length → 1 ≤ ks.getD i 0 ∧ ks.getD i 0 ≤ 7) (hlv : l.v = vs.length) :
  Calls Tryz.prog 60 #[.pointer (some ⟨M, 0, none⟩), .int .i64 (leaf : Int), .agg #[.slice kA kn kc, .slice vA vn vc], .agg #[.int .i64 sg, .int .i64 arg]] w fun e w' => ∃ kv vv ee, e = .returned (.tuple #[.int .i64 (dpN ss ts leaf (pickX ss ts l vs arg leaf sg) : Nat), .agg #[kv, vv], ee, .bool (pickX ss ts l vs arg leaf sg).isSome]) ∧ OutE w.heap.size w' kv vv ee ks (dpX ss ts l ks vs arg leaf (pickX ss ts l vs arg leaf sg)).1 (dpX ss ts l ks vs arg leaf (pickX ss ts l vs arg leaf sg)).2 ∧ ButM P w w' := by
 subst hn
 have EN := hid (sb_start w #[.slice kA kn kc, .slice vA vn vc] #[.int .i64 sg, .int .i64 arg])
 obtain ⟨W, hW⟩ : ∃ W, W = ((w.alloc (.cells #[.slice kA kn kc, .slice vA vn vc] 32)).alloc (.cells #[.int .i64 sg, .int .i64 arg] 51)).alloc (.cells #[.slice none 0 0, .slice none 0 0] 32) := ⟨_, rfl⟩
 rw [← hW] at EN
 have CM := hid (momentOf_any kA vA kn kc vn vc ks vs arg W hkn hvn (hk.below EN.out.bel) (hv.below EN.out.bel))
 rw [hW] at CM
 have HI : Hid (∀ w', Below w.heap.size w w' → L2 w0 cx lx N tg tcap ss ts ss.length l B P M tn E F ev xv L lets act w') := hid (fun w' hb => h.below hb)
 have CL := hid (fun w' (hb : Below w.heap.size w w') => cell_any hC rfl htn leaf hlf sg w' (HI.out w' hb))
 have WY := hid (fun q (hq : q ∈ cands ts (up ss leaf) sg) => way_of hC hlf hq)
 have RL := hid (fun q (hq : q ∈ cands ts (up ss leaf) sg) => run_len hC (way_of hC hlf hq))
 have HP := hid hbp
 have HLV := hid hlv
 have HT := hid htn
 have HC := hid hC
 have HW := hid hW
 have LF := hid hlf
 have FA := hid (fun a ha h0 h1 => find_at (K := cands ts (up ss leaf) sg) (f := fun q => letB l.v (ts.getD q tr0).guard vs arg) (a := a) ha h0 h1)
 have FN := hid (fun h0 => find_no (K := cands ts (up ss leaf) sg) (f := fun q => letB l.v (ts.getD q tr0).guard vs arg) h0)
 obtain ⟨pk, hpk⟩ : ∃ p, p = pickX ss ts l vs arg leaf sg := ⟨_, rfl⟩
 have PK : Hid (pk = (cands ts (up ss leaf) sg).find? (fun q => letB l.v (ts.getD q tr0).guard vs arg)) := hid hpk
 rw [← hpk]
 obtain ⟨K, hK⟩ : ∃ K, K = cands ts (up ss leaf) sg := ⟨_, rfl⟩
 rw [← hK] at CL WY RL PK FA FN
 have LK : Hid (K.length ≤ 100000) := hid (by
  rw [hK]
  have h1 := cands_len ts sg (up ss leaf)
  have h2 := up_len hC.good.tree leaf hlf
  have h3 := hC.good.n2
  have h4 := hC.good.tn
  have h5 := Nat.mul_le_mul (show (up ss leaf).length ≤ 200 by omega) h4
  omega)
 obtain ⟨m, hm⟩ : ∃ m, m = K.length := ⟨_, rfl⟩
 have EM := hid hm
 rw [← hm] at CL LK FA FN
 clear h hk hv hbp hlv htn hC hW hK hm hpk
 go_enter Tryz.func60, Tryz.ntmps60
 go_upto_region 2 with (go_at_call 67; refine CM.out.mono ?_; rintro e w1 ⟨mb, rfl, hmo, hb⟩; rw [← HW.out] at hmo hb; have M1 := hid hmo; have B1 := hid (EN.out.below hb); have S1 := hid hb.size; clear hmo hb)
 have I1 := HI.out _ B1.out.bel
 have t0 := (five_cells I1.l1.mac.box).1
 have t1 := tree_cell I1.l1.mb.tr LF.out
 obtain ⟨e0, e1, _, _⟩ := pair_cells B1.out.e
 have li : (leaf : Int) < (ss.length : Int) := by have := LF.out; omega
 have MP : Hid (∃ es c, w1.drew.heap[P]? = some (.map es c)) := hid ⟨_, _, I1.l1.mb.mp⟩
 have D1 := hid (B1.out.below ((Below.refl _ _).drew))
 have M1d := hid (M1.out.below ((Below.refl _ _).drew))
 have I2 := hid (HI.out _ D1.out.bel)
 have KS : Hid (∀ X, ButM P w1.drew X → X.cell? ⟨M, 0, none⟩ = some (.slice (some ⟨tg, 0, none⟩) ss.length tcap) ∧ X.cell? ⟨tg, leaf, none⟩ = some (.pointer (some ⟨N leaf, 0, none⟩)) ∧ X.cell? ⟨w.heap.size + 1, 0, none⟩ = some (.int .i64 sg)) := hid (fun X hb => ⟨(five_cells (hb.box MP.out I2.out.l1.mac.box)).1, tree_cell (hb.own MP.out I2.out.l1.mb.tr) LF.out, (pair_cells (hb.box MP.out D1.out.e)).1⟩)
 have l0 : M < w1.heap.size := lt_of_block I1.l1.mac.box
 clear I1 hlf
 go_region_held3 (fun X => X.cell? ⟨M, 0, none⟩ = some (.slice (some ⟨tg, 0, none⟩) ss.length tcap) ∧ X.cell? ⟨tg, leaf, none⟩ = some (.pointer (some ⟨N leaf, 0, none⟩)) ∧ X.cell? ⟨w.heap.size + 1, 0, none⟩ = some (.int .i64 sg))
  (first | with_reducible exact KS.out _ BM.out | exact KS.out _ (ButM.refl _ _))
  (first
   | (go_at_call 115; refine (CL.out _ D1.out.bel).mono ?_; rintro e w2 ⟨ro, rc, rfl, hg, hbm⟩; have BM := hid hbm; have T2 : Hid (St w P mb W.heap.size w1.drew.heap.size ss ts l leaf lets ks vs arg K (.slice ro m rc) w2) := hid ⟨ButM.after D1.out.bel hbm, hbm.box MP.out D1.out.r, M1d.out.but hbm MP.out, hg, fun q hq => (I2.out.gd q (by rw [← HT.out]; exact hq)).1.but hbm MP.out⟩; have Z2 : Hid (W.heap.size ≤ w2.heap.size) := hid (Nat.le_trans S1.out hbm.size); clear hg hbm))
 all_goals
  clear t0 t1 e0 e1 l0
  go_wp2_with fail
  go_loopg [31] m (fun mm i X => ∃ a : Nat, a ≤ m ∧ mm = m - a ∧ i = .int .i64 a ∧ St w P mb W.heap.size w1.drew.heap.size ss ts l leaf lets ks vs arg K (.slice ro m rc) X ∧ W.heap.size ≤ X.heap.size ∧ Hid (∀ i, i < a → letB l.v (ts.getD (K.getD i 0) tr0).guard vs arg = false))
  case atStart => exact ⟨0, by omega, by omega, rfl, T2.out, Z2.out, hid (fun i hi => absurd hi (by omega))⟩
  case round =>
   obtain ⟨a, ha, rfl, rfl, hS, hZ, HF⟩ := hrel
   have TT := hid hS
   by_cases hlt : a < m
   ·obtain ⟨g, ev1, en1, ec1, nv1, nn1, nc1, P1, lv, LS, hro, y0, y1, y2, y3, y4, y5, hLS, hLi⟩ := Gr.cells hS.gr (a := a) (by rw [← EM.out]; exact hlt)
    obtain ⟨q, hq⟩ : ∃ q, q = K.getD a 0 := ⟨_, rfl⟩
    rw [← hq] at y0 y3 y5 hLi
    have hqm : q ∈ K := by rw [hq, List.getD_eq_getElem?_getD, List.getElem?_eq_getElem (by rw [← EM.out]; exact hlt)]; simp
    have HQ := hid hq
    have QM := hid hqm
    subst hro
    have hgd := hS.gd q (WY.out q hqm).lt
    obtain ⟨nx, hnx⟩ : ∃ x, x = nxX ss leaf (ts.getD q tr0) := ⟨_, rfl⟩
    rw [← hnx] at y3
    have NX := hid hnx
    have LI := hid hLi
    have LL := hid hLS
    have ai : (a : Int) < (m : Int) := by omega
    have a5 : a ≤ 100000 := by have := LK.out; omega
    obtain ⟨b, hb⟩ : ∃ b, b = letB l.v (ts.getD q tr0).guard vs arg := ⟨_, rfl⟩
    have HB := hid hb
    clear hS hq hqm hnx hLS hLi hb
    cases b with
    | false =>
     rcases hgd with ⟨hg0, hgv⟩ | ⟨hg0, tq, P2, ht, hgv, _, hP2⟩
     ·have := HB.out; rw [hg0, letB_nil] at this; cases this
     ·have EV : Hid (decide (¬ evalT vs arg tq = 0) = false) := hid (by rw [← letB_some hg0 ht]; exact HB.out.symm)
      rw [hgv] at y5
      have CG := hid (fun X (hX : Below wr.heap.size wr X) => guard1_any ht P2 mb W.heap.size ks vs arg [] HLV.out X (block_below hP2 hX) (TT.out.mom.below hX))
      rw [EV.out] at CG
      clear hgv ht hP2 hg0
      go_wp2_with (go_at_call 179; refine (CG.out _ (below1 _ _)).mono ?_; rintro e w3 ⟨rfl, hb⟩; have T3 := hid ((TT.out.below (below1 _ _)).below hb); have Z3 := hid (Nat.le_trans hZ (Nat.le_trans (by simp) hb.size)); clear hb)
      go_roundg (m - (a + 1))
      case measure => omega
      case rel => exact ⟨a + 1, by omega, rfl, by go_num, T3.out, Z3.out, hid (fun i hi => by
       by_cases h : i < a
       ·exact HF.out i h
       ·obtain rfl : i = a := by omega
        rw [← HQ.out]; exact HB.out.symm)⟩
    | true =>
     have PQ : Hid (pk = some q) := hid (by rw [PK.out, HQ.out]; exact FA.out a hlt (fun i hi => HF.out i hi) (by rw [← HQ.out]; exact HB.out.symm))
     have CR := hid (fun X (hl : Lists X l P1 lv LS (runX ss leaf (ts.getD q tr0))) (hB : W.heap.size ≤ X.heap.size) (hM : Mom X W.heap.size mb ks vs arg []) => runAll_any l P1 lv LS (runX ss leaf (ts.getD q tr0)) mb W.heap.size ks vs arg [] X hl HLV.out HP.out.1 HP.out.2.2 LL.out (by have := RL.out q QM.out; simp only [List.length_nil]; omega) hB hM)
     obtain ⟨xr, hxr⟩ : ∃ x, x = execS l.v ks arg vs (runX ss leaf (ts.getD q tr0)).flatten := ⟨_, rfl⟩
     rw [← hxr] at CR
     have XR : Hid (dpX ss ts l ks vs arg leaf pk = xr) := hid (by rw [PQ.out, hxr]; rfl)
     have DN : Hid (dpN ss ts leaf pk = nx) := hid (by rw [PQ.out, NX.out]; rfl)
     have DS : Hid (pk.isSome = true) := hid (by rw [PQ.out]; rfl)
     clear hxr
     obtain ⟨lq, hlq⟩ : ∃ x, x = lets q := ⟨_, rfl⟩
     rw [← hlq] at y5 hgd
     have RB : Hid (∀ X, Below (wr.alloc (.cells #[.int .i64 (q : Int), .slice ev1 en1 ec1, .slice nv1 nn1 nc1, .int .i64 (nx : Nat), .func (.func 163) #[] #[.pointer (some ⟨P1, 0, none⟩)], lq] 196)).heap.size (wr.alloc (.cells #[.int .i64 (q : Int), .slice ev1 en1 ec1, .slice nv1 nn1 nc1, .int .i64 (nx : Nat), .func (.func 163) #[] #[.pointer (some ⟨P1, 0, none⟩)], lq] 196)) X → X.heap[wr.heap.size]? = some (.cells #[.int .i64 (q : Int), .slice ev1 en1 ec1, .slice nv1 nn1 nc1, .int .i64 (nx : Nat), .func (.func 163) #[] #[.pointer (some ⟨P1, 0, none⟩)], lq] 196 (0, 0)) ∧ Below wr.heap.size wr X) := hid (fun X hb => ⟨block_below (heap_alloc_new wr _) hb, (below1 _ _).trans (hb.mono (by simp))⟩)
     have CG := hid (fun (X : World) (hX : Below wr.heap.size wr X) (tq : Tree) (P2 : Nat) (ht : liftT (ts.getD q tr0).guard l.v = some tq) (hP2 : wr.heap[P2]? = some (.cells #[tv tq] 138 (0, 0))) => guard1_any ht P2 mb W.heap.size ks vs arg [] HLV.out X (block_below hP2 hX) (TT.out.mom.below hX))
     rcases hgd with ⟨hg0, hgv⟩ | ⟨hg0, tq, P2, ht, hgv, _, hP2⟩
     case inr =>
      have EV : Hid (decide (¬ evalT vs arg tq = 0) = true) := hid (by rw [← letB_some hg0 ht]; exact HB.out.symm)
      have CG2 := hid (fun X hX => CG.out X hX tq P2 ht hP2)
      rw [EV.out] at CG2
      subst hgv
      clear ht hP2 hg0 hlq EV CG
      go_wp2_with (first
       | (go_at_call 179; refine (CG2.out _ (below1 _ _)).mono ?_; rintro e w3 ⟨rfl, hb⟩; have R3 := hid (RB.out _ hb); have T3 := hid (TT.out.below R3.out.2); have Z3 := hid (Nat.le_trans hZ R3.out.2.size); obtain ⟨x0, x1, x2, x3, x4, x5⟩ := six_cells R3.out.1; clear hb)
       | (go_at_call 163; refine (CR.out _ (LI.out.below R3.out.2) Z3.out T3.out.mom).mono ?_; rintro e w5 ⟨rfl, hm, hst⟩; have S5 := hid hst; obtain ⟨kg, kc', vg, vc', ee, m1, ok, ov, hne, hmb, hev, hev0⟩ := hm; obtain ⟨ea, en, ec, rfl⟩ : ∃ ea en ec, ee = .slice ea en ec := (by rcases hev.2 with ⟨h, _⟩ | ⟨g, cap, cur, h, _⟩ <;> exact ⟨_, _, _, h⟩); have M5 := hid m1; have OK5 := hid ok; have OV5 := hid ov; have OE5 := hid hev; obtain ⟨t0, t1, t2, t3⟩ := quad_cells m1; clear hst m1 ok ov hev hev0))
      have R5 := hid (S5.out.box R3.out.1 (by decide) (by decide) (by decide))
      have Z5 := hid (S5.out.box T3.out.zb (by decide) (by decide) (by decide))
      have N5 : Hid (ButM P w w5) := hid (T3.out.but.more (S5.out.below Z3.out) EN.out.bel.size)
      obtain ⟨x0, x1, x2, x3, x4, x5⟩ := six_cells R5.out
      have nz : w.heap.size + 1 + 1 < W.heap.size := lt_of_block EN.out.r
      have nmb : ¬ (mb = w.heap.size + 1 + 1) := by omega
      have nmb2 : ¬ (w.heap.size + 1 + 1 = mb) := fun e => nmb e.symm
      have nrb : ¬ (wr.heap.size = w.heap.size + 1 + 1) := by omega
      have nrb2 : ¬ (w.heap.size + 1 + 1 = wr.heap.size) := fun e => nrb e.symm
      have CBk := hid (bank_any mb _ _ _ _ w5.drew ⟨_, _, _, rfl⟩ ⟨_, _, _, rfl⟩ M5.out)
      clear t0 t1 t2 x0 x1 x2 x4 x5 nz
      go_region_held3 (fun w' => w'.cell? ⟨wr.heap.size, 3, none⟩ = some (.int .i64 (nx : Nat)) ∧ w'.cell? ⟨mb, 3, none⟩ = some (.slice ea en ec)) (first | (with_reducible exact SX.out) | go_keep | (exact And.intro ((cell_far (fun e => nrb e)).trans ((cell_far (fun e => nrb e)).trans SX.out.1)) ((cell_far (fun e => nmb e)).trans ((cell_far (fun e => nmb e)).trans SX.out.2))))
       (first
        | (go_at_call 69; refine CBk.out.mono ?_; rintro e w6 ⟨rfl, hb⟩; have B6 : Hid (Below w5.heap.size w5 w6) := hid (dn0 hb); have SX := hid (And.intro ((dn0 hb).cell (p := ⟨wr.heap.size, 3, none⟩) (lt_of_block R5.out) |>.trans x3) ((dn0 hb).cell (p := ⟨mb, 3, none⟩) (lt_of_block M5.out) |>.trans t3)); have Z6 := hid (block_below Z5.out (dn0 hb)); obtain ⟨p0, p1, p2, p3⟩ := pair_cells Z6.out; clear hb))
      all_goals
       go_wp2_with fail
       obtain ⟨z0, z1⟩ := two_cells' (out_cells (u1 := .slice (some ⟨kg, 0, none⟩) ks.length kc') (u2 := .slice (some ⟨vg, 0, none⟩) xr.1.length vc') Z6.out)
       refine bodyPost_ret (v := .tuple #[.int .i64 (nx : Nat), .agg #[.slice (some ⟨kg, 0, none⟩) ks.length kc', .slice (some ⟨vg, 0, none⟩) xr.1.length vc'], .slice ea en ec, .bool true]) (by simp [results, Tryz.results60, go_sem, z0, z1]) rfl ?_
       refine ⟨.slice (some ⟨kg, 0, none⟩) ks.length kc', .slice (some ⟨vg, 0, none⟩) xr.1.length vc', .slice ea en ec, by rw [DN.out, DS.out], ?_, N5.out.more (C := w.heap.size) (((B6.out.mono N5.out.size).setCell (show w.heap.size ≤ w.heap.size + 1 + 1 by omega) _).setCell (show w.heap.size ≤ w.heap.size + 1 + 1 by omega) _) (Nat.le_refl _)⟩
       rw [XR.out]
       exact mom_out OK5.out OV5.out hne (by simpa using OE5.out) EN.out.bel.size B6.out Z6.out
     case inl =>
      subst hgv
      clear hg0 hlq CG
      go_wp2_with (first
       | (go_at_call 178; refine (alwaysLets_any _ _).mono ?_; rintro e w3 ⟨rfl, hw⟩; have R3 := hid (RB.out w3 (by rw [hw]; exact Below.refl _ _)); have T3 := hid (TT.out.below R3.out.2); have Z3 := hid (Nat.le_trans hZ R3.out.2.size); obtain ⟨x0, x1, x2, x3, x4, x5⟩ := six_cells R3.out.1; clear hw)
       | (go_at_call 163; refine (CR.out _ (LI.out.below R3.out.2) Z3.out T3.out.mom).mono ?_; rintro e w5 ⟨rfl, hm, hst⟩; have S5 := hid hst; obtain ⟨kg, kc', vg, vc', ee, m1, ok, ov, hne, hmb, hev, hev0⟩ := hm; obtain ⟨ea, en, ec, rfl⟩ : ∃ ea en ec, ee = .slice ea en ec := (by rcases hev.2 with ⟨h, _⟩ | ⟨g, cap, cur, h, _⟩ <;> exact ⟨_, _, _, h⟩); have M5 := hid m1; have OK5 := hid ok; have OV5 := hid ov; have OE5 := hid hev; obtain ⟨t0, t1, t2, t3⟩ := quad_cells m1; clear hst m1 ok ov hev hev0))
      have R5 := hid (S5.out.box R3.out.1 (by decide) (by decide) (by decide))
      have Z5 := hid (S5.out.box T3.out.zb (by decide) (by decide) (by decide))
      have N5 : Hid (ButM P w w5) := hid (T3.out.but.more (S5.out.below Z3.out) EN.out.bel.size)
      obtain ⟨x0, x1, x2, x3, x4, x5⟩ := six_cells R5.out
      have nz : w.heap.size + 1 + 1 < W.heap.size := lt_of_block EN.out.r
      have nmb : ¬ (mb = w.heap.size + 1 + 1) := by omega
      have nmb2 : ¬ (w.heap.size + 1 + 1 = mb) := fun e => nmb e.symm
      have nrb : ¬ (wr.heap.size = w.heap.size + 1 + 1) := by omega
      have nrb2 : ¬ (w.heap.size + 1 + 1 = wr.heap.size) := fun e => nrb e.symm
      have CBk := hid (bank_any mb _ _ _ _ w5.drew ⟨_, _, _, rfl⟩ ⟨_, _, _, rfl⟩ M5.out)
      clear t0 t1 t2 x0 x1 x2 x4 x5 nz
      go_region_held3 (fun w' => w'.cell? ⟨wr.heap.size, 3, none⟩ = some (.int .i64 (nx : Nat)) ∧ w'.cell? ⟨mb, 3, none⟩ = some (.slice ea en ec)) (first | (with_reducible exact SX.out) | go_keep | (exact And.intro ((cell_far (fun e => nrb e)).trans ((cell_far (fun e => nrb e)).trans SX.out.1)) ((cell_far (fun e => nmb e)).trans ((cell_far (fun e => nmb e)).trans SX.out.2))))
       (first
        | (go_at_call 69; refine CBk.out.mono ?_; rintro e w6 ⟨rfl, hb⟩; have B6 : Hid (Below w5.heap.size w5 w6) := hid (dn0 hb); have SX := hid (And.intro ((dn0 hb).cell (p := ⟨wr.heap.size, 3, none⟩) (lt_of_block R5.out) |>.trans x3) ((dn0 hb).cell (p := ⟨mb, 3, none⟩) (lt_of_block M5.out) |>.trans t3)); have Z6 := hid (block_below Z5.out (dn0 hb)); obtain ⟨p0, p1, p2, p3⟩ := pair_cells Z6.out; clear hb))
      all_goals
       go_wp2_with fail
       obtain ⟨z0, z1⟩ := two_cells' (out_cells (u1 := .slice (some ⟨kg, 0, none⟩) ks.length kc') (u2 := .slice (some ⟨vg, 0, none⟩) xr.1.length vc') Z6.out)
       refine bodyPost_ret (v := .tuple #[.int .i64 (nx : Nat), .agg #[.slice (some ⟨kg, 0, none⟩) ks.length kc', .slice (some ⟨vg, 0, none⟩) xr.1.length vc'], .slice ea en ec, .bool true]) (by simp [results, Tryz.results60, go_sem, z0, z1]) rfl ?_
       refine ⟨.slice (some ⟨kg, 0, none⟩) ks.length kc', .slice (some ⟨vg, 0, none⟩) xr.1.length vc', .slice ea en ec, by rw [DN.out, DS.out], ?_, N5.out.more (C := w.heap.size) (((B6.out.mono N5.out.size).setCell (show w.heap.size ≤ w.heap.size + 1 + 1 by omega) _).setCell (show w.heap.size ≤ w.heap.size + 1 + 1 by omega) _) (Nat.le_refl _)⟩
       rw [XR.out]
       exact mom_out OK5.out OV5.out hne (by simpa using OE5.out) EN.out.bel.size B6.out Z6.out
   ·obtain rfl : a = m := by omega
    have PQ : Hid (pk = none) := hid (by rw [PK.out]; exact FN.out (fun i hi => HF.out i hi))
    have XR : Hid (dpX ss ts l ks vs arg leaf pk = (vs, [])) := hid (by rw [PQ.out]; rfl)
    have DN : Hid (dpN ss ts leaf pk = leaf) := hid (by rw [PQ.out]; rfl)
    have DS : Hid (pk.isSome = false) := hid (by rw [PQ.out]; rfl)
    obtain ⟨kg, kc', vg, vc', ee, m1, ok, ov, hne, hmb, hev, hev0⟩ := hS.mom
    obtain ⟨ea, en, ec, rfl⟩ : ∃ ea en ec, ee = .slice ea en ec := (by rcases hev.2 with ⟨h, _⟩ | ⟨g, cap, cur, h, _⟩ <;> exact ⟨_, _, _, h⟩)
    have M5 := hid m1
    have OK5 := hid ok
    have OV5 := hid ov
    have OE5 := hid hev
    obtain ⟨t0, t1, t2, t3⟩ := quad_cells m1
    have Z5 := hid hS.zb
    have N5 := hid hS.but
    have nz : w.heap.size + 1 + 1 < W.heap.size := lt_of_block EN.out.r
    have nmb : ¬ (mb = w.heap.size + 1 + 1) := by omega
    have nmb2 : ¬ (w.heap.size + 1 + 1 = mb) := fun e => nmb e.symm
    have CBk := hid (bank_any mb _ _ _ _ wr.drew ⟨_, _, _, rfl⟩ ⟨_, _, _, rfl⟩ M5.out)
    clear t0 t1 t2 nz hS m1 ok ov hev hev0
    go_wp2_with fail
    go_region_held3 (fun w' => w'.cell? ⟨mb, 3, none⟩ = some (.slice ea en ec)) (first | (with_reducible exact SX.out) | go_keep | (exact ((cell_far (fun e => nmb e)).trans ((cell_far (fun e => nmb e)).trans SX.out))))
     (first
      | (go_at_call 69; refine CBk.out.mono ?_; rintro e w6 ⟨rfl, hb⟩; have B6 : Hid (Below wr.heap.size wr w6) := hid (dn0 hb); have SX := hid ((dn0 hb).cell (p := ⟨mb, 3, none⟩) (lt_of_block M5.out) |>.trans t3); have Z6 := hid (block_below Z5.out (dn0 hb)); obtain ⟨p0, p1, p2, p3⟩ := pair_cells Z6.out; clear hb))
    all_goals
     go_wp2_with fail
     obtain ⟨z0, z1⟩ := two_cells' (out_cells (u1 := .slice (some ⟨kg, 0, none⟩) ks.length kc') (u2 := .slice (some ⟨vg, 0, none⟩) vs.length vc') Z6.out)
     refine bodyPost_ret (v := .tuple #[.int .i64 (leaf : Int), .agg #[.slice (some ⟨kg, 0, none⟩) ks.length kc', .slice (some ⟨vg, 0, none⟩) vs.length vc'], .slice ea en ec, .bool false]) (by simp [results, Tryz.results60, go_sem, z0, z1]) rfl ?_
     refine ⟨.slice (some ⟨kg, 0, none⟩) ks.length kc', .slice (some ⟨vg, 0, none⟩) vs.length vc', .slice ea en ec, by rw [DN.out, DS.out], ?_, N5.out.more (C := w.heap.size) (((B6.out.mono N5.out.size).setCell (show w.heap.size ≤ w.heap.size + 1 + 1 by omega) _).setCell (show w.heap.size ≤ w.heap.size + 1 + 1 by omega) _) (Nat.le_refl _)⟩
     rw [XR.out]
     exact mom_out OK5.out OV5.out hne OE5.out EN.out.bel.size B6.out Z6.out
end Go.Proofs.YtiimkhepplkocaaGreat
