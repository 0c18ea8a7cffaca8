import Derived.Test.YthaklmdhkkfigaaGreatKz6
import Derived.Test.YthaklmdhkkfigaaGreatZb
namespace Go.Proofs.YthaklmdhkkfigaaGreat
open Go.RowKit Go.Sort
set_option linter.unusedVariables false
attribute [local go_sem ↓] Go.wp_at_zero Go.wp_at_succ

/-- What a call of the program answers. -/
def AnsI (w w' : World) (e : Ending) (r : KerD × List (Int × Int × Int)) : Prop := ∃ (L V Q D E F : Value) (vs vq vd : List Value) (ra : Option Addr) (rn rc : Nat), e = .returned (.tuple #[.agg #[L, V, Q, D, E, F], .slice ra rn rc]) ∧ Rw w' w.heap.size L V Q D E F vs vq vd r.1 ∧ Far6 L Q D E F vs vq vd ∧ RcRow w' w.heap.size (.slice ra rn rc) r.2 ∧ Below w.heap.size w w'
theorem al_left {ts : List (Int × Int)} {kd : KerD} {n : Nat} (h : kd.left.length = n) : kd.left = (alL ts kd n).map (fun x => x.2.1) := by
  apply List.ext_getElem
  · simp [alL, h]
  · intro i h1 h2
    simp [alL, alF, List.getD_eq_getElem?_getD, h1]
theorem al_every {ts : List (Int × Int)} {kd : KerD} {n : Nat} (h : kd.every.length = n) : kd.every = (alL ts kd n).map (fun x => x.2.2) := by
  apply List.ext_getElem
  · simp [alL, h]
  · intro i h1 h2
    simp [alL, alF, List.getD_eq_getElem?_getD, h1]
/-- The kernel's lists keep their lengths. -/
structure SameK (k k' : KerD) : Prop where
  l : k'.leaf.length = k.leaf.length
  v : k'.vals.length = k.vals.length
  q : k'.qs.length = k.qs.length
  d : k'.ds.length = k.ds.length
  e : k'.left = k.left
  f : k'.every = k.every
theorem SameK.refl (k : KerD) : SameK k k := ⟨rfl, rfl, rfl, rfl, rfl, rfl⟩
theorem putK_same (os : List ObD) (k : KerD) (rs : List (Int × Int × Int)) (i : Nat) (x : Int × Int) : SameK k (putK os k rs i x).1 := by
  unfold putK
  split
  · exact SameK.refl k
  · exact ⟨rfl, rfl, by simp, rfl, rfl, rfl⟩
/-- Six cells are put into a result's box. -/
theorem ans_put {w X : World} {H : Nat} {p0 p1 p2 p3 p4 p5 L V Q D E F : Value} {vs vq vd : List Value} {k : KerD} {rv : Value} {rs : List (Int × Int × Int)} {B : Nat} (o : X.heap[H]? = some (.cells #[p0, p1, p2, p3, p4, p5] 35 (0, 0))) (hb : Below w.heap.size w X) (hB : w.heap.size ≤ H) (hr : Rw X B L V Q D E F vs vq vd k) (hB2 : w.heap.size ≤ B) (hc : RcRow X w.heap.size rv rs) : (put6 X H L V Q D E F).heap[H]? = some (.cells #[L, V, Q, D, E, F] 35 (0, 0)) ∧ Rw (put6 X H L V Q D E F) w.heap.size L V Q D E F vs vq vd k ∧ RcRow (put6 X H L V Q D E F) w.heap.size rv rs ∧ Below w.heap.size w (put6 X H L V Q D E F) := by
  have s := set6 (a := L) (b := V) (c := Q) (d := D) (e := E) (f := F) o hb hB
  have h := hr.kp s.2.1 (fun _ h => h)
  refine ⟨s.1, ⟨row_base h.l hB2, ⟨row_base h.v.row hB2, h.v.len, fun i hi => row_base (h.v.inn i hi) hB2⟩, ⟨row_base h.q.row hB2, h.q.len, fun i hi => row_base (h.q.inn i hi) hB2⟩, ⟨row_base h.d.row hB2, h.d.len, fun i hi => row_base (h.d.inn i hi) hB2⟩, row_base h.e hB2, row_base h.f hB2⟩, ?_, s.2.2⟩
  have t : Tn (· = H) X (put6 X H L V Q D E F) := (((((Tn.one _).trans (Tn.one _)).trans (Tn.one _)).trans (Tn.one _)).trans (Tn.one _)).trans (Tn.one _)
  exact row_tn hc t (by rintro b cs rfl he; rw [o] at he; simp at he)
set_option maxRecDepth 100000 in
set_option maxHeartbeats 1600000 in
theorem implPost_no (sg obj sig arg : Int) (eo xo : Option Addr) (en ec xn xc : Nat) (os : List ObD) (ts : List (Int × Int)) (h : KerS) (kd : KerD) (w : World) (hen : en ≤ 9223372036854775807) (hec : en ≤ ec) (hxn : xn ≤ 9223372036854775807) (hm : KerMax h) (he : ObsOf w eo en os) (hx : ItemsOf w xo xn ts) (hk : KerOf w h kd) (hno : kerB sg os ts kd = false) :
    Calls Tryz.prog 11 #[sysV sg eo xo en ec xn xc, kerV h, .int .i64 obj, .int .i64 sig, .int .i64 arg] w fun e w' => AnsI w w' e (kd0, []) := by
  have HC := hid (fun W (hW : Below w.heap.size w W) => implKernelOK_any sg eo xo en ec xn xc os ts h kd W hen hec hxn hm (he.below hW) (hx.below hW) (hk.below hW))
  rw [hno] at HC
  obtain ⟨lo, ln, lc, vo, vn, vc, qo, qn, qc, po, pn, pc, fo, fn, fc, go, gn, gc⟩ := h
  unfold kerV at HC ⊢
  dsimp only at HC ⊢
  clear he hx hk hm hno
  have B3 := hid (below3 w (.cells #[.int .i64 sg, .slice eo en ec, .slice xo xn xc] 42) (.cells #[.slice lo ln lc, .slice vo vn vc, .slice qo qn qc, .slice po pn pc, .slice fo fn fc, .slice go gn gc] 35) OZ)
  go_enter Tryz.func11, Tryz.ntmps11
  go_wp2_with (go_at_call 39; with_reducible refine (HC.out _ B3.out).mono ?_; rintro e w1 ⟨rfl, hb⟩; have R1 := block_below (heap_alloc_new ((w.alloc (.cells #[.int .i64 sg, .slice eo en ec, .slice xo xn xc] 42)).alloc (.cells #[.slice lo ln lc, .slice vo vn vc, .slice qo qn qc, .slice po pn pc, .slice fo fn fc, .slice go gn gc] 35)) OZ) hb; simp only [World.size_alloc] at R1; obtain ⟨y0, y1, y2, y3, y4, y5⟩ := six_cells R1; obtain ⟨f0, f1, f2, f3, f4, f5⟩ := six_froz R1; have hl := lt_of_block R1; have RH := hid R1; have BB := hid (B3.out.trans (hb.mono B3.out.size)); clear R1 hb)
  have S6 := set6 (a := nilV) (b := nilV) (c := nilV) (d := nilV) (e := nilV) (f := nilV) RH.out BB.out (by omega)
  have SB := below1 (put6 w1 (w.heap.size + 1 + 1) nilV nilV nilV nilV nilV nilV) (.cells #[] 106)
  obtain ⟨q0, q1, q2, q3, q4, q5⟩ := six_cells (block_below S6.1 SB)
  refine bodyPost_ret (v := .tuple #[.agg #[nilV, nilV, nilV, nilV, nilV, nilV], .slice (some ⟨w1.heap.size, 0, none⟩) 0 0]) (by simp [results, Tryz.results11, go_sem, q0, q1, q2, q3, q4, q5]) rfl ?_
  have b9 := S6.2.2.trans (SB.mono S6.2.2.size)
  have hs : (put6 w1 (w.heap.size + 1 + 1) nilV nilV nilV nilV nilV nilV).heap.size = w1.heap.size := by simp
  have RL := World.ownsRow_lit (put6 w1 (w.heap.size + 1 + 1) nilV nilV nilV nilV nilV nilV) (e := 106) (size := 3) (base := w.heap.size) #[] 0 S6.2.2.size (by decide) rfl
  rw [hs] at RL
  exact ⟨_, _, _, _, _, _, [], [], [], _, 0, 0, rfl, rw_start _ _, far6_start, RL, b9⟩
set_option maxRecDepth 100000 in
set_option maxHeartbeats 3200000 in
theorem implPost_yes (sg obj sig arg : Int) (eo xo : Option Addr) (en ec xn xc : Nat) (os : List ObD) (ts : List (Int × Int)) (h : KerS) (kd : KerD) (w : World) (hen : en ≤ 9223372036854775807) (hec : en ≤ ec) (hxn : xn ≤ 9223372036854775807) (hm : KerMax h) (hf : FitsKer kd) (hfo : FitsObs os) (he : ObsOf w eo en os) (hx : ItemsOf w xo xn ts) (hk : KerOf w h kd) (hyes : kerB sg os ts kd = true) :
    Calls Tryz.prog 11 #[sysV sg eo xo en ec xn xc, kerV h, .int .i64 obj, .int .i64 sig, .int .i64 arg] w fun e w' => AnsI w w' e (postK sg os ts kd obj sig arg) := by
  have HC := hid (fun W (hW : Below w.heap.size w W) => implKernelOK_any sg eo xo en ec xn xc os ts h kd W hen hec hxn hm (he.below hW) (hx.below hW) (hk.below hW))
  rw [hyes] at HC
  have HEO := hid (fun W (hW : Below w.heap.size w W) => engineOf_any sg eo xo en ec xn xc os ts h kd W hm hf hfo (he.below hW) (hx.below hW) (hk.below hW) hyes)
  have HP := hid (ker_parts hyes)
  have HCA := hid (fun i hi => ob_caps hyes (i := i) hi)
  have PK : Hid (postK sg os ts kd obj sig arg = if (0 ≤ obj ∧ obj ≤ (os.length : Int) - 1) ∧ (0 ≤ sig ∧ sig ≤ sg - 1) then putK os kd [] obj.toNat (sig, arg) else (kd, [(4, -1, sig)])) := hid (by unfold postK; rw [if_pos hyes])
  obtain ⟨lo, ln, lc, vo, vn, vc, qo, qn, qc, po, pn, pc, fo, fn, fc, go, gn, gc⟩ := h
  unfold kerV at HC HEO ⊢
  unfold sysV at HEO ⊢
  dsimp only at HC HEO ⊢
  clear he hx hk hm hyes hf hfo
  have B3 := hid (below3 w (.cells #[.int .i64 sg, .slice eo en ec, .slice xo xn xc] 42) (.cells #[.slice lo ln lc, .slice vo vn vc, .slice qo qn qc, .slice po pn pc, .slice fo fn fc, .slice go gn gc] 35) OZ)
  go_enter Tryz.func11, Tryz.ntmps11
  go_upto_region 3 with (go_at_call 39; with_reducible refine (HC.out _ B3.out).mono ?_; rintro e w1 ⟨rfl, hb⟩; have R1 := block_below (heap_alloc_new ((w.alloc (.cells #[.int .i64 sg, .slice eo en ec, .slice xo xn xc] 42)).alloc (.cells #[.slice lo ln lc, .slice vo vn vc, .slice qo qn qc, .slice po pn pc, .slice fo fn fc, .slice go gn gc] 35)) OZ) hb; have R2 := block_below (block_below (heap_alloc_new (w.alloc (.cells #[.int .i64 sg, .slice eo en ec, .slice xo xn xc] 42)) (.cells #[.slice lo ln lc, .slice vo vn vc, .slice qo qn qc, .slice po pn pc, .slice fo fn fc, .slice go gn gc] 35)) (below1 _ OZ)) hb; have R3 := block_below (block_below (heap_alloc_new w (.cells #[.int .i64 sg, .slice eo en ec, .slice xo xn xc] 42)) (below2 _ _ _)) hb; simp only [World.size_alloc] at R1 R2; have RH := hid R1; have RK := hid R2; have RS := hid R3; have BB := hid (B3.out.trans (hb.mono B3.out.size)); clear R1 R2 R3 hb)
  obtain ⟨k0, k1, k2, k3, k4, k5⟩ := six_cells RK.out
  obtain ⟨s0, s1, s2⟩ := three_cells RS.out
  have rl := lt_of_block RH.out
  have CE := hid (HEO.out w1 BB.out)
  go_upto_region 4 with (go_at_call 40; with_reducible refine CE.out.mono ?_; rintro e w2 ⟨A, R, X, wt, m, cl, d, es, ct, rfl, hM, hcl⟩; have M2 := hid hM.s; have CLN := hid hcl; have B2 := hid hM.s.bel; clear hM hcl)
  have CP := hid (post_any w1 w2 (w1.heap.size + 1 + 1 + 1) sg A R (.map (some m)) X _ _ _ _ wt 0 [] cl os kd (alL ts kd ts.length) obj sig arg M2.out (by rw [CLN.out]; exact HP.out.2.1.2.1.1) (by rw [CLN.out]; exact HP.out.2.1.2.1.2) (by rw [CLN.out]; exact HP.out.1.1.2.2.1) (by simp) (fun i hi => by rw [CLN.out] at hi; exact ⟨(HP.out.2.2 i hi).1, by have := (HCA.out i hi).1; omega⟩))
  go_upto_region 5 with (go_at_call 41; with_reducible refine CP.out.mono ?_; rintro e w3 ⟨rfl, rv', wt', r, hS, hr⟩; have M3 := hid hS; have HR := hid hr; clear hS hr)
  have SK : Hid (SameK kd r.1 ∧ r = postK sg os ts kd obj sig arg) := hid (by
    have h := HR.out
    rw [CLN.out] at h
    have e : r = postK sg os ts kd obj sig arg := by rw [PK.out, h]; rfl
    refine ⟨?_, e⟩
    rw [h]
    split
    · exact putK_same _ _ _ _ _
    · exact SameK.refl kd)
  have D3 := hid (M3.out.below (Below.refl _ _).drew)
  have CK := hid (kernel_any w1 w3.drew (w1.heap.size + 1 + 1 + 1) sg A R (.map (some m)) X _ _ _ rv' wt' 0 cl os r.1 (alL ts kd ts.length) D3.out.eng.o D3.out.row D3.out.acts D3.out.alr D3.out.bel (by rw [CLN.out]; exact HP.out.2.1.2.1.1) (by rw [CLN.out]; exact HP.out.2.1.2.1.2) (by rw [alL_len]; exact HP.out.2.1.2.2) (by rw [SK.out.1.l, CLN.out]; exact HP.out.1.1.1) (by rw [SK.out.1.v, CLN.out]; exact HP.out.1.1.2.1) (by rw [SK.out.1.q, CLN.out]; exact HP.out.1.1.2.2.1) (by rw [SK.out.1.d, CLN.out]; exact HP.out.1.1.2.2.2) (by rw [SK.out.1.e]; exact al_left HP.out.1.2.1) (by rw [SK.out.1.f]; exact al_every HP.out.1.2.2))
  obtain ⟨ra, rn, rc, rfl⟩ := row_form M3.out.eng.r
  obtain ⟨_, _, e11⟩ := eng_cells M3.out.eng.o
  have hHl := lt_of_block M3.out.eng.o
  have RH3 := hid (block_below RH.out M3.out.bel)
  clear CP CE k0 k1 k2 k3 k4 k5 s0 s1 s2 HC HEO M2
  go_region_held3 (fun Y => Y.cell? ⟨w1.heap.size + 1 + 1 + 1, 11, none⟩ = some (.slice ra rn rc)) (first | (with_reducible exact SY.out) | (with_reducible exact SX.out) | go_keep)
    (first | (go_at_call 42; with_reducible refine CK.out.mono ?_; rintro e w4 ⟨L, V, Q, D, E, F, vs, vq, vd, rfl, hrw, hfar, hb4⟩; have hb5 := undrewK hb4; have RW := hid hrw; have FR := hid hfar; have B4 := hid hb5; have E4 := hid (M3.out.below hb5); have SX := hid (eng_cells E4.out.eng.o).2.2; have RH4 := hid (block_below RH3.out hb5); obtain ⟨y0, y1, y2, y3, y4, y5⟩ := six_cells RH4.out; obtain ⟨g0, g1, g2, g3, g4, g5⟩ := six_froz RH4.out; have hl4 := lt_of_block RH4.out; have nH : ¬ w.heap.size + 1 + 1 = w1.heap.size + 1 + 1 + 1 := (by omega); have nH' : ¬ w1.heap.size + 1 + 1 + 1 = w.heap.size + 1 + 1 := (by omega); obtain ⟨xa, xm, xc, rfl⟩ := row_form hrw.l; obtain ⟨ya, ym, yc, rfl⟩ := row_form hrw.v.row; obtain ⟨za, zm, zc, rfl⟩ := row_form hrw.q.row; obtain ⟨ua, um, uc, rfl⟩ := row_form hrw.d.row; obtain ⟨va, vm, vc2, rfl⟩ := row_form hrw.e; obtain ⟨ta, tm, tc, rfl⟩ := row_form hrw.f; have SY : Hid ((put6 w4 (w.heap.size + 1 + 1) (.slice xa xm xc) (.slice ya ym yc) (.slice za zm zc) (.slice ua um uc) (.slice va vm vc2) (.slice ta tm tc)).cell? ⟨w1.heap.size + 1 + 1 + 1, 11, none⟩ = some (.slice ra rn rc)) := hid ((cell_same (put6_far nH') 11).trans SX.out); clear hrw hfar hb4 hb5))
  all_goals
    go_wp2
    have s1 := BB.out.size
    have s2 := M3.out.bel.size
    have AP := ans_put (rv := .slice ra rn rc) (rs := r.2) RH4.out ((BB.out.trans (M3.out.bel.mono s1)).trans (B4.out.mono (Nat.le_trans s1 s2))) (by omega) RW.out (by show w.heap.size ≤ w3.heap.size; omega) (row_base E4.out.eng.r s1)
    obtain ⟨q0, q1, q2, q3, q4, q5⟩ := six_cells AP.1
    refine bodyPost_ret (v := .tuple #[.agg #[.slice xa xm xc, .slice ya ym yc, .slice za zm zc, .slice ua um uc, .slice va vm vc2, .slice ta tm tc], .slice ra rn rc]) (by simp [results, Tryz.results11, go_sem, q0, q1, q2, q3, q4, q5]) rfl ?_
    exact ⟨_, _, _, _, _, _, vs, vq, vd, _, _, _, rfl, by rw [← SK.out.2]; exact AP.2.1, FR.out, by rw [← SK.out.2]; exact AP.2.2.1, AP.2.2.2⟩
end Go.Proofs.YthaklmdhkkfigaaGreat
