import Derived.Test.YthaklmdhkkfigaaGreatPb
import Derived.Test.YthaklmdhkkfigaaGreatKz8
namespace Go.Proofs.YthaklmdhkkfigaaGreat
open Go.RowKit Go.Sort
set_option linter.unusedVariables false
attribute [local go_sem ↓] Go.wp_at_zero Go.wp_at_succ

/-- putLast, and what it turns. -/
theorem putLast_tn (w0 w : World) (H : Nat) (sg : Int) (A R M X s6 g9 g10 rv : Value) (wt tk : Int) (rs : List (Int × Int × Int)) (cl : List Ac) (os : List ObD) (k : KerD) (al : List ((Int × Int) × Int × Int)) (i : Nat) (x : Int × Int) (h : EngS w0 w H sg A R M X s6 g9 g10 rv wt tk rs cl os k al) (hi : i < cl.length) (hl : i < k.qs.length) (hr : rs.length ≤ 1048576) (hq : (k.qs.getD i []).length ≤ (os.getD i ob0).qcap.toNat) (hq1 : 0 ≤ (os.getD i ob0).qcap) :
    Calls Tryz.prog 78 #[.pointer (some ⟨H, 0, none⟩), .pointer (some ⟨(cl.getD i ac0).a, 0, none⟩), .agg #[.int .i64 x.1, .int .i64 x.2]] w fun e w' => e = .returned (.tuple #[]) ∧ (∃ rv' wt', EngS w0 w' H sg A R M X s6 g9 g10 rv' wt' tk (putK os k rs i x).2 cl os (putK os k rs i x).1 al) ∧ Tn (fun b => b = H ∨ rv.ownBlock = some b ∨ b = (cl.getD i ac0).P ∨ b = (cl.getD i ac0).S) w w' := by
  have hA := h.acts.at_ i hi
  obtain ⟨cs, b1, b2⟩ := hA.bx
  obtain ⟨⟨x0, _, _⟩, _, x17, _⟩ := b2
  by_cases hc : (k.qs.getD i []).length = (os.getD i ob0).qcap.toNat
  · have e : putK os k rs i x = (k, rs ++ [(2, (i : Int), x.1)]) := by unfold putK; rw [if_pos (by omega)]
    rw [e]
    refine (putLast_full w0.heap.size H _ _ _ _ sg A R M X s6 g9 g10 rv wt tk x.1 x.2 (i : Int) rs _ w cs h.bel.size hr b1 x0 x17 hc hA.q h.eng).mono ?_
    rintro e w' ⟨rfl, ⟨ra, rn, rc, hE⟩, t⟩
    exact ⟨rfl, ⟨_, _, h.noted hE t⟩, t.mono (fun b _ hb => hb.elim .inl (fun hb => .inr (.inl hb)))⟩
  · have e : putK os k rs i x = ({ k with qs := k.qs.set i (k.qs.getD i [] ++ [x]) }, rs) := by unfold putK; rw [if_neg (by omega)]
    rw [e]
    refine (putLast_room w0.heap.size H _ _ _ _ sg A R M X s6 g9 g10 rv wt tk x.1 x.2 rs _ w cs b1 x17 (by omega) hA.q h.eng).mono ?_
    rintro e w' ⟨rfl, hE, hR, t⟩
    exact ⟨rfl, ⟨_, _, h.put hi hl hE hR t⟩, t.mono (fun b _ hb => hb.elim .inl (fun hb => hb.elim (fun hb => .inr (.inr (.inl hb))) (fun hb => .inr (.inr (.inr hb)))))⟩
/-- What putLast leaves of a row of actors and of an event's box. -/
theorem EngS.left {w0 w w' : World} {H : Nat} {sg : Int} {A R M X s6 g9 g10 rv : Value} {wt tk : Int} {rs : List (Int × Int × Int)} {cl : List Ac} {os : List ObD} {k : KerD} {al : List ((Int × Int) × Int × Int)} {i : Nat} (h : EngS w0 w H sg A R M X s6 g9 g10 rv wt tk rs cl os k al) (hi : i < cl.length) (t : Tn (fun b => b = H ∨ rv.ownBlock = some b ∨ b = (cl.getD i ac0).P ∨ b = (cl.getD i ac0).S) w w') {B n : Nat} {v : Value} {xs : List Value} (ho : w.ownsRow B 146 1 v n xs) {b0 : Nat} {cs : Array Value} (hb : w.heap[b0]? = some (.cells cs 70 (0, 0))) (hS : (cl.getD i ac0).S ≠ b0) : w'.ownsRow B 146 1 v n xs ∧ w'.heap[b0]? = some (.cells cs 70 (0, 0)) := by
  have hA := h.acts.at_ i hi
  obtain ⟨⟨p1, q1⟩, ⟨s1, r1⟩⟩ := hA.q.boxes
  have hr : ∀ b, rv.ownBlock = some b → ∃ cs, w.heap[b]? = some (.cells cs 106 (0, 0)) := by
    intro b e1
    rcases h.eng.r.2 with ⟨h0, _⟩ | ⟨g, cap, cur, h1, _, h3, _⟩
    · rw [h0] at e1; cases e1
    · rw [h1] at e1
      simp [Value.ownBlock] at e1
      subst e1
      exact ⟨_, h3⟩
  refine ⟨row_tn ho t ?_, t.at hb ?_⟩
  · rintro b c2 (rfl | e | rfl | rfl) he
    · rw [h.eng.o] at he; simp at he
    · obtain ⟨c3, h3⟩ := hr b e; rw [h3] at he; simp at he
    · rw [q1] at he; simp at he
    · rw [r1] at he; simp at he
  · rintro (rfl | e | rfl | e)
    · rw [h.eng.o] at hb; simp at hb
    · obtain ⟨c3, h3⟩ := hr b0 e; rw [h3] at hb; simp at hb
    · rw [q1] at hb; simp at hb
    · exact hS e.symm
set_option maxRecDepth 100000 in
set_option maxHeartbeats 6400000 in
theorem publishE_any (w0 w : World) (H m : Nat) (sg : Int) (A R X s6 g9 g10 rv : Value) (wt tk : Int) (cl : List Ac) (os : List ObD) (ts : List (Int × Int)) (k : KerD) (al : List ((Int × Int) × Int × Int)) (es : Array MapEntry) (ct : Nat) (f : Int → List Nat) (sig arg : Int) (h : EngS w0 w H sg A R (.map (some m)) X s6 g9 g10 rv wt tk [] cl os k al) (hs : SubE w w0.heap.size m es ct f) (hL : f sig = (pubL os sig).map (fun i => (cl.getD i ac0).a)) (hcl : cl.length = os.length) (hy : kerB sg os ts k = true) :
    Calls Tryz.prog 58 #[.pointer (some ⟨H, 0, none⟩), .agg #[.int .i64 sig, .int .i64 arg]] w fun e w' => e = .returned (.tuple #[]) ∧ ∃ rv' wt' r, EngS w0 w' H sg A R (.map (some m)) X s6 g9 g10 rv' wt' tk r.2 cl os r.1 al ∧ r = (if 0 ≤ sig ∧ sig ≤ sg - 1 then pubK os k (pubL os sig) (sig, arg) else (k, [(4, -1, sig)])) := by
  have LL := hid (pubL_len (sys_p hy) sig)
  have LT := hid (fun x hx => pubL_lt (os := os) (z := sig) (x := x) hx)
  have PI := hid (fun s hs => pbi (ker_qok hy) (sig, arg) (pubL os sig) s hs)
  have HP := hid (ker_parts hy)
  have HCA := hid (fun i hi => ob_caps hy (i := i) hi)
  obtain ⟨l, hl⟩ : ∃ l, l = pubL os sig := ⟨_, rfl⟩
  rw [← hl] at LL LT PI hL ⊢
  obtain ⟨n, hn⟩ : ∃ m, m = l.length := ⟨_, rfl⟩
  rw [← hn] at LL PI
  have HM := hid hn
  have PT : Hid (pubK os k (l.take n) (sig, arg) = pubK os k l (sig, arg)) := hid (by rw [hn, List.take_length])
  have n64 : n ≤ 64 := by have := LL.out; have := HP.out.2.1.2.1.2; omega
  have HCL := hid hcl
  have HLF := hid hL
  obtain ⟨U, hU⟩ : ∃ U, U = w.alloc (.cells #[.int .i64 sig, .int .i64 arg] 70) := ⟨_, rfl⟩
  have B1 : Below w.heap.size w U := by rw [hU]; exact below1 _ _
  have u1 : U.heap[w.heap.size]? = some (.cells #[.int .i64 sig, .int .i64 arg] 70 (0, 0)) := by rw [hU]; exact heap_alloc_new _ _
  obtain ⟨y0, y1⟩ := two_cells u1
  have hS := h.below B1
  obtain ⟨⟨c0, _, _, c3, _⟩, _, _⟩ := eng_cells hS.eng.o
  have hHl := lt_of_block hS.eng.o
  have SB : Hid (∀ i, i < cl.length → (cl.getD i ac0).S ≠ w.heap.size) := hid (fun i hi => by
    have hA := h.acts.at_ i hi
    obtain ⟨_, ⟨s1, r1⟩⟩ := hA.q.boxes
    have := lt_of_block r1
    omega)
  have HS := hid hS
  have SU := hid (hs.below B1)
  have HU := hid hU
  have ul := lt_of_block u1
  have HU1 := hid u1
  clear h hS hU B1 u1 hl hn hL hs hcl hy LL
  have D : ∀ (x y : Int) (b : Bool), b = decide (0 ≤ x ∧ x < y) → ∀ d os', Calls Tryz.prog 76 #[.int .i64 x, .int .i64 y] (grow (redrawn U d) os') fun e w'' => e = .returned (.bool b) ∧ ∃ p : Regrown, w'' = grow (redrawn U p.d) p.os := fun x y b hb d os' => Calls.regrown_of ((within_of x y b hb _).mono (by rintro e w' ⟨rfl, rfl⟩; exact ⟨rfl, Below.refl _ _⟩))
  have HD := hid D
  clear D
  by_cases h2 : 0 ≤ sig ∧ sig ≤ sg - 1
  · have D2 := HD.out sig sg true (by simp; omega)
    have ei : Hid ((if 0 ≤ sig ∧ sig ≤ sg - 1 then pubK os k l (sig, arg) else (k, [(4, -1, sig)])) = pubK os k l (sig, arg)) := hid (by rw [if_pos h2])
    rw [ei.out]
    clear h2 HD
    go_enter Tryz.func58, Tryz.ntmps58
    go_wp2_with fail
    rw [← HU.out]
    clear hHl ul
    have r0 := cell_regrown y0
    have r1 := cell_regrown c0
    refine wp_region_quiet_below (by kernel_rfl) (by kernel_rfl) ?_
    repeat (any_goals (first | go_big_quiet_step (with_reducible exact D2 _ _) | quiet_step (with_reducible exact D2 _ _)))
    refine wpQuiet_nil ?_
    intro _ hw'
    obtain ⟨⟨dq, osq⟩, hw''⟩ := hw'
    subst hw''
    obtain ⟨Y, hY⟩ : ∃ Y, Y = grow (redrawn U dq) osq := ⟨_, rfl⟩
    have BY : Hid (Below U.heap.size U Y) := hid (by rw [hY]; exact below_regrown U dq osq)
    rw [← hY]
    clear hY r0 r1 y0 y1 c0 c3 D2
    have u2 := hid (block_below HU1.out BY.out)
    obtain ⟨y0, y1⟩ := two_cells u2.out
    have ES := hid (HS.out.below BY.out)
    have SY := hid (SU.out.below BY.out)
    obtain ⟨v, FD⟩ := sub_find SY.out sig
    obtain ⟨va, vn, vc, hv⟩ := row_form FD.row
    subst hv
    have hvn : vn = n := by have := row_len FD.row; rw [HLF.out, List.length_map] at this; rw [this, HM.out]
    subst hvn
    have RW : Hid (Y.drew.ownsRow w0.heap.size 146 1 (.slice va vn vc) vn ((l.map (fun i => (cl.getD i ac0).a)).map (fun a => Value.pointer (some ⟨a, 0, none⟩)))) := hid (ownsRow_below (by have h := FD.row; rw [HLF.out] at h; exact act_own h (by rw [List.length_map]; exact HM.out.symm)) (Below.refl _ _).drew)
    have lk := FD.look Y.drew SY.out.hm
    obtain ⟨⟨_, _, _, c3, _⟩, _, _⟩ := eng_cells ES.out.eng.o
    have hHl := lt_of_block ES.out.eng.o
    have ul := lt_of_block u2.out
    have ED := hid (ES.out.below (Below.refl _ _).drew)
    have uD : Hid (Y.drew.heap[w.heap.size]? = some (.cells #[.int .i64 sig, .int .i64 arg] 70 (0, 0))) := hid u2.out
    clear FD
    go_upto_region 3 with fail
    go_region_with fail
    all_goals
      have hvl : Hid (vn = l.length) := HM
      go_wp2_with fail
      clear lk c3 y0 y1 hHl ul
      simp [Act.put]
      go_loopg [26] vn (fun mm ix Z => ∃ (s : Nat) (rv' : Value) (wt' : Int), s ≤ vn ∧ mm = vn - s ∧ ix = .int .i64 s ∧ Hid (EngS w0 Z H sg A R (.map (some m)) X s6 g9 g10 rv' wt' tk (pubK os k (l.take s) (sig, arg)).2 cl os (pubK os k (l.take s) (sig, arg)).1 al) ∧ Hid (Z.ownsRow w0.heap.size 146 1 (.slice va vn vc) vn ((l.map (fun i => (cl.getD i ac0).a)).map (fun a => Value.pointer (some ⟨a, 0, none⟩)))) ∧ Hid (Z.heap[w.heap.size]? = some (.cells #[.int .i64 sig, .int .i64 arg] 70 (0, 0))))
      case atStart => exact ⟨0, rv, wt, Nat.zero_le _, by omega, rfl, ED, RW, uD⟩
      case round =>
        clear ED RW uD ES SY u2 BY HS SU HU1
        obtain ⟨s, rv', wt', hs, rfl, rfl, HWs, HOs, HVs⟩ := hrel
        by_cases hlt : s < vn
        · have si : (s : Int) < (vn : Int) := by omega
          have hsl : s < l.length := by rw [← HM.out]; exact hlt
          obtain ⟨i, hi⟩ : ∃ i, i = l[s] := ⟨_, rfl⟩
          obtain ⟨gl, hgl⟩ : ∃ gl, va = some ⟨gl, 0, none⟩ := by
            obtain ⟨g', cap', e, _⟩ := World.ownsRow.form HOs.out (by omega)
            simp only [Value.slice.injEq] at e
            exact ⟨g', e.1⟩
          subst hgl
          obtain ⟨a, ha⟩ : ∃ a, a = (cl.getD i ac0).a := ⟨_, rfl⟩
          have ci : wr.cell? ⟨gl, s, none⟩ = some (.pointer (some ⟨a, 0, none⟩)) := by
            rw [World.ownsRow.cellAt HOs.out s (by omega), ha, hi]
            simp [hsl]
          have ios : i < os.length := LT.out i (by rw [hi]; exact List.getElem_mem hsl)
          have icl : i < cl.length := by rw [HCL.out]; exact ios
          have TS : Hid (pubK os k (l.take (s + 1)) (sig, arg) = putK os (pubK os k (l.take s) (sig, arg)).1 (pubK os k (l.take s) (sig, arg)).2 i (sig, arg)) := hid (by
            rw [List.take_add_one, List.getElem?_eq_getElem hsl, hi]
            exact pubK_snoc _ _ _ _ _)
          have PB := hid (PI.out s hs)
          obtain ⟨kS, hkS⟩ : ∃ x, x = (pubK os k (l.take s) (sig, arg)).1 := ⟨_, rfl⟩
          obtain ⟨rS, hrS⟩ : ∃ x, x = (pubK os k (l.take s) (sig, arg)).2 := ⟨_, rfl⟩
          rw [← hkS, ← hrS] at HWs TS
          have PB2 : Hid (PbI os k s (kS, rS)) := hid (by rw [hkS, hrS]; exact PB.out)
          have QL : kS.qs.length = os.length := PB2.out.q.trans HP.out.1.1.2.2.1
          have RL : rS.length ≤ 1048576 := by have h1 : rS.length ≤ s := PB2.out.r; omega
          have CP := hid (putLast_tn w0 wr H sg A R (.map (some m)) X s6 g9 g10 rv' wt' tk rS cl os kS al i (sig, arg) HWs.out icl (by rw [QL]; exact ios) RL (PB2.out.qo i ios) (by have := (HCA.out i ios).1; omega))
          rw [← ha] at CP
          have gll := World.block_lt_of_cell? wr _ ci
          obtain ⟨y0, y1⟩ := two_cells HVs.out
          have ul := lt_of_block HVs.out
          clear PB hkS hrS hi ha QL RL
          go_wp2_with (go_at_call 78; with_reducible refine CP.out.mono ?_; rintro e w6 ⟨rfl, ⟨rv6, wt6, hE⟩, ht⟩; have E6 := hid hE; have L6 := hid (HWs.out.left icl ht HOs.out HVs.out (SB.out i icl)); clear hE ht)
          go_roundg (vn - (s + 1))
          case measure => omega
          case rel => exact ⟨s + 1, rv6, wt6, hlt, rfl, by go_num, hid (by rw [TS.out]; exact E6.out), hid L6.out.1, hid L6.out.2⟩
        · have hnl : ¬ ((s : Int) < (vn : Int)) := by omega
          have ETX : Hid (s = vn) := hid (by omega)
          have P2 : Hid (pubK os k (l.take s) (sig, arg) = pubK os k l (sig, arg)) := hid (by rw [ETX.out]; exact PT.out)
          go_wp2_with fail
          go_end0
          exact ⟨rfl, rv', wt', by have := HWs.out; rw [P2.out] at this; exact this⟩
  · have D2 := HD.out sig sg false (by simp; omega)
    have ei : Hid ((if 0 ≤ sig ∧ sig ≤ sg - 1 then pubK os k l (sig, arg) else (k, [(4, -1, sig)])) = (k, [(4, -1, sig)])) := hid (by rw [if_neg h2])
    clear h2 HD
    rw [ei.out]
    go_enter Tryz.func58, Tryz.ntmps58
    go_wp2_with fail
    rw [← HU.out]
    clear hHl ul
    have r0 := cell_regrown y0
    have r1 := cell_regrown c0
    refine wp_region_quiet_below (by kernel_rfl) (by kernel_rfl) ?_
    repeat (any_goals (first | go_big_quiet_step (with_reducible exact D2 _ _) | quiet_step (with_reducible exact D2 _ _)))
    refine wpQuiet_nil ?_
    intro _ hw'
    obtain ⟨⟨dq, osq⟩, hw''⟩ := hw'
    subst hw''
    obtain ⟨Y, hY⟩ : ∃ Y, Y = grow (redrawn U dq) osq := ⟨_, rfl⟩
    have BY : Hid (Below U.heap.size U Y) := hid (by rw [hY]; exact below_regrown U dq osq)
    rw [← hY]
    clear hY r0 r1 y0 y1 c0 c3 D2
    have u2 := hid (block_below HU1.out BY.out)
    obtain ⟨y0, y1⟩ := two_cells u2.out
    have ES := hid (HS.out.below BY.out)
    obtain ⟨⟨c0, _, _, _, _⟩, _, _⟩ := eng_cells ES.out.eng.o
    have hHl := lt_of_block ES.out.eng.o
    have ul := lt_of_block u2.out
    have CR := hid (record_any w0.heap.size H sg _ R (.map (some m)) X s6 g9 g10 rv wt tk [] 4 (-1) sig Y ES.out.bel.size (by simp) ES.out.eng)
    go_wp2_with (go_at_call 77; refine CR.out.mono ?_; rintro e w5 ⟨rfl, ra, rn, rc, hE, ht⟩; have FE := hid (ES.out.noted hE ht); clear hE ht)
    refine bodyPost_ret (results_none rfl _ _ _) rfl ?_
    exact ⟨rfl, _, _, _, FE.out, rfl⟩
end Go.Proofs.YthaklmdhkkfigaaGreat
namespace Go.Proofs.YthaklmdhkkfigaaGreat
open Go.RowKit Go.Sort
set_option linter.unusedVariables false
attribute [local go_sem ↓] Go.wp_at_zero Go.wp_at_succ

set_option maxRecDepth 100000 in
set_option maxHeartbeats 1600000 in
theorem implPublish_no (sg sig arg : Int) (eo xo : Option Addr) (en ec xn xc : Nat) (os : List ObD) (ts : List (Int × Int)) (h : KerS) (kd : KerD) (w : World) (hen : en ≤ 9223372036854775807) (hec : en ≤ ec) (hxn : xn ≤ 9223372036854775807) (hm : KerMax h) (he : ObsOf w eo en os) (hx : ItemsOf w xo xn ts) (hk : KerOf w h kd) (hno : kerB sg os ts kd = false) :
    Calls Tryz.prog 21 #[sysV sg eo xo en ec xn xc, kerV h, .int .i64 sig, .int .i64 arg] w fun e w' => AnsI w w' e (kd0, []) := by
  have HC := hid (fun W (hW : Below w.heap.size w W) => implKernelOK_any sg eo xo en ec xn xc os ts h kd W hen hec hxn hm (he.below hW) (hx.below hW) (hk.below hW))
  rw [hno] at HC
  obtain ⟨lo, ln, lc, vo, vn, vc, qo, qn, qc, po, pn, pc, fo, fn, fc, go, gn, gc⟩ := h
  unfold kerV at HC ⊢
  dsimp only at HC ⊢
  clear he hx hk hm hno
  have B3 := hid (below3 w (.cells #[.int .i64 sg, .slice eo en ec, .slice xo xn xc] 42) (.cells #[.slice lo ln lc, .slice vo vn vc, .slice qo qn qc, .slice po pn pc, .slice fo fn fc, .slice go gn gc] 35) OZ)
  go_enter Tryz.func21, Tryz.ntmps21
  go_wp2_with (go_at_call 39; with_reducible refine (HC.out _ B3.out).mono ?_; rintro e w1 ⟨rfl, hb⟩; have R1 := block_below (heap_alloc_new ((w.alloc (.cells #[.int .i64 sg, .slice eo en ec, .slice xo xn xc] 42)).alloc (.cells #[.slice lo ln lc, .slice vo vn vc, .slice qo qn qc, .slice po pn pc, .slice fo fn fc, .slice go gn gc] 35)) OZ) hb; simp only [World.size_alloc] at R1; obtain ⟨y0, y1, y2, y3, y4, y5⟩ := six_cells R1; obtain ⟨f0, f1, f2, f3, f4, f5⟩ := six_froz R1; have hl := lt_of_block R1; have RH := hid R1; have BB := hid (B3.out.trans (hb.mono B3.out.size)); clear R1 hb)
  have S6 := set6 (a := nilV) (b := nilV) (c := nilV) (d := nilV) (e := nilV) (f := nilV) RH.out BB.out (by omega)
  have SB := below1 (put6 w1 (w.heap.size + 1 + 1) nilV nilV nilV nilV nilV nilV) (.cells #[] 106)
  obtain ⟨q0, q1, q2, q3, q4, q5⟩ := six_cells (block_below S6.1 SB)
  refine bodyPost_ret (v := .tuple #[.agg #[nilV, nilV, nilV, nilV, nilV, nilV], .slice (some ⟨w1.heap.size, 0, none⟩) 0 0]) (by simp [results, Tryz.results21, go_sem, q0, q1, q2, q3, q4, q5]) rfl ?_
  have b9 := S6.2.2.trans (SB.mono S6.2.2.size)
  have hs : (put6 w1 (w.heap.size + 1 + 1) nilV nilV nilV nilV nilV nilV).heap.size = w1.heap.size := by simp
  have RL := World.ownsRow_lit (put6 w1 (w.heap.size + 1 + 1) nilV nilV nilV nilV nilV nilV) (e := 106) (size := 3) (base := w.heap.size) #[] 0 S6.2.2.size (by decide) rfl
  rw [hs] at RL
  exact ⟨_, _, _, _, _, _, [], [], [], _, 0, 0, rfl, rw_start _ _, far6_start, RL, b9⟩
set_option maxRecDepth 100000 in
set_option maxHeartbeats 3200000 in
theorem implPublish_yes (sg sig arg : Int) (eo xo : Option Addr) (en ec xn xc : Nat) (os : List ObD) (ts : List (Int × Int)) (h : KerS) (kd : KerD) (w : World) (hen : en ≤ 9223372036854775807) (hec : en ≤ ec) (hxn : xn ≤ 9223372036854775807) (hm : KerMax h) (hf : FitsKer kd) (hfo : FitsObs os) (he : ObsOf w eo en os) (hx : ItemsOf w xo xn ts) (hk : KerOf w h kd) (hyes : kerB sg os ts kd = true) :
    Calls Tryz.prog 21 #[sysV sg eo xo en ec xn xc, kerV h, .int .i64 sig, .int .i64 arg] w fun e w' => AnsI w w' e (publishK sg os ts kd sig arg) := by
  have HC := hid (fun W (hW : Below w.heap.size w W) => implKernelOK_any sg eo xo en ec xn xc os ts h kd W hen hec hxn hm (he.below hW) (hx.below hW) (hk.below hW))
  rw [hyes] at HC
  have HEO := hid (fun W (hW : Below w.heap.size w W) => engineOf_any sg eo xo en ec xn xc os ts h kd W hm hf hfo (he.below hW) (hx.below hW) (hk.below hW) hyes)
  have HP := hid (ker_parts hyes)
  have HCA := hid (fun i hi => ob_caps hyes (i := i) hi)
  have PK : Hid (publishK sg os ts kd sig arg = if 0 ≤ sig ∧ sig ≤ sg - 1 then pubK os kd (pubL os sig) (sig, arg) else (kd, [(4, -1, sig)])) := hid (by unfold publishK; rw [if_pos hyes])
  have HYY := hid hyes
  obtain ⟨lo, ln, lc, vo, vn, vc, qo, qn, qc, po, pn, pc, fo, fn, fc, go, gn, gc⟩ := h
  unfold kerV at HC HEO ⊢
  unfold sysV at HEO ⊢
  dsimp only at HC HEO ⊢
  clear he hx hk hm hyes hf hfo
  have B3 := hid (below3 w (.cells #[.int .i64 sg, .slice eo en ec, .slice xo xn xc] 42) (.cells #[.slice lo ln lc, .slice vo vn vc, .slice qo qn qc, .slice po pn pc, .slice fo fn fc, .slice go gn gc] 35) OZ)
  go_enter Tryz.func21, Tryz.ntmps21
  go_upto_region 3 with (go_at_call 39; with_reducible refine (HC.out _ B3.out).mono ?_; rintro e w1 ⟨rfl, hb⟩; have R1 := block_below (heap_alloc_new ((w.alloc (.cells #[.int .i64 sg, .slice eo en ec, .slice xo xn xc] 42)).alloc (.cells #[.slice lo ln lc, .slice vo vn vc, .slice qo qn qc, .slice po pn pc, .slice fo fn fc, .slice go gn gc] 35)) OZ) hb; have R2 := block_below (block_below (heap_alloc_new (w.alloc (.cells #[.int .i64 sg, .slice eo en ec, .slice xo xn xc] 42)) (.cells #[.slice lo ln lc, .slice vo vn vc, .slice qo qn qc, .slice po pn pc, .slice fo fn fc, .slice go gn gc] 35)) (below1 _ OZ)) hb; have R3 := block_below (block_below (heap_alloc_new w (.cells #[.int .i64 sg, .slice eo en ec, .slice xo xn xc] 42)) (below2 _ _ _)) hb; simp only [World.size_alloc] at R1 R2; have RH := hid R1; have RK := hid R2; have RS := hid R3; have BB := hid (B3.out.trans (hb.mono B3.out.size)); clear R1 R2 R3 hb)
  obtain ⟨k0, k1, k2, k3, k4, k5⟩ := six_cells RK.out
  obtain ⟨s0, s1, s2⟩ := three_cells RS.out
  have rl := lt_of_block RH.out
  have CE := hid (HEO.out w1 BB.out)
  go_upto_region 4 with (go_at_call 40; with_reducible refine CE.out.mono ?_; rintro e w2 ⟨A, R, X, wt, m, cl, d, es, ct, rfl, hM, hcl⟩; have M2 := hid hM.s; have MS := hid hM.sub; have ML := hid (rank_pub (sys_p HYY.out) hcl hM.perm hM.sort sig); have CLN := hid hcl; have B2 := hid hM.s.bel; clear hM hcl)
  have CP := hid (publishE_any w1 w2 (w1.heap.size + 1 + 1 + 1) m sg A R X _ _ _ _ wt 0 cl os ts kd (alL ts kd ts.length) es ct _ sig arg M2.out MS.out ML.out CLN.out HYY.out)
  go_upto_region 5 with (go_at_call 58; with_reducible refine CP.out.mono ?_; rintro e w3 ⟨rfl, rv', wt', r, hS, hr⟩; have M3 := hid hS; have HR := hid hr; clear hS hr)
  have SK : Hid (SameK kd r.1 ∧ r = publishK sg os ts kd sig arg) := hid (by
    have h := HR.out
    have e : r = publishK sg os ts kd sig arg := by rw [PK.out, h]
    refine ⟨?_, e⟩
    rw [h]
    split
    · have g := pbi (ker_qok HYY.out) (sig, arg) (pubL os sig) (pubL os sig).length (Nat.le_refl _)
      rw [List.take_length] at g
      exact ⟨by rw [g.l], by rw [g.v], g.q, by rw [g.d], g.e, g.f⟩
    · exact SameK.refl kd)
  have D3 := hid (M3.out.below (Below.refl _ _).drew)
  have CK := hid (kernel_any w1 w3.drew (w1.heap.size + 1 + 1 + 1) sg A R (.map (some m)) X _ _ _ rv' wt' 0 cl os r.1 (alL ts kd ts.length) D3.out.eng.o D3.out.row D3.out.acts D3.out.alr D3.out.bel (by rw [CLN.out]; exact HP.out.2.1.2.1.1) (by rw [CLN.out]; exact HP.out.2.1.2.1.2) (by rw [alL_len]; exact HP.out.2.1.2.2) (by rw [SK.out.1.l, CLN.out]; exact HP.out.1.1.1) (by rw [SK.out.1.v, CLN.out]; exact HP.out.1.1.2.1) (by rw [SK.out.1.q, CLN.out]; exact HP.out.1.1.2.2.1) (by rw [SK.out.1.d, CLN.out]; exact HP.out.1.1.2.2.2) (by rw [SK.out.1.e]; exact al_left HP.out.1.2.1) (by rw [SK.out.1.f]; exact al_every HP.out.1.2.2))
  obtain ⟨ra, rn, rc, rfl⟩ := row_form M3.out.eng.r
  obtain ⟨_, _, e11⟩ := eng_cells M3.out.eng.o
  have hHl := lt_of_block M3.out.eng.o
  have RH3 := hid (block_below RH.out M3.out.bel)
  clear CP CE k0 k1 k2 k3 k4 k5 s0 s1 s2 HC HEO M2
  go_region_held3 (fun Y => Y.cell? ⟨w1.heap.size + 1 + 1 + 1, 11, none⟩ = some (.slice ra rn rc)) (first | (with_reducible exact SY.out) | (with_reducible exact SX.out) | go_keep)
    (first | (go_at_call 42; with_reducible refine CK.out.mono ?_; rintro e w4 ⟨L, V, Q, D, E, F, vs, vq, vd, rfl, hrw, hfar, hb4⟩; have hb5 := undrewK hb4; have RW := hid hrw; have FR := hid hfar; have B4 := hid hb5; have E4 := hid (M3.out.below hb5); have SX := hid (eng_cells E4.out.eng.o).2.2; have RH4 := hid (block_below RH3.out hb5); obtain ⟨y0, y1, y2, y3, y4, y5⟩ := six_cells RH4.out; obtain ⟨g0, g1, g2, g3, g4, g5⟩ := six_froz RH4.out; have hl4 := lt_of_block RH4.out; have nH : ¬ w.heap.size + 1 + 1 = w1.heap.size + 1 + 1 + 1 := (by omega); have nH' : ¬ w1.heap.size + 1 + 1 + 1 = w.heap.size + 1 + 1 := (by omega); obtain ⟨xa, xm, xc, rfl⟩ := row_form hrw.l; obtain ⟨ya, ym, yc, rfl⟩ := row_form hrw.v.row; obtain ⟨za, zm, zc, rfl⟩ := row_form hrw.q.row; obtain ⟨ua, um, uc, rfl⟩ := row_form hrw.d.row; obtain ⟨va, vm, vc2, rfl⟩ := row_form hrw.e; obtain ⟨ta, tm, tc, rfl⟩ := row_form hrw.f; have SY : Hid ((put6 w4 (w.heap.size + 1 + 1) (.slice xa xm xc) (.slice ya ym yc) (.slice za zm zc) (.slice ua um uc) (.slice va vm vc2) (.slice ta tm tc)).cell? ⟨w1.heap.size + 1 + 1 + 1, 11, none⟩ = some (.slice ra rn rc)) := hid ((cell_same (put6_far nH') 11).trans SX.out); clear hrw hfar hb4 hb5))
  all_goals
    go_wp2
    have s1 := BB.out.size
    have s2 := M3.out.bel.size
    have AP := ans_put (rv := .slice ra rn rc) (rs := r.2) RH4.out ((BB.out.trans (M3.out.bel.mono s1)).trans (B4.out.mono (Nat.le_trans s1 s2))) (by omega) RW.out (by show w.heap.size ≤ w3.heap.size; omega) (row_base E4.out.eng.r s1)
    obtain ⟨q0, q1, q2, q3, q4, q5⟩ := six_cells AP.1
    refine bodyPost_ret (v := .tuple #[.agg #[.slice xa xm xc, .slice ya ym yc, .slice za zm zc, .slice ua um uc, .slice va vm vc2, .slice ta tm tc], .slice ra rn rc]) (by simp [results, Tryz.results21, go_sem, q0, q1, q2, q3, q4, q5]) rfl ?_
    exact ⟨_, _, _, _, _, _, vs, vq, vd, _, _, _, rfl, by rw [← SK.out.2]; exact AP.2.1, FR.out, by rw [← SK.out.2]; exact AP.2.2.1, AP.2.2.2⟩
end Go.Proofs.YthaklmdhkkfigaaGreat
