import Derived.Test.YthaklmdhkkfigaaGreatT9
namespace Go.Proofs.YthaklmdhkkfigaaGreat
open Go.RowKit Go.Sort
set_option linter.unusedVariables false
attribute [local go_sem ↓] Go.wp_at_zero Go.wp_at_succ

set_option maxRecDepth 100000 in
set_option maxHeartbeats 6400000 in
theorem implSystem_any (sg : Int) (eo xo : Option Addr) (en ec xn xc : Nat) (os : List ObD) (ts : List (Int × Int)) (w : World) (hen : en ≤ 9223372036854775807) (hec : en ≤ ec) (hxn : xn ≤ 9223372036854775807) (he : ObsOf w eo en os) (hx : ItemsOf w xo xn ts) :
    Calls Tryz.prog 70 #[.agg #[.int .i64 sg, .slice eo en ec, .slice xo xn xc]] w fun e w' => e = .returned (.tuple #[.int .i64 (sysFault sg os ts).1, .int .i64 (sysFault sg os ts).2.1, .int .i64 (sysFault sg os ts).2.2]) ∧ Below w.heap.size w w' := by
  have HL := hid he.1
  have HT := hid hx.1
  have EN := hid (se_start w #[.int .i64 sg, .slice eo en ec, .slice xo xn xc])
  by_cases a1 : 1 ≤ sg ∧ sg ≤ 64
  case neg =>
    have C := hid (between_of sg 1 64 false (betB_not a1))
    have E1 : Hid (sysFault sg os ts = (1, 0, 0)) := hid (sys_count (fun h => a1 h.1))
    rw [E1.out]
    clear he hx a1
    go_enter Tryz.func70, Tryz.ntmps70
    go_wp2_with (go_at_call_of 97 (Value.int .i64 sg); refine (C.out _).mono ?_; rintro e wa ⟨rfl, hw⟩; obtain rfl := hw.symm)
    go_ret3
    exact ⟨rfl, EN.out.bel⟩
  have C1 := hid (between_of sg 1 64 true (betB_yes a1))
  by_cases a2 : 1 ≤ en ∧ en ≤ 64
  case neg =>
    have C2 := hid (between_of (en : Int) 1 64 false (betB_not (by omega)))
    have E1 : Hid (sysFault sg os ts = (1, 0, 0)) := hid (sys_count (fun h => a2 (by have := h.2.1; rw [HL.out] at this; exact this)))
    rw [E1.out]
    clear he hx a2 a1
    go_enter Tryz.func70, Tryz.ntmps70
    go_wp2_with (first
      | (go_at_call_of 97 (Value.int .i64 sg); refine (C1.out _).mono ?_; rintro e wa ⟨rfl, hw⟩; obtain rfl := hw.symm)
      | (go_at_call_of 97 (Value.int .i64 (en : Int)); refine (C2.out _).mono ?_; rintro e wa ⟨rfl, hw⟩; obtain rfl := hw.symm))
    go_ret3
    exact ⟨rfl, EN.out.bel⟩
  have C2 := hid (between_of (en : Int) 1 64 true (betB_yes (by omega)))
  by_cases a3 : xn ≤ 200
  case neg =>
    have E1 : Hid (sysFault sg os ts = (1, 0, 0)) := hid (sys_count (fun h => a3 (by have := h.2.2; rw [HT.out] at this; exact this)))
    have a3' : (200 : Int) < (xn : Int) := by omega
    rw [E1.out]
    clear he hx a2 a1 a3
    go_enter Tryz.func70, Tryz.ntmps70
    go_wp2_with (first
      | (go_at_call_of 97 (Value.int .i64 sg); refine (C1.out _).mono ?_; rintro e wa ⟨rfl, hw⟩; obtain rfl := hw.symm)
      | (go_at_call_of 97 (Value.int .i64 (en : Int)); refine (C2.out _).mono ?_; rintro e wa ⟨rfl, hw⟩; obtain rfl := hw.symm))
    go_ret3
    exact ⟨rfl, EN.out.bel⟩
  obtain ⟨s1, s2⟩ := a1
  obtain ⟨n1, n2⟩ := a2
  have CNT : Hid (cntP sg os.length ts.length) := hid ⟨⟨s1, s2⟩, ⟨by rw [HL.out]; exact n1, by rw [HL.out]; exact n2⟩, by rw [HT.out]; exact a3⟩
  have HE : Hid (∀ w', Below w.heap.size w w' → ObsOf w' eo en os ∧ ItemsOf w' xo xn ts) := fun w' h => ⟨he.below h, hx.below h⟩
  have OF := hid (fun i w hi he => checkObject_any sg eo xo en ec xn xc os i w hi n2 hec a3 s1 s2 he)
  have a3' : ¬ (200 : Int) < (xn : Int) := by omega
  clear he hx
  go_enter Tryz.func70, Tryz.ntmps70
  go_wp2_with (first
    | (go_at_call_of 97 (Value.int .i64 sg); refine (C1.out _).mono ?_; rintro e wa ⟨rfl, hw⟩; obtain rfl := hw.symm)
    | (go_at_call_of 97 (Value.int .i64 (en : Int)); refine (C2.out _).mono ?_; rintro e wa ⟨rfl, hw⟩; obtain rfl := hw.symm))
  go_loopg [30] en (fun mm i wr => ∃ k : Nat, k ≤ en ∧ mm = en - k ∧ i = .int .i64 k ∧ Hid (∀ j, j < k → (objFault sg os ts.length j).1 = 0) ∧ SE w wr #[.int .i64 sg, .slice eo en ec, .slice xo xn xc])
  case atStart => exact ⟨0, Nat.zero_le _, by omega, rfl, hid (fun j h => absurd h (by omega)), EN.out⟩
  case round =>
    obtain ⟨k, hk, rfl, rfl, HP, hE⟩ := hrel
    have E := hid hE
    obtain ⟨y0, y1, y2⟩ := three_cells hE.sy
    have hzl0 : w.heap.size < wr.heap.size := lt_of_block hE.sy
    clear hE
    by_cases hlt : k < en
    · have O := hid (OF.out k wr hlt (HE.out _ E.out.bel).1)
      obtain ⟨fc, hfc⟩ : ∃ fc, fc = (objFault sg os xn k).1 := ⟨_, rfl⟩
      obtain ⟨fp, hfp⟩ : ∃ fp, fp = (objFault sg os xn k).2 := ⟨_, rfl⟩
      rw [← hfc, ← hfp] at O
      have kn : (k : Int) < (en : Int) := by omega
      by_cases h0 : fc = 0
      · subst h0
        have ER : Hid ((objFault sg os ts.length k).1 = 0) := hid (by rw [HT.out, ← hfc])
        clear hfc hfp
        go_wp2_with (go_at_call 98; refine O.out.mono ?_; rintro e w1 ⟨rfl, hb1⟩; have V1 := hid (E.out.below hb1); clear hb1)
        go_roundg (en - (k + 1))
        case measure => omega
        case rel =>
          refine ⟨k + 1, by omega, rfl, by go_num, hid (fun j hj => ?_), V1.out⟩
          by_cases e : j = k
          · subst e; exact ER.out
          · exact HP.out j (by omega)
      · have E5 : Hid (sysFault sg os ts = (fc, (k : Int), fp)) := hid (by
          rw [sys_object CNT.out (by rw [HL.out]; exact hlt) (by rw [HT.out, ← hfc]; exact h0) HP.out, HT.out, ← hfc, ← hfp])
        have h0' : (fc != 0) = true := by simpa using h0
        clear hfc hfp
        go_wp2_with (go_at_call 98; refine O.out.mono ?_; rintro e w1 ⟨rfl, hb1⟩; have V1 := hid (E.out.below hb1); clear hb1)
        go_ret3
        rw [E5.out]
        exact ⟨rfl, V1.out.bel⟩
    · have e : k = en := by omega
      subst e
      have HP' : Hid (∀ j, j < os.length → (objFault sg os ts.length j).1 = 0) := hid (by rw [HL.out]; exact HP.out)
      clear HP
      go_wp2_with fail
      go_loopg [48] xn (fun mm i wr => ∃ q : Nat, q ≤ xn ∧ mm = xn - q ∧ i = .int .i64 q ∧ Hid (∀ j, j < q → badTm sg os.length ts j = false) ∧ SE w wr #[.int .i64 sg, .slice eo k ec, .slice xo xn xc])
      case atStart => exact ⟨0, Nat.zero_le _, by omega, rfl, hid (fun j h => absurd h (by omega)), E.out⟩
      case round =>
        obtain ⟨q, hq, rfl, rfl, HP, hE⟩ := hrel
        have E := hid hE
        obtain ⟨y0, y1, y2⟩ := three_cells hE.sy
        have hzl0 : w.heap.size < wr.heap.size := lt_of_block hE.sy
        have hb := hE.bel
        clear hE
        by_cases hlt : q < xn
        · obtain ⟨bt, offt, rfl, hbtl, hct⟩ := (HE.out w (Below.refl _ _)).2.2 (by omega)
          have t1 := (hb.cell (p := ⟨bt, offt + q * 2, none⟩) hbtl).trans (hct q hlt).1
          have t2 := (hb.cell (p := ⟨bt, offt + q * 2 + 1, none⟩) hbtl).trans (hct q hlt).2
          obtain ⟨ov, hov⟩ : ∃ ov, ov = (ts.getD q (0, 0)).1 := ⟨_, rfl⟩
          obtain ⟨sv, hsv⟩ : ∃ sv, sv = (ts.getD q (0, 0)).2 := ⟨_, rfl⟩
          rw [← hov] at t1
          rw [← hsv] at t2
          obtain ⟨bo, hbo⟩ : ∃ bo, bo = decide (0 ≤ ov ∧ ov < (k : Int)) := ⟨_, rfl⟩
          obtain ⟨bs, hbs⟩ : ∃ bs, bs = decide (0 ≤ sv ∧ sv < sg) := ⟨_, rfl⟩
          have CO := hid (within_of' ov (k : Int) bo hbo)
          have CS := hid (within_of' sv sg bs hbs)
          have BT : Hid (badTm sg os.length ts q = (!bo || !bs)) := hid (by unfold badTm; rw [HL.out, ← hov, ← hsv, betB_within, betB_within, hbo, hbs])
          have qn : (q : Int) < (xn : Int) := by omega
          clear hct hb hov hsv hbo hbs
          cases bo with
          | false =>
            have E5 : Hid (sysFault sg os ts = (4, 0, (q : Int))) := hid (sys_timer CNT.out HP'.out (by rw [HT.out]; exact hlt) (by rw [BT.out]; rfl) HP.out)
            go_wp2_with (go_at_call_of 76 (Value.int .i64 ov); refine (CO.out _).mono ?_; rintro e wa ⟨rfl, hw⟩; obtain rfl := hw.symm)
            go_ret3
            rw [E5.out]
            exact ⟨rfl, (E.out.alloc _).bel⟩
          | true =>
            cases bs with
            | false =>
              have E5 : Hid (sysFault sg os ts = (4, 0, (q : Int))) := hid (sys_timer CNT.out HP'.out (by rw [HT.out]; exact hlt) (by rw [BT.out]; rfl) HP.out)
              go_wp2_with (first
                | (go_at_call_of 76 (Value.int .i64 ov); refine (CO.out _).mono ?_; rintro e wa ⟨rfl, hw⟩; obtain rfl := hw.symm)
                | (go_at_call_of 76 (Value.int .i64 sv); refine (CS.out _).mono ?_; rintro e wa ⟨rfl, hw⟩; obtain rfl := hw.symm))
              go_ret3
              rw [E5.out]
              exact ⟨rfl, (E.out.alloc _).bel⟩
            | true =>
              go_wp2_with (first
                | (go_at_call_of 76 (Value.int .i64 ov); refine (CO.out _).mono ?_; rintro e wa ⟨rfl, hw⟩; obtain rfl := hw.symm)
                | (go_at_call_of 76 (Value.int .i64 sv); refine (CS.out _).mono ?_; rintro e wa ⟨rfl, hw⟩; obtain rfl := hw.symm))
              go_roundg (xn - (q + 1))
              case measure => omega
              case rel =>
                refine ⟨q + 1, by omega, rfl, by go_num, hid (fun j hj => ?_), E.out.alloc _⟩
                by_cases e : j = q
                · subst e; rw [BT.out]; rfl
                · exact HP.out j (by omega)
        · have e : q = xn := by omega
          subst e
          have E5 : Hid (sysFault sg os ts = (0, 0, 0)) := hid (sys_ok CNT.out HP'.out (by rw [HT.out]; exact HP.out))
          clear hb
          go_wp2_with fail
          go_ret3
          rw [E5.out]
          exact ⟨rfl, E.out.bel⟩
end Go.Proofs.YthaklmdhkkfigaaGreat
namespace Go.Proofs.YthaklmdhkkfigaaGreat
open Go.RowKit Go.Sort
set_option linter.unusedVariables false
attribute [local go_sem ↓] Go.wp_at_zero Go.wp_at_succ

end Go.Proofs.YthaklmdhkkfigaaGreat
