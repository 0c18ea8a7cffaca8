import Derived.Test.YtkcbomhhdfgihaaGreatN5
namespace Go.Proofs.YtkcbomhhdfgihaaGreat
attribute [local go_sem ↓] Go.wp_at_zero Go.wp_at_succ
open Go.RowKit Go.Sort

theorem Away.drew0 {sb : Nat} {a b : World} (h : Away sb a.drew b) : Away sb a b := ⟨h.os, h.tape, h.output, h.size, h.block⟩

theorem Stk.drew {w : World} {sb : Nat} {st : List Tree} (h : Stk w sb st) : Stk w.drew sb st := h.below (Below.refl _ _).drew

set_option maxHeartbeats 1000000 in
theorem lift_conv (sb : Nat) (vars val : Int) (st : List Tree) (w : World) (hl : st.length ≤ 900) (h : Stk w sb st) : Calls Tryz.prog 131 #[.pointer (some ⟨sb, 0, none⟩), .agg #[.int .i64 19, .int .i64 val], .int .i64 vars] w (LiftEnd sb w (stepT vars 19 val st)) := by
  have hlt := h.lt
  have HS := hid (h.below (below1 w (.cells #[.int .i64 19, .int .i64 val] 146)))
  have HB := hid ((below1 w (.cells #[.int .i64 19, .int .i64 val] 146)).mono (Nat.le_of_lt hlt))
  have hb0 := hid (heap_alloc_new w (.cells #[.int .i64 19, .int .i64 val] 146))
  clear h
  have C := hid (kindOK_any val)
  by_cases h1 : 1 ≤ val ∧ val ≤ 7
  · have hd : kOk val = true := by simp [kOk]; omega
    rw [hd] at C
    clear hd
    have CV := hid (fun w => converterOf_any val w h1.1 h1.2)
    match st, hl with
    | [], _ =>
      have e : stepT vars 19 val [] = none := by simp [stepT, h1]
      rw [e]
      clear e
      go_enter Tryz.func131, Tryz.ntmps131
      go_wp2_with (first | (go_at_call 77; refine (C.out _).mono ?_; rintro e w' ⟨rfl, hw⟩; obtain rfl := hw.symm) | (go_at_call 119; refine (demand_yes _ _).mono ?_; rintro e w' ⟨rfl, hw⟩; obtain rfl := hw.symm))
      refine wp_region_any (by kernel_rfl) ?_
      change wpAny _ _ _ _ _ _ _ (World.drew _)
      refine wpAny_take (i := 0) (v := _) rfl (by kernel_rfl) (by kernel_rfl) (by kernel_rfl) (fun _ _ _ h => h) (Or.inl ⟨by rfl, by intro w; go_simp; rfl⟩) ?_
      refine wpAny_take (i := 2) (v := _) rfl (by kernel_rfl) (by kernel_rfl) (by kernel_rfl) (fun _ _ _ h => h) (Or.inl ⟨by rfl, by intro w; go_simp; rfl⟩) ?_
      refine wpAny_ready (rs := [1, 3]) (by kernel_rfl) (by simp) ?_
      refine AllReady.cons rfl (fun K hK => ?_) (AllReady.cons rfl (fun K hK => ?_) AllReady.nil)
      · go_simp
        refine (pop_pan sb _ HS.out.drew).mono ?_
        rintro e w1 ⟨⟨s, rfl⟩, ha⟩
        exact ⟨rfl, ⟨_, rfl⟩, HB.out.drew.trans (ha.below (by simp; omega))⟩
      · go_simp
        refine hK _ _ ?_
        clear hK K
        refine wpAny_ready (rs := [1]) (by kernel_rfl) (by simp) ?_
        refine AllReady.cons rfl (fun K hK => ?_) AllReady.nil
        go_simp
        refine (pop_pan sb _ HS.out.drew).mono ?_
        rintro e w1 ⟨⟨s, rfl⟩, ha⟩
        exact ⟨rfl, ⟨_, rfl⟩, HB.out.drew.trans (ha.below (by simp; omega))⟩
    | t :: st', hl =>
      have e : stepT vars 19 val (t :: st') = some (.conv val t, st') := by simp [stepT, h1]
      rw [e]
      clear e
      obtain ⟨y, x, hy⟩ := tv_form t
      have P1 := hid (pop_away sb t st')
      have e2 : tv (.conv val t) = .iface 233 (.agg #[.iface y x, .func (.func (cfn val)) #[] #[]]) := by rw [← hy]; rfl
      rw [hy] at P1
      have E2 := hid e2
      have hl' : st'.length ≤ 1000 := by simp at hl; omega
      clear hy e2
      go_enter Tryz.func131, Tryz.ntmps131
      go_wp2_with (first | (go_at_call 77; refine (C.out _).mono ?_; rintro e w' ⟨rfl, hw⟩; obtain rfl := hw.symm) | (go_at_call 119; refine (demand_yes _ _).mono ?_; rintro e w' ⟨rfl, hw⟩; obtain rfl := hw.symm))
      go_region_with (first | (go_at_call 137; refine (P1.out _ hl' (HS.out.drew.below CB.out)).mono ?_; rintro e w2 ⟨rfl, hs, ha⟩; have FS := hid hs; have FB := hid ((HB.out.drew.trans (CB.out.mono (by simp; omega))).trans (ha.below (by have := CB.out.size; simp at this; omega))); clear hs ha) | (go_at_call 137; refine (P1.out _ hl' HS.out.drew).mono ?_; rintro e w1 ⟨rfl, hs, ha⟩; have PS := hid hs; have PA := hid ha; have pc := (pair_cells (away_pair (ha.drew0) hb0.out (by omega))).2.1; clear hs ha) | (go_at_call 78; refine (CV.out _).mono ?_; rintro e w3 ⟨rfl, hb⟩; have FS := hid (PS.out.below hb); have FB := hid ((HB.out.drew.trans (PA.out.below (by simp; omega))).trans (hb.mono (by have := PA.out.size; simp at this; omega))); clear hb) | (go_at_call 78; refine (CV.out _).mono ?_; rintro e w1 ⟨rfl, hb⟩; have CB := hid hb; clear hb))
      all_goals
        go_wp2
        go_ret
        exact ⟨by rw [E2.out]; rfl, FS.out, FB.out⟩
  · have e : stepT vars 19 val st = none := by simp [stepT, h1]
    have hd : kOk val = false := by simp [kOk]; omega
    rw [hd] at C
    rw [e]
    clear e h1 hd
    go_enter Tryz.func131, Tryz.ntmps131
    go_wp2_with (first | (go_at_call 77; refine (C.out _).mono ?_; rintro e w' ⟨rfl, hw⟩; obtain rfl := hw.symm) | (go_at_call 119; refine (demand_no _ _).mono ?_; rintro e w' ⟨rfl, hw⟩; obtain rfl := hw.symm))
    exact ⟨rfl, ⟨_, rfl⟩, HB.out⟩

set_option maxHeartbeats 2000000 in
theorem lift_bin (sb : Nat) (vars op val : Int) (st : List Tree) (w : World) (hl : st.length ≤ 900) (h : Stk w sb st) (n1 : op ≠ 1) (n2 : op ≠ 2) (n3 : op ≠ 3) (n13 : op ≠ 13) (n19 : op ≠ 19) :
    Calls Tryz.prog 131 #[.pointer (some ⟨sb, 0, none⟩), .agg #[.int .i64 op, .int .i64 val], .int .i64 vars] w (LiftEnd sb w (stepT vars op val st)) := by
  have hlt := h.lt
  have HS := hid (h.below (below1 w (.cells #[.int .i64 op, .int .i64 val] 146)))
  have HB := hid ((below1 w (.cells #[.int .i64 op, .int .i64 val] 146)).mono (Nat.le_of_lt hlt))
  have hb0 := hid (heap_alloc_new w (.cells #[.int .i64 op, .int .i64 val] 146))
  clear h
  have e1 : (op == 1) = false := by simpa using n1
  have e2 : (op == 2) = false := by simpa using n2
  have e3 : (op == 3) = false := by simpa using n3
  have e13 : (op == 13) = false := by simpa using n13
  have e19 : (op == 19) = false := by simpa using n19
  by_cases h1 : val = 0
  · subst h1
    by_cases hst : st.length < 2
    · have e : stepT vars op 0 st = none := by
        match st, hst with
        | [], _ => simp [stepT, n1, n2, n3, n13, n19]
        | [r], _ => simp [stepT, n1, n2, n3, n13, n19]
      rw [e]
      clear e n1 n2 n3 n13 n19
      go_enter Tryz.func131, Tryz.ntmps131
      go_wp2_with (go_at_call 119; refine (demand_yes _ _).mono ?_; rintro e w' ⟨rfl, hw⟩; obtain rfl := hw.symm)
      refine wp_region_any (by kernel_rfl) ?_
      change wpAny _ _ _ _ _ _ _ (World.drew _)
      refine wpAny_take (i := 0) (v := _) rfl (by kernel_rfl) (by kernel_rfl) (by kernel_rfl) (fun _ _ _ h => h) (Or.inl ⟨by rfl, by intro w; go_simp; rfl⟩) ?_
      refine wpAny_take (i := 2) (v := _) rfl (by kernel_rfl) (by kernel_rfl) (by kernel_rfl) (fun _ _ _ h => h) (Or.inl ⟨by rfl, by intro w; go_simp; rfl⟩) ?_
      refine wpAny_ready (rs := [1, 3]) (by kernel_rfl) (by simp) ?_
      refine AllReady.cons rfl (fun K hK => ?_) (AllReady.cons rfl (fun K hK => ?_) AllReady.nil)
      · go_simp
        refine hK _ _ ?_
        clear hK K
        refine wpAny_ready (rs := [3]) (by kernel_rfl) (by simp) ?_
        refine AllReady.cons rfl (fun K hK => ?_) AllReady.nil
        go_simp
        refine (popBoth_no sb st _ hst HS.out.drew).mono ?_
        rintro e w1 ⟨⟨s, rfl⟩, ha⟩
        exact ⟨rfl, ⟨_, rfl⟩, HB.out.drew.trans (ha.below (by simp; omega))⟩
      · go_simp
        refine (popBoth_no sb st _ hst HS.out.drew).mono ?_
        rintro e w1 ⟨⟨s, rfl⟩, ha⟩
        exact ⟨rfl, ⟨_, rfl⟩, HB.out.drew.trans (ha.below (by simp; omega))⟩
    · obtain ⟨r, l, st', rfl⟩ : ∃ r l st', st = r :: l :: st' := by
        match st, hst with
        | [], h => exact absurd (by simp) h
        | [r], h => exact absurd (by simp) h
        | r :: l :: st', _ => exact ⟨r, l, st', rfl⟩
      have hl' : st'.length ≤ 900 := by simp at hl; omega
      clear hl hst
      by_cases hop : binOk op
      · have e : stepT vars op 0 (r :: l :: st') = some (.bin op l r, st') := by simp [stepT, n1, n2, n3, n13, n19, hop]
        rw [e]
        clear e n1 n2 n3 n13 n19
        obtain ⟨ly, lx, hly⟩ := tv_form l
        obtain ⟨ry, rx, hry⟩ := tv_form r
        obtain ⟨ty, tx, hty⟩ := tv_form (.bin op l r)
        have P1 := hid (popBoth_yes sb l r st')
        have P2 := hid (fun w => liftBinary_yes op l r w hop)
        rw [hly, hry] at P1 P2
        rw [hty] at P2
        have E := hid hty
        clear hly hry hty hop
        go_enter Tryz.func131, Tryz.ntmps131
        go_wp2_with (go_at_call 119; refine (demand_yes _ _).mono ?_; rintro e w' ⟨rfl, hw⟩; obtain rfl := hw.symm)
        go_region_with (first | (go_at_call 139; refine (P1.out _ hl' HS.out.drew).mono ?_; rintro e w1 ⟨rfl, hs, ha⟩; have PS := hid hs; have PA := hid ha; have pc := (pair_cells (away_pair (ha.drew0) hb0.out (by omega))).1; clear hs ha) | (go_at_call 138; refine (P2.out _).mono ?_; rintro e w3 ⟨rfl, hb⟩; have FS := hid (PS.out.below hb); have FB := hid ((HB.out.drew.trans (PA.out.below (by simp; omega))).trans (hb.mono (by have := PA.out.size; simp at this; omega))); clear hb))
        all_goals
          go_wp2
          go_ret
          exact ⟨by rw [E.out]; rfl, FS.out, FB.out⟩
      · have e : stepT vars op 0 (r :: l :: st') = none := by simp [stepT, n1, n2, n3, n13, n19, hop]
        rw [e]
        clear e n1 n2 n3 n13 n19
        obtain ⟨ly, lx, hly⟩ := tv_form l
        obtain ⟨ry, rx, hry⟩ := tv_form r
        have P1 := hid (popBoth_yes sb l r st')
        have P2 := hid (fun w => liftBinary_no op l r w hop)
        rw [hly, hry] at P1 P2
        clear hly hry hop
        go_enter Tryz.func131, Tryz.ntmps131
        go_wp2_with (go_at_call 119; refine (demand_yes _ _).mono ?_; rintro e w' ⟨rfl, hw⟩; obtain rfl := hw.symm)
        refine wp_region_any (by kernel_rfl) ?_
        change wpAny _ _ _ _ _ _ _ (World.drew _)
        refine wpAny_take (i := 0) (v := _) rfl (by kernel_rfl) (by kernel_rfl) (by kernel_rfl) (fun _ _ _ h => h) (Or.inl ⟨by rfl, by intro w; go_simp; rfl⟩) ?_
        refine wpAny_take (i := 2) (v := _) rfl (by kernel_rfl) (by kernel_rfl) (by kernel_rfl) (fun _ _ _ h => h) (Or.inl ⟨by rfl, by intro w; go_simp; rfl⟩) ?_
        refine wpAny_ready (rs := [1, 3]) (by kernel_rfl) (by simp) ?_
        refine AllReady.cons rfl (fun K hK => ?_) (AllReady.cons rfl (fun K hK => ?_) AllReady.nil)
        · go_simp
          refine hK _ _ ?_
          clear hK K
          refine wpAny_ready (rs := [3]) (by kernel_rfl) (by simp) ?_
          refine AllReady.cons rfl (fun K hK => ?_) AllReady.nil
          go_simp
          refine (P1.out _ hl' HS.out.drew).mono ?_
          rintro e w1 ⟨rfl, hs, ha⟩
          refine hK _ _ ?_
          clear hK K
          refine wpAny_ready (rs := [4]) (by kernel_rfl) (by simp) ?_
          refine AllReady.cons rfl (fun K hK => ?_) AllReady.nil
          go_simp
          refine (P2.out _).mono ?_
          rintro e w2 ⟨⟨s, rfl⟩, hb⟩
          exact ⟨rfl, ⟨_, rfl⟩, (HB.out.drew.trans (ha.below (by simp; omega))).trans (hb.mono (by have := ha.size; simp at this; omega))⟩
        · go_simp
          refine (P1.out _ hl' HS.out.drew).mono ?_
          rintro e w1 ⟨rfl, hs, ha⟩
          have pc := (pair_cells (away_pair (ha.drew0) hb0.out (by omega))).1
          refine hK _ _ ?_
          clear hK K
          refine wpAny_ready (rs := [1]) (by kernel_rfl) (by simp) ?_
          refine AllReady.cons rfl (fun K hK => ?_) AllReady.nil
          go_simp
          refine hK _ _ ?_
          clear hK K
          refine wpAny_ready (rs := [4]) (by kernel_rfl) (by simp) ?_
          refine AllReady.cons rfl (fun K hK => ?_) AllReady.nil
          go_simp
          refine (P2.out _).mono ?_
          rintro e w2 ⟨⟨s, rfl⟩, hb⟩
          exact ⟨rfl, ⟨_, rfl⟩, (HB.out.drew.trans (ha.below (by simp; omega))).trans (hb.mono (by have := ha.size; simp at this; omega))⟩
  · have e : stepT vars op val st = none := by simp [stepT, n1, n2, n19, h1]
    have hd : (val == 0) = false := by simpa using h1
    rw [e]
    clear e h1 n1 n2 n3 n13 n19
    go_enter Tryz.func131, Tryz.ntmps131
    go_wp2_with (go_at_call 119; refine (demand_no _ _).mono ?_; rintro e w' ⟨rfl, hw⟩; obtain rfl := hw.symm)
    exact ⟨rfl, ⟨_, rfl⟩, HB.out⟩

theorem lift_any (sb : Nat) (vars op val : Int) (st : List Tree) (w : World) (hl : st.length ≤ 900) (h : Stk w sb st) :
    Calls Tryz.prog 131 #[.pointer (some ⟨sb, 0, none⟩), .agg #[.int .i64 op, .int .i64 val], .int .i64 vars] w (LiftEnd sb w (stepT vars op val st)) := by
  by_cases n1 : op = 1
  · subst n1; exact lift_num sb vars val st w h
  by_cases n2 : op = 2
  · subst n2; exact lift_var sb vars val st w h
  by_cases n3 : op = 3
  · subst n3; exact lift_arg sb vars val st w h
  by_cases n13 : op = 13
  · subst n13; exact lift_not sb vars val st w hl h
  by_cases n19 : op = 19
  · subst n19; exact lift_conv sb vars val st w hl h
  exact lift_bin sb vars op val st w hl h n1 n2 n3 n13 n19

end Go.Proofs.YtkcbomhhdfgihaaGreat
