import Derived.Test.YtkcbomhhdfgihaaGreatN7
namespace Go.Proofs.YtkcbomhhdfgihaaGreat
open Go.RowKit Go.Sort

theorem Stk.new (w : World) : Stk (w.alloc (.cells #[.slice none 0 0] 215)) w.heap.size [] :=
  ⟨_, heap_alloc_new _ _, by simpa using World.ownsRow_nil _ _ _ _⟩

set_option maxHeartbeats 1000000 in
theorem liftCode_any (ao : Option Addr) (n c : Nat) (its : List (Int × Int)) (vars : Int) (w : World) (hn : n ≤ 9223372036854775807) (hs : ItemsOf w ao n its) :
    Calls Tryz.prog 122 #[.slice ao n c, .int .i64 vars] w (CodeEnd w (liftT its vars)) := by
  by_cases hv : 0 ≤ vars ∧ vars ≤ 32
  · by_cases hl : 1 ≤ n ∧ n ≤ 200
    · obtain ⟨hv1, hv2⟩ := hv
      obtain ⟨hl1, hl2⟩ := hl
      have HL := hid hs.1
      have ET : Hid (liftT its vars = onlyT (runT vars its [])) := hid (by unfold liftT; rw [if_pos ⟨⟨hv1, hv2⟩, by rw [hs.1]; exact ⟨hl1, hl2⟩⟩])
      have i1 : (1 : Int) ≤ (n : Int) := by omega
      have i2 : (n : Int) ≤ 200 := by omega
      go_enter Tryz.func122, Tryz.ntmps122
      go_wp2_with (go_at_call 119; refine (demand_yes _ _).mono ?_; rintro e w' ⟨rfl, hw⟩; obtain rfl := hw.symm)
      go_loopw [26] (fun i wr => ∃ k : Nat, k ≤ n ∧ i = .int .i64 k ∧ ∃ st, runT vars (its.take k) [] = some st ∧ st.length ≤ k ∧ Stk wr w.heap.size st ∧ Below w.heap.size w wr) (fun i _ => n - (intOf i).toNat)
      case atStart => exact ⟨0, Nat.zero_le _, rfl, [], rfl, Nat.le_refl _, Stk.new w, below1 _ _⟩
      case round =>
        obtain ⟨k, hk, rfl, st, hrun, hst, hS, hb⟩ := hrel
        have HS := hid hS
        have HB := hid hb
        have HR := hid hrun
        have hsz := hS.lt
        clear hrun
        by_cases hlt : k < n
        · obtain ⟨b, off, rfl, hbl, hc⟩ := hs.2 (by omega)
          obtain ⟨x, ex⟩ : ∃ x, x = its.getD k (0, 0) := ⟨_, rfl⟩
          obtain ⟨x1, x2⟩ := x
          have k1 : wr.cell? ⟨b, off + k * 2, none⟩ = some (.int .i64 x1) := (hb.cell (p := ⟨b, off + k * 2, none⟩) hbl).trans (by rw [(hc k hlt).1, ← ex])
          have k2 : wr.cell? ⟨b, off + k * 2 + 1, none⟩ = some (.int .i64 x2) := (hb.cell (p := ⟨b, off + k * 2 + 1, none⟩) hbl).trans (by rw [(hc k hlt).2, ← ex])
          have EX := hid ex
          have L := hid (lift_any w.heap.size vars x1 x2 st (wr.alloc (.cells #[.int .i64 x1, .int .i64 x2] 146)) (by omega) (hS.below (below1 _ _)))
          clear ex hc hs hb hS
          cases hstep : stepT vars x1 x2 st with
          | some p =>
            obtain ⟨t, st'⟩ := p
            have hlen := hid (stepT_len hstep)
            have HT := hid hstep
            rw [hstep] at L
            obtain ⟨y, z, hy⟩ := tv_form t
            have PU := hid (fun w1 h => push_any w.heap.size t st' w1 (by have := hlen.out; simp at this; omega) h)
            unfold LiftEnd at L
            simp only [hy] at L PU
            clear hstep hy
            go_wp2_with (first | (go_at_call 131; refine L.out.mono ?_; rintro e w1 ⟨rfl, hs1, hb1⟩; have S1 := hid hs1; have B1 := hid hb1; clear hs1 hb1) | (go_at_call 130; refine (PU.out _ S1.out).mono ?_; rintro e w2 ⟨rfl, hs2, hb2⟩; have S2 := hid hs2; have B2 := hid hb2; clear hs2 hb2))
            go_roundw
            case rel =>
              refine ⟨k + 1, by omega, by go_num, t :: st', ?_, by have := hlen.out; simp at this ⊢; omega, S2.out, ((HB.out.alloc (by omega) _).trans B1.out).trans B2.out⟩
              rw [take_succ_at (by rw [HL.out]; exact hlt), runT_append, HR.out, ← EX.out]
              simp [runT, HT.out]
            case measure => simp [intOf]; omega
          | none =>
            have HT := hid hstep
            rw [hstep] at L
            have EN : Hid (liftT its vars = none) := hid (by
              rw [ET.out]
              have e : runT vars its [] = none := by
                rw [split_at (its := its) (k := k) (by rw [HL.out]; exact hlt), runT_append, HR.out, ← EX.out]
                simp [runT, HT.out]
              rw [e]; rfl)
            unfold LiftEnd at L
            simp only at L
            clear hstep
            go_wp2_with (go_at_call 131; refine L.out.mono ?_; rintro e w1 ⟨⟨s, rfl⟩, hb1⟩; have B1 := hid hb1; clear hb1)
            refine ⟨rfl, ?_⟩
            rw [EN.out]
            exact ⟨⟨_, rfl⟩, (HB.out.alloc (by omega) _).trans B1.out⟩
        · have e : k = n := by omega
          subst e
          have hrun : runT vars its [] = some st := by have := HR.out; rwa [List.take_of_length_le (by rw [HL.out]; exact Nat.le_refl _)] at this
          rw [hrun] at ET
          obtain ⟨v, hv, ho⟩ := hS
          have hc0 := cell_of_one hv
          have HO := hid ho
          have HV := hid hv
          clear hs hb hrun ho hv
          by_cases h1 : st.length = 1
          · obtain ⟨t, rfl⟩ : ∃ t, st = [t] := by
              match st, h1 with
              | [t], _ => exact ⟨t, rfl⟩
            have ho := HO.out
            obtain ⟨g, cap, rfl⟩ : ∃ g cap, v = .slice (some ⟨g, 0, none⟩) 1 cap := by
              rcases ho.2 with ⟨h, h0⟩ | ⟨g, cap, cur, h, _⟩
              · simp at h0
              · exact ⟨_, _, h⟩
            have hcell : wr.cell? ⟨g, 0, none⟩ = some (tv t) := by
              have := World.ownsRow.cellAt (n := 1) (size := 1) ho 0 (by omega)
              rw [this]; simp
            obtain ⟨y, z, hy⟩ := tv_form t
            rw [hy] at hcell
            have EY := hid hy
            clear ho hy
            go_wp2_with (go_at_call 119; refine (demand_yes _ _).mono ?_; rintro e w' ⟨rfl, hw⟩; obtain rfl := hw.symm)
            go_ret
            rw [ET.out]
            exact ⟨by rw [EY.out]; rfl, HB.out⟩
          · obtain ⟨ao', m, cap, hm, rfl⟩ : ∃ ao' m cap, m ≠ 1 ∧ v = .slice ao' m cap := by
              rcases HO.out.2 with ⟨h, h0⟩ | ⟨g, cap, cur, h, _⟩
              · exact ⟨none, 0, 0, by omega, h⟩
              · exact ⟨_, _, _, h1, h⟩
            have hne : ((m : Int) == 1) = false := by simp; omega
            have EN : Hid (liftT its vars = none) := hid (by
              rw [ET.out]
              match st, h1 with
              | [], _ => rfl
              | [t], h => exact absurd rfl h
              | _ :: _ :: _, _ => rfl)
            go_wp2_with (go_at_call 119; refine (demand_no _ _).mono ?_; rintro e w' ⟨rfl, hw⟩; obtain rfl := hw.symm)
            refine ⟨rfl, ?_⟩
            rw [EN.out]
            exact ⟨⟨_, rfl⟩, HB.out⟩
    · have EN : Hid (liftT its vars = none) := hid (by unfold liftT; rw [if_neg (fun h => hl (by rw [hs.1] at h; exact h.2))])
      obtain ⟨hv1, hv2⟩ := hv
      clear hs
      by_cases h1 : 1 ≤ n
      · have h2 : ¬ n ≤ 200 := fun h => hl ⟨h1, h⟩
        have i1 : (1 : Int) ≤ (n : Int) := by omega
        have i2 : decide ((n : Int) ≤ 200) = false := by simp; omega
        clear hl
        go_enter Tryz.func122, Tryz.ntmps122
        go_wp2_with (first | (go_at_call_of 119 (Value.bool true); refine (demand_yes _ _).mono ?_; rintro e w' ⟨rfl, hw⟩; obtain rfl := hw.symm) | (go_at_call_of 119 (Value.bool false); refine (demand_no _ _).mono ?_; rintro e w' ⟨rfl, hw⟩; obtain rfl := hw.symm))
        refine ⟨rfl, ?_⟩
        rw [EN.out]
        exact ⟨⟨_, rfl⟩, Below.refl _ _⟩
      · have i1 : ¬ (1 : Int) ≤ (n : Int) := by omega
        clear hl
        go_enter Tryz.func122, Tryz.ntmps122
        go_wp2_with (first | (go_at_call_of 119 (Value.bool true); refine (demand_yes _ _).mono ?_; rintro e w' ⟨rfl, hw⟩; obtain rfl := hw.symm) | (go_at_call_of 119 (Value.bool false); refine (demand_no _ _).mono ?_; rintro e w' ⟨rfl, hw⟩; obtain rfl := hw.symm))
        refine ⟨rfl, ?_⟩
        rw [EN.out]
        exact ⟨⟨_, rfl⟩, Below.refl _ _⟩
  · have EN : Hid (liftT its vars = none) := hid (by unfold liftT; rw [if_neg (fun h => hv h.1)])
    clear hs
    by_cases h1 : 0 ≤ vars
    · have h2 : ¬ vars ≤ 32 := fun h => hv ⟨h1, h⟩
      clear hv
      go_enter Tryz.func122, Tryz.ntmps122
      go_wp2_with (go_at_call 119; refine (demand_no _ _).mono ?_; rintro e w' ⟨rfl, hw⟩; obtain rfl := hw.symm)
      refine ⟨rfl, ?_⟩
      rw [EN.out]
      exact ⟨⟨_, rfl⟩, Below.refl _ _⟩
    · clear hv
      go_enter Tryz.func122, Tryz.ntmps122
      go_wp2_with (go_at_call 119; refine (demand_no _ _).mono ?_; rintro e w' ⟨rfl, hw⟩; obtain rfl := hw.symm)
      refine ⟨rfl, ?_⟩
      rw [EN.out]
      exact ⟨⟨_, rfl⟩, Below.refl _ _⟩

theorem ents29 : ∀ (args : Array Value) (w : World), (callFunc 121 args).run Tryz.prog w = .ok (.enter 121 args) w := enter_of (f := 121) Tryz.func121 (by kernel_rfl) rfl

/-- Does the lift go through? -/
def okT (its : List (Int × Int)) (vars : Int) : Bool := (liftT its vars).isSome

theorem nil_eq (w : World) : (binOp BinOp.eql 159 .nilIface .nilIface).run Tryz.prog w = .ok (.bool true) w := by kernel_rfl

set_option maxRecDepth 100000 in
theorem err_eq (s : ByteArray) (w : World) : (binOp BinOp.eql 159 (.iface 179 (.string s)) .nilIface).run Tryz.prog w = .ok (.bool false) w := by kernel_rfl

set_option maxHeartbeats 1000000 in
theorem implCodeOK_any (ao : Option Addr) (n c : Nat) (its : List (Int × Int)) (vars : Int) (w : World) (hn : n ≤ 9223372036854775807) (hs : ItemsOf w ao n its) :
    Calls Tryz.prog 100 #[.slice ao n c, .int .i64 vars] w fun e w' => e = .returned (.bool (okT its vars)) ∧ Below w.heap.size w w' := by
  have hmf : ∀ (fn : Fn) (first cap : Array Value) (w : World), (Instr.makeFunc fn first cap).run Tryz.prog w = .ok (.func fn first cap) w := fun _ _ _ _ => rfl
  obtain ⟨W, hW⟩ : ∃ W, W = ((w.alloc (.cells #[.slice ao n c] 116)).alloc (.cells #[.int .i64 vars] 3)) := ⟨_, rfl⟩
  have hWs : W.heap.size = w.heap.size + 1 + 1 := by rw [hW]; simp
  have bW : Below w.heap.size w W := by rw [hW]; exact below2 _ _ _
  have c0 : W.cell? ⟨w.heap.size, 0, none⟩ = some (.slice ao n c) := by rw [hW]; simp [go_sem]
  have c1 : W.cell? ⟨w.heap.size + 1, 0, none⟩ = some (.int .i64 vars) := by rw [hW]; simp [go_sem]
  have L : Calls Tryz.prog 121 #[.pointer (some ⟨w.heap.size, 0, none⟩), .pointer (some ⟨w.heap.size + 1, 0, none⟩)] (W.alloc (.cells #[.nilIface] 159)) fun e w' => (match liftT its vars with | some _ => e = .returned (.tuple #[]) | none => Pan e) ∧ Below (W.heap.size + 1) (W.alloc (.cells #[.nilIface] 159)) w' := by
    have d0 : (W.alloc (.cells #[.nilIface] 159)).cell? ⟨w.heap.size, 0, none⟩ = some (.slice ao n c) := by rw [← c0]; exact (below1 _ _).cell (p := ⟨w.heap.size, 0, none⟩) (by simp; omega)
    have d1 : (W.alloc (.cells #[.nilIface] 159)).cell? ⟨w.heap.size + 1, 0, none⟩ = some (.int .i64 vars) := by rw [← c1]; exact (below1 _ _).cell (p := ⟨w.heap.size + 1, 0, none⟩) (by simp; omega)
    have H := hid (liftCode_any ao n c its vars (W.alloc (.cells #[.nilIface] 159)) hn (hs.below (bW.trans ((below1 _ _).mono (by omega)))))
    have hz : (W.alloc (.cells #[.nilIface] 159)).heap.size = W.heap.size + 1 := by simp
    obtain ⟨V, hV⟩ : ∃ V, V = W.alloc (.cells #[.nilIface] 159) := ⟨_, rfl⟩
    rw [← hV] at d0 d1 H hz ⊢
    clear hV c0 c1 bW hW hs
    cases hlt : liftT its vars with
    | some t =>
      rw [hlt] at H
      unfold CodeEnd at H
      simp only at H ⊢
      rw [← hz]
      clear hlt hz hWs
      go_enter Tryz.func121, Tryz.ntmps121
      go_wp2_with (go_at_call 122; refine H.out.mono ?_; rintro e w1 ⟨rfl, hb⟩; have HB := hid hb; clear hb)
      go_end0
      exact ⟨rfl, HB.out⟩
    | none =>
      rw [hlt] at H
      unfold CodeEnd at H
      simp only at H ⊢
      rw [← hz]
      clear hlt hz hWs
      go_enter Tryz.func121, Tryz.ntmps121
      go_wp2_with (go_at_call 122; refine H.out.mono ?_; rintro e w1 ⟨⟨s, rfl⟩, hb⟩; have HB := hid hb; clear hb)
      exact ⟨rfl, ⟨_, rfl⟩, HB.out⟩
  cases hlt : liftT its vars with
  | some t =>
    rw [hlt] at L
    have A := hid (attempt_yes 121 _ W (fun _ => True) ents29 (L.mono fun e w' ⟨h1, h2⟩ => ⟨h1, trivial, h2⟩))
    have EK : Hid (okT its vars = true) := hid (by simp [okT, hlt])
    have HW := hid hW
    have BW := hid bW
    have hq := nil_eq
    rw [hW] at A
    clear hlt L c0 c1 bW hs
    go_enter Tryz.func100, Tryz.ntmps100
    go_wp2_with (go_at_call 97; refine A.out.mono ?_; rintro e w1 ⟨rfl, w2, _, hb2, hw1⟩; have HB := hid hb2; have H1 := hid hw1; clear hb2 hw1)
    go_ret
    refine ⟨ret_bool EK.out.symm, ?_⟩
    rw [H1.out]
    have hb := HB.out
    rw [← HW.out] at hb ⊢
    exact (BW.out.trans ((below1 _ _).mono (by omega))).trans (hb.mono (by omega)) |>.setCell (by simp; omega) _
  | none =>
    rw [hlt] at L
    have A := hid (attempt_no 121 _ W ents29 L)
    have EK : Hid (okT its vars = false) := hid (by simp [okT, hlt])
    have HW := hid hW
    have BW := hid bW
    have hq := err_eq
    rw [hW] at A
    clear hlt L c0 c1 bW hs
    go_enter Tryz.func100, Tryz.ntmps100
    go_wp2_with (go_at_call 97; refine A.out.mono ?_; rintro e w1 ⟨⟨s, rfl⟩, hb2⟩; have HB := hid hb2; clear hb2)
    go_ret
    refine ⟨ret_bool EK.out.symm, ?_⟩
    have hb := HB.out
    rw [← HW.out] at hb
    exact BW.out.trans (hb.mono (by omega))

end Go.Proofs.YtkcbomhhdfgihaaGreat
