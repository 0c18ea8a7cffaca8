import Derived.Test.YtdpejnacganadaaGreatN7
namespace Go.Proofs.YtdpejnacganadaaGreat
open Go.RowKit Go.Sort

theorem Stk.new (w : World) : Stk (w.alloc (.cells #[.slice none 0 0] 131)) w.heap.size [] :=
  ⟨_, heap_alloc_new _ _, by simpa using World.ownsRow_nil _ _ _ _⟩

set_option maxHeartbeats 1000000 in
theorem liftCode_any (ao : Option Addr) (n c : Nat) (its : List (Int × Int)) (vars : Int) (w : World) (hn : n ≤ 9223372036854775807) (hs : ItemsOf w ao n its) :
    Calls Tryz.prog 69 #[.slice ao n c, .int .i64 vars] w (CodeEnd w (liftT its vars)) := by
  by_cases hv : 0 ≤ vars ∧ vars ≤ 32
  · by_cases hl : 1 ≤ n ∧ n ≤ 200
    · obtain ⟨hv1, hv2⟩ := hv
      obtain ⟨hl1, hl2⟩ := hl
      have HL := hid hs.1
      have ET : Hid (liftT its vars = onlyT (runT vars its [])) := hid (by unfold liftT; rw [if_pos ⟨⟨hv1, hv2⟩, by rw [hs.1]; exact ⟨hl1, hl2⟩⟩])
      have i1 : (1 : Int) ≤ (n : Int) := by omega
      have i2 : (n : Int) ≤ 200 := by omega
      go_enter Tryz.func69, Tryz.ntmps69
      go_wp2_with (go_at_call 50; refine (demand_yes _ _).mono ?_; rintro e w' ⟨rfl, hw⟩; obtain rfl := hw.symm)
      go_loopw [26] (fun i wr => ∃ k : Nat, k ≤ n ∧ i = .int .i64 k ∧ ∃ st, runT vars (its.take k) [] = some st ∧ st.length ≤ k ∧ Stk wr w.heap.size st ∧ Below w.heap.size w wr) (fun i _ => n - (intOf i).toNat)
      case atStart => exact ⟨0, Nat.zero_le _, rfl, [], rfl, Nat.le_refl _, Stk.new w, below1 _ _⟩
      case round =>
        obtain ⟨k, hk, rfl, st, hrun, hst, hS, hb⟩ := hrel
        have HS := hid hS
        have HB := hid hb
        have HR := hid hrun
        have hsz := hS.lt
        clear hrun
        by_cases hlt : k < n
        · obtain ⟨b, off, rfl, hbl, hc⟩ := hs.2 (by omega)
          obtain ⟨x, ex⟩ : ∃ x, x = its.getD k (0, 0) := ⟨_, rfl⟩
          obtain ⟨x1, x2⟩ := x
          have k1 : wr.cell? ⟨b, off + k * 2, none⟩ = some (.int .i64 x1) := (hb.cell (p := ⟨b, off + k * 2, none⟩) hbl).trans (by rw [(hc k hlt).1, ← ex])
          have k2 : wr.cell? ⟨b, off + k * 2 + 1, none⟩ = some (.int .i64 x2) := (hb.cell (p := ⟨b, off + k * 2 + 1, none⟩) hbl).trans (by rw [(hc k hlt).2, ← ex])
          have EX := hid ex
          have L := hid (lift_any w.heap.size vars x1 x2 st (wr.alloc (.cells #[.int .i64 x1, .int .i64 x2] 96)) (by omega) (hS.below (below1 _ _)))
          clear ex hc hs hb hS
          cases hstep : stepT vars x1 x2 st with
          | some p =>
            obtain ⟨t, st'⟩ := p
            have hlen := hid (stepT_len hstep)
            have HT := hid hstep
            rw [hstep] at L
            obtain ⟨y, z, hy⟩ := tv_form t
            have PU := hid (fun w1 h => push_any w.heap.size t st' w1 (by have := hlen.out; simp at this; omega) h)
            unfold LiftEnd at L
            simp only [hy] at L PU
            clear hstep hy
            go_wp2_with (first | (go_at_call 76; refine L.out.mono ?_; rintro e w1 ⟨rfl, hs1, hb1⟩; have S1 := hid hs1; have B1 := hid hb1; clear hs1 hb1) | (go_at_call 75; refine (PU.out _ S1.out).mono ?_; rintro e w2 ⟨rfl, hs2, hb2⟩; have S2 := hid hs2; have B2 := hid hb2; clear hs2 hb2))
            go_roundw
            case rel =>
              refine ⟨k + 1, by omega, by go_num, t :: st', ?_, by have := hlen.out; simp at this ⊢; omega, S2.out, ((HB.out.alloc (by omega) _).trans B1.out).trans B2.out⟩
              rw [take_succ_at (by rw [HL.out]; exact hlt), runT_append, HR.out, ← EX.out]
              simp [runT, HT.out]
            case measure => simp [intOf]; omega
          | none =>
            have HT := hid hstep
            rw [hstep] at L
            have EN : Hid (liftT its vars = none) := hid (by
              rw [ET.out]
              have e : runT vars its [] = none := by
                rw [split_at (its := its) (k := k) (by rw [HL.out]; exact hlt), runT_append, HR.out, ← EX.out]
                simp [runT, HT.out]
              rw [e]; rfl)
            unfold LiftEnd at L
            simp only at L
            clear hstep
            go_wp2_with (go_at_call 76; refine L.out.mono ?_; rintro e w1 ⟨⟨s, rfl⟩, hb1⟩; have B1 := hid hb1; clear hb1)
            refine ⟨rfl, ?_⟩
            rw [EN.out]
            exact ⟨⟨_, rfl⟩, (HB.out.alloc (by omega) _).trans B1.out⟩
        · have e : k = n := by omega
          subst e
          have hrun : runT vars its [] = some st := by have := HR.out; rwa [List.take_of_length_le (by rw [HL.out]; exact Nat.le_refl _)] at this
          rw [hrun] at ET
          obtain ⟨v, hv, ho⟩ := hS
          have hc0 := cell_of_one hv
          have HO := hid ho
          have HV := hid hv
          clear hs hb hrun ho hv
          by_cases h1 : st.length = 1
          · obtain ⟨t, rfl⟩ : ∃ t, st = [t] := by
              match st, h1 with
              | [t], _ => exact ⟨t, rfl⟩
            have ho := HO.out
            obtain ⟨g, cap, rfl⟩ : ∃ g cap, v = .slice (some ⟨g, 0, none⟩) 1 cap := by
              rcases ho.2 with ⟨h, h0⟩ | ⟨g, cap, cur, h, _⟩
              · simp at h0
              · exact ⟨_, _, h⟩
            have hcell : wr.cell? ⟨g, 0, none⟩ = some (tv t) := by
              have := World.ownsRow.cellAt (n := 1) (size := 1) ho 0 (by omega)
              rw [this]; simp
            obtain ⟨y, z, hy⟩ := tv_form t
            rw [hy] at hcell
            have EY := hid hy
            clear ho hy
            go_wp2_with (go_at_call 50; refine (demand_yes _ _).mono ?_; rintro e w' ⟨rfl, hw⟩; obtain rfl := hw.symm)
            go_ret
            rw [ET.out]
            exact ⟨by rw [EY.out]; rfl, HB.out⟩
          · obtain ⟨ao', m, cap, hm, rfl⟩ : ∃ ao' m cap, m ≠ 1 ∧ v = .slice ao' m cap := by
              rcases HO.out.2 with ⟨h, h0⟩ | ⟨g, cap, cur, h, _⟩
              · exact ⟨none, 0, 0, by omega, h⟩
              · exact ⟨_, _, _, h1, h⟩
            have hne : ((m : Int) == 1) = false := by simp; omega
            have EN : Hid (liftT its vars = none) := hid (by
              rw [ET.out]
              match st, h1 with
              | [], _ => rfl
              | [t], h => exact absurd rfl h
              | _ :: _ :: _, _ => rfl)
            go_wp2_with (go_at_call 50; refine (demand_no _ _).mono ?_; rintro e w' ⟨rfl, hw⟩; obtain rfl := hw.symm)
            refine ⟨rfl, ?_⟩
            rw [EN.out]
            exact ⟨⟨_, rfl⟩, HB.out⟩
    · have EN : Hid (liftT its vars = none) := hid (by unfold liftT; rw [if_neg (fun h => hl (by rw [hs.1] at h; exact h.2))])
      obtain ⟨hv1, hv2⟩ := hv
      clear hs
      by_cases h1 : 1 ≤ n
      · have h2 : ¬ n ≤ 200 := fun h => hl ⟨h1, h⟩
        have i1 : (1 : Int) ≤ (n : Int) := by omega
        have i2 : decide ((n : Int) ≤ 200) = false := by simp; omega
        clear hl
        go_enter Tryz.func69, Tryz.ntmps69
        go_wp2_with (first | (go_at_call_of 50 (Value.bool true); refine (demand_yes _ _).mono ?_; rintro e w' ⟨rfl, hw⟩; obtain rfl := hw.symm) | (go_at_call_of 50 (Value.bool false); refine (demand_no _ _).mono ?_; rintro e w' ⟨rfl, hw⟩; obtain rfl := hw.symm))
        refine ⟨rfl, ?_⟩
        rw [EN.out]
        exact ⟨⟨_, rfl⟩, Below.refl _ _⟩
      · have i1 : ¬ (1 : Int) ≤ (n : Int) := by omega
        clear hl
        go_enter Tryz.func69, Tryz.ntmps69
        go_wp2_with (first | (go_at_call_of 50 (Value.bool true); refine (demand_yes _ _).mono ?_; rintro e w' ⟨rfl, hw⟩; obtain rfl := hw.symm) | (go_at_call_of 50 (Value.bool false); refine (demand_no _ _).mono ?_; rintro e w' ⟨rfl, hw⟩; obtain rfl := hw.symm))
        refine ⟨rfl, ?_⟩
        rw [EN.out]
        exact ⟨⟨_, rfl⟩, Below.refl _ _⟩
  · have EN : Hid (liftT its vars = none) := hid (by unfold liftT; rw [if_neg (fun h => hv h.1)])
    clear hs
    by_cases h1 : 0 ≤ vars
    · have h2 : ¬ vars ≤ 32 := fun h => hv ⟨h1, h⟩
      clear hv
      go_enter Tryz.func69, Tryz.ntmps69
      go_wp2_with (go_at_call 50; refine (demand_no _ _).mono ?_; rintro e w' ⟨rfl, hw⟩; obtain rfl := hw.symm)
      refine ⟨rfl, ?_⟩
      rw [EN.out]
      exact ⟨⟨_, rfl⟩, Below.refl _ _⟩
    · clear hv
      go_enter Tryz.func69, Tryz.ntmps69
      go_wp2_with (go_at_call 50; refine (demand_no _ _).mono ?_; rintro e w' ⟨rfl, hw⟩; obtain rfl := hw.symm)
      refine ⟨rfl, ?_⟩
      rw [EN.out]
      exact ⟨⟨_, rfl⟩, Below.refl _ _⟩

/-- Does the lift go through? -/
def okT (its : List (Int × Int)) (vars : Int) : Bool := (liftT its vars).isSome

theorem nil_eq (w : World) : (binOp BinOp.eql 60 .nilIface .nilIface).run Tryz.prog w = .ok (.bool true) w := by kernel_rfl

set_option maxRecDepth 100000 in
theorem err_eq (s : ByteArray) (w : World) : (binOp BinOp.eql 60 (.iface 89 (.string s)) .nilIface).run Tryz.prog w = .ok (.bool false) w := by kernel_rfl

end Go.Proofs.YtdpejnacganadaaGreat
