import Derived.Test.YthaklmdhkkfigaaGreatU4
namespace Go.Proofs.YthaklmdhkkfigaaGreat
open Go.RowKit Go.Sort
set_option linter.unusedVariables false
attribute [local go_sem ↓] Go.wp_at_zero Go.wp_at_succ

/-- How the program asks for a leaf: its Initial is -1. -/
def iniB (ss : List StD) (l : Int) : Bool := decide (0 ≤ l ∧ l < (ss.length : Int)) && decide (ini ss l.toNat = -1)
theorem iniB_leaf {ss : List StD} {tn : Nat} (g : GoodT ss tn) (l : Int) : iniB ss l = leafB ss l := by
  unfold iniB leafB
  rw [betB_within]
  by_cases h : 0 ≤ l ∧ l < (ss.length : Int)
  · rw [leaf_ini g (s := l.toNat) (by omega)]
  · rw [decide_eq_false h]; rfl

set_option maxHeartbeats 800000 in
theorem leafFits_any (so po : Option Addr) (n sc tn tc : Nat) (ss : List StD) (l : Int) (w : World) (hn : n ≤ 9223372036854775807) (hs : StatesOf w so n ss) :
    Calls Tryz.prog 99 #[.agg #[.slice so n sc, .slice po tn tc], .int .i64 l] w fun e w' => e = .returned (.bool (iniB ss l)) ∧ Below w.heap.size w w' := by
  have HL := hid hs.1
  have B := below1 w (.cells #[.slice so n sc, .slice po tn tc] 132)
  have BB := hid B
  by_cases h : 0 ≤ l ∧ l < (n : Int)
  · obtain ⟨s, rfl⟩ : ∃ s : Nat, l = s := ⟨l.toNat, by omega⟩
    have C1 := hid (within_of' (s : Int) (n : Int) true (by simpa using h))
    obtain ⟨b, off, rfl, hbl, hc⟩ := hs.2 (by omega)
    have k1 := (B.cell (p := ⟨b, off + s * 4 + 1, none⟩) hbl).trans (hc s (by omega)).2.1
    obtain ⟨iv, hiv⟩ : ∃ iv, iv = (ss.getD s st0).initial := ⟨_, rfl⟩
    rw [← hiv] at k1
    have E : Hid (iniB ss (s : Int) = decide (iv = -1)) := hid (by
      unfold iniB
      rw [HL.out, decide_eq_true h]
      show (true && decide ((ss.getD s st0).initial = -1)) = _
      rw [← hiv]; rfl)
    have hsn : (s : Int) < (n : Int) := h.2
    rw [E.out]
    clear hs hc hiv h B
    by_cases hi : iv = -1
    · have hib : (iv == -1) = true := by simpa using hi
      have HI := hid hi
      clear hi
      go_enter Tryz.func99, Tryz.ntmps99
      go_wp2_with (go_at_call 76; refine (C1.out _).mono ?_; rintro e wa ⟨rfl, hw⟩; obtain rfl := hw.symm)
      go_ret
      exact ⟨ret_bool (by simp [HI.out]), BB.out⟩
    · have hib : (iv == -1) = false := by simpa using hi
      have HI := hid hi
      clear hi
      go_enter Tryz.func99, Tryz.ntmps99
      go_wp2_with (go_at_call 76; refine (C1.out _).mono ?_; rintro e wa ⟨rfl, hw⟩; obtain rfl := hw.symm)
      go_ret
      exact ⟨ret_bool (by simp [HI.out]), BB.out⟩
  · have C1 := hid (within_of' l (n : Int) false (by simpa using h))
    have E : Hid (iniB ss l = false) := hid (by unfold iniB; rw [HL.out, decide_eq_false h]; rfl)
    rw [E.out]
    clear hs h B
    go_enter Tryz.func99, Tryz.ntmps99
    go_wp2_with (go_at_call 76; refine (C1.out _).mono ?_; rintro e wa ⟨rfl, hw⟩; obtain rfl := hw.symm)
    go_ret
    exact ⟨rfl, BB.out⟩

theorem entsEv : ∀ (args : Array Value) (w : World), (callFunc 129 args).run Tryz.prog w = .ok (.enter 129 args) w := enter_of (f := 129) Tryz.func129 (by kernel_rfl) rfl

set_option maxHeartbeats 800000 in
theorem evNot_any (x y sg : Int) (b : Bool) (hb : b = decide (0 ≤ x ∧ x < sg)) (P : Nat) (w : World) (hP : w.cell? ⟨P, 0, none⟩ = some (.int .i64 sg)) (hl : P < w.heap.size) :
    Calls Tryz.prog 129 #[.agg #[.int .i64 x, .int .i64 y], .pointer (some ⟨P, 0, none⟩)] w fun e w' => e = .returned (.bool (!b)) ∧ Below w.heap.size w w' := by
  have C := hid (within_of' x sg b hb)
  clear hb
  cases b
  all_goals
    go_enter Tryz.func129, Tryz.ntmps129
    go_wp2_with (go_at_call 76; refine (C.out _).mono ?_; rintro e wa ⟨rfl, hw⟩; obtain rfl := hw.symm)
    go_ret
    exact ⟨rfl, below1 _ _⟩

def evOut (es : List (Int × Int)) (sg : Int) (j : Nat) : Bool := !decide (0 ≤ (es.getD j (0, 0)).1 ∧ (es.getD j (0, 0)).1 < sg)

set_option maxHeartbeats 1600000 in
theorem indexEv_any (ao : Option Addr) (n c P : Nat) (sg : Int) (es : List (Int × Int)) (w : World) (hn : n ≤ 9223372036854775807) (hs : ItemsOf w ao n es) (hP : w.cell? ⟨P, 0, none⟩ = some (.int .i64 sg)) (hl : P < w.heap.size) :
    Calls Tryz.prog 157 #[.slice ao n c, .func (.func 129) #[] #[.pointer (some ⟨P, 0, none⟩)]] w fun e w' => e = .returned (.int .i64 (hitB (evOut es sg) n)) ∧ Below w.heap.size w w' := by
  have hent := entsEv
  go_enter Tryz.func157, Tryz.ntmps157
  go_wp2
  go_loopw [8] (fun i wr => ∃ k : Nat, k ≤ n ∧ i = .int .i64 k ∧ Hid (∀ j, j < k → evOut es sg j = false) ∧ Below w.heap.size w wr) (fun i _ => n - (intOf i).toNat)
  case atStart => exact ⟨0, Nat.zero_le _, rfl, hid (fun j h => absurd h (by omega)), Below.refl _ _⟩
  case round =>
    obtain ⟨k, hk, rfl, HP, hb⟩ := hrel
    have HB := hid hb
    by_cases hlt : k < n
    · obtain ⟨b, off, rfl, hbl, hc⟩ := hs.2 (by omega)
      have k1 := (hb.cell (p := ⟨b, off + k * 2, none⟩) hbl).trans (hc k hlt).1
      have k2 := (hb.cell (p := ⟨b, off + k * 2 + 1, none⟩) hbl).trans (hc k hlt).2
      obtain ⟨v, hv⟩ : ∃ v, v = (es.getD k (0, 0)).1 := ⟨_, rfl⟩
      obtain ⟨u, hu⟩ : ∃ u, u = (es.getD k (0, 0)).2 := ⟨_, rfl⟩
      rw [← hv] at k1
      rw [← hu] at k2
      obtain ⟨bb, hbb⟩ : ∃ bb, bb = decide (0 ≤ v ∧ v < sg) := ⟨_, rfl⟩
      have hz := hb.size
      have C := hid (evNot_any v u sg bb hbb P wr ((hb.cell (p := ⟨P, 0, none⟩) hl).trans hP) (by omega))
      have EO : Hid (evOut es sg k = !bb) := hid (by unfold evOut; rw [← hv, hbb])
      have kn : (k : Int) < (n : Int) := by omega
      clear hc hb hs hv hu hbb hP
      cases bb with
      | false =>
        have E : Hid (hitB (evOut es sg) n = (k : Int)) := hid (hit_some hlt (by rw [EO.out]; rfl) HP.out)
        go_wp2_with (go_at_call 129; refine C.out.mono ?_; rintro e w1 ⟨rfl, hb1⟩; have B1 := hid (HB.out.trans (hb1.mono HB.out.size)); clear hb1)
        go_ret
        exact ⟨ret_int E.out.symm, B1.out⟩
      | true =>
        go_wp2_with (go_at_call 129; refine C.out.mono ?_; rintro e w1 ⟨rfl, hb1⟩; have B1 := hid (HB.out.trans (hb1.mono HB.out.size)); clear hb1)
        go_roundw
        case rel =>
          refine ⟨k + 1, by omega, by go_num, hid (fun j hj => ?_), B1.out⟩
          by_cases e : j = k
          · subst e; rw [EO.out]; rfl
          · exact HP.out j (by omega)
        case measure => simp [intOf]; omega
    · have e : k = n := by omega
      subst e
      have E : Hid (hitB (evOut es sg) k = -1) := hid (hit_none HP.out)
      clear hb hs
      go_wp2
      go_ret
      exact ⟨ret_int E.out.symm, HB.out⟩

set_option maxHeartbeats 400000 in
theorem containsEv_any (ao : Option Addr) (n c P : Nat) (sg : Int) (es : List (Int × Int)) (w : World) (hn : n ≤ 9223372036854775807) (hs : ItemsOf w ao n es) (hP : w.cell? ⟨P, 0, none⟩ = some (.int .i64 sg)) (hl : P < w.heap.size) :
    Calls Tryz.prog 128 #[.slice ao n c, .func (.func 129) #[] #[.pointer (some ⟨P, 0, none⟩)]] w fun e w' => e = .returned (.bool (firstB (evOut es sg) n).isSome) ∧ Below w.heap.size w w' := by
  have C := hid (indexEv_any ao n c P sg es w hn hs hP hl)
  rw [hit_is]
  obtain ⟨r, hr⟩ : ∃ r, r = hitB (evOut es sg) n := ⟨_, rfl⟩
  rw [← hr] at C ⊢
  clear hs hr hP
  by_cases h0 : 0 ≤ r
  all_goals
    go_enter Tryz.func128, Tryz.ntmps128
    go_wp2_with (go_at_call 157; refine C.out.mono ?_; rintro e w1 ⟨rfl, hb1⟩; have B1 := hid hb1; clear hb1)
    go_ret
    exact ⟨ret_bool (by simp; try omega), B1.out⟩

theorem firstB_lt {P : Nat → Bool} {n k : Nat} (h : firstB P n = some k) : k < n := by
  have := List.mem_of_find?_eq_some h
  simpa using this

theorem evB_of (es : List (Int × Int)) (most sg : Int) : evB es most sg = (decide ((es.length : Int) ≤ most) && !(firstB (evOut es sg) es.length).isSome) := by
  unfold evB
  cases e : firstB (evOut es sg) es.length with
  | none =>
    have h := firstB_none_iff e
    have hp : evP es sg := fun i hi => by
      have := h i hi
      unfold evOut at this
      simpa using this
    by_cases hm : (es.length : Int) ≤ most
    · simp only [Option.isSome_none, Bool.not_false, Bool.and_true, decide_eq_decide]; exact ⟨fun h => h.2, fun h => ⟨hp, h⟩⟩
    · simp only [Option.isSome_none, Bool.not_false, Bool.and_true, decide_eq_decide]; exact ⟨fun h => h.2, fun h => ⟨hp, h⟩⟩
  | some k =>
    have hk := firstB_is e
    have hkl : k < es.length := firstB_lt e
    simp only [Option.isSome_some, Bool.not_true, Bool.and_false, decide_eq_false_iff_not]
    intro h
    have := h.1 k hkl
    unfold evOut at hk
    simp only [Bool.not_eq_true', decide_eq_false_iff_not] at hk
    exact hk this

set_option maxHeartbeats 800000 in
theorem eventsFit_any (ao : Option Addr) (n c : Nat) (es : List (Int × Int)) (most sg : Int) (w : World) (hn : n ≤ 9223372036854775807) (hs : ItemsOf w ao n es) :
    Calls Tryz.prog 101 #[.slice ao n c, .int .i64 most, .int .i64 sg] w fun e w' => e = .returned (.bool (evB es most sg)) ∧ Below w.heap.size w w' := by
  have hmf : ∀ (fn : Fn) (first cap : Array Value) (w : World), (Instr.makeFunc fn first cap).run Tryz.prog w = .ok (.func fn first cap) w := fun _ _ _ _ => rfl
  have C := hid (containsEv_any ao n c w.heap.size sg es (w.alloc (.cells #[.int .i64 sg] 3)) hn (hs.below (below1 _ _)) (by simp) (by simp))
  have E := hid (evB_of es most sg)
  rw [hs.1] at E
  rw [E.out]
  obtain ⟨r, hr⟩ : ∃ r, r = (firstB (evOut es sg) n).isSome := ⟨_, rfl⟩
  rw [← hr] at C ⊢
  have BB := hid (below1 w (.cells #[.int .i64 sg] 3))
  clear hs hr E
  by_cases hm : (n : Int) ≤ most
  · have hmd : decide ((n : Int) ≤ most) = true := by simpa using hm
    rw [hmd]
    clear hmd
    cases r
    all_goals
      go_enter Tryz.func101, Tryz.ntmps101
      go_wp2_with (go_at_call 128; refine C.out.mono ?_; rintro e w1 ⟨rfl, hb1⟩; have B1 := hid ((below1 _ _).trans (hb1.mono (by simp))); clear hb1)
      go_ret
      exact ⟨rfl, B1.out⟩
  · have hmd : decide ((n : Int) ≤ most) = false := by simpa using hm
    rw [hmd]
    clear hmd
    go_enter Tryz.func101, Tryz.ntmps101
    go_wp2_with fail
    go_ret
    exact ⟨rfl, BB.out⟩
end Go.Proofs.YthaklmdhkkfigaaGreat
