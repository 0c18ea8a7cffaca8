import Derived.Test.YtjeckanjekgkkaaS5
namespace Go.Proofs.Ytjeckanjekgkkaa
open Go.RowKit Go.Sort
attribute [local go_sem ↓] Go.wp_at_zero Go.wp_at_succ

/-- Has the question about that state an answer? -/
def askB (ss : List StD) (tn : Nat) (x : Int) : Bool := decide ((faultOf ss tn true).1 = 0) && betB x 0 ((ss.length : Int) - 1)
def ansA (ss : List StD) (tn : Nat) (x : Int) : List Nat := if askB ss tn x = true then up ss x.toNat else []
def ansD (ss : List StD) (tn : Nat) (x : Int) : List Nat := if askB ss tn x = true then down ss x.toNat else []
def ansM (ss : List StD) (tn : Nat) (f t : Int) : Int := if askB ss tn f = true ∧ askB ss tn t = true then dom ss f.toNat t.toNat else -2
theorem ask_good {ss : List StD} {tn : Nat} {x : Int} (h : askB ss tn x = true) : GoodT ss tn ∧ ∃ k : Nat, x = k ∧ k < ss.length := by
  unfold askB betB at h
  rw [Bool.and_eq_true, decide_eq_true_iff, decide_eq_true_iff] at h
  refine ⟨good_of h.1, x.toNat, by omega, by omega⟩
theorem lim_zero : limB ⟨0, 0, 0, 0⟩ = true := by simp [limB, limP]

set_option maxHeartbeats 800000 in
theorem l2Asked_any (so to : Option Addr) (n sc tn tc : Nat) (ss : List StD) (x : Int) (w : World) (hn : n ≤ 9223372036854775807) (htn : tn ≤ 9223372036854775807) (hs : StatesOf w so n ss) :
    Calls Try.prog 21 #[.agg #[.slice so n sc, .slice to tn tc], .int .i64 x] w fun e w' => e = .returned (.bool (askB ss tn x)) ∧ Below w.heap.size w w' := by
  have C := hid (l2TreeFault_any so to n sc tn tc ss 0 0 0 0 (w.alloc (.cells #[.slice so n sc, .slice to tn tc] 32)) hn htn (hs.below (below1 _ _)))
  rw [lim_zero] at C
  obtain ⟨fc, hfc⟩ : ∃ fc, fc = (faultOf ss tn true).1 := ⟨_, rfl⟩
  obtain ⟨fp, hfp⟩ : ∃ fp, fp = (faultOf ss tn true).2 := ⟨_, rfl⟩
  have hl := hs.1
  by_cases h0 : fc = 0
  · have hg : GoodT ss tn := good_of (lim := true) (by rw [← hfc]; exact h0)
    have hn1 := hg.n1
    have hn2 := hg.n2
    obtain ⟨bb, hbb⟩ : ∃ bb, bb = betB x 0 ((n : Int) - 1) := ⟨_, rfl⟩
    have CB := hid (l1Between_of x 0 ((n : Int) - 1) bb hbb)
    have E : Hid (askB ss tn x = bb) := hid (by unfold askB; rw [hl, ← hfc, h0, ← hbb]; simp)
    rw [E.out]
    rw [← hfc, ← hfp, h0] at C
    have hn3 : 1 ≤ n := by omega
    have hn4 : n ≤ 200 := by omega
    clear hs hfc hfp hbb hl h0 hg hn1 hn2
    go_enter Try.func21, Try.ntmps21
    go_wp2_with (first | (go_at_call 39; refine C.out.mono ?_; rintro e w1 ⟨rfl, hb1⟩; have B1 := hid (below_two hb1); obtain ⟨q0, q1⟩ := two_cells B1.out.2; clear hb1) | (go_at_call 40; refine (CB.out _).mono ?_; rintro e w2 ⟨rfl, hw⟩; obtain rfl := hw.symm))
    go_ret
    exact ⟨rfl, B1.out.1⟩
  · have E : Hid (askB ss tn x = false) := hid (by unfold askB; rw [← hfc]; simp [h0])
    have h0' : (fc == 0) = false := by simpa using h0
    rw [E.out]
    rw [← hfc, ← hfp] at C
    clear hs hfc hfp
    go_enter Try.func21, Try.ntmps21
    go_wp2_with (go_at_call 39; refine C.out.mono ?_; rintro e w1 ⟨rfl, hb1⟩; have B1 := hid (below_two hb1); obtain ⟨q0, q1⟩ := two_cells B1.out.2; clear hb1)
    go_ret
    exact ⟨rfl, B1.out.1⟩

theorem own_nil (w w1 : World) (h : w.heap.size ≤ w1.heap.size) : OwnI w (w1.alloc (.cells #[] 3)) (.slice (some ⟨w1.heap.size, 0, none⟩) 0 0) [] :=
  World.ownsRow_lit w1 #[] 0 h (by unfold maxLen; omega) rfl
theorem ownI_mono {w w0 w' : World} {v : Value} {l : List Nat} (h : OwnI w0 w' v l) (hs : w.heap.size ≤ w0.heap.size) : OwnI w w' v l :=
  ⟨h.1, h.2.imp id fun ⟨g, cap, cur, h1, h2, h3⟩ => ⟨g, cap, cur, h1, Nat.le_trans hs h2, h3⟩⟩

set_option maxHeartbeats 800000 in
theorem specAnc_any (so to : Option Addr) (n sc tn tc : Nat) (ss : List StD) (x : Int) (w : World) (hn : n ≤ 9223372036854775807) (htn : tn ≤ 9223372036854775807) (hs : StatesOf w so n ss) :
    Calls Try.prog 7 #[.agg #[.slice so n sc, .slice to tn tc], .int .i64 x] w fun e w' => ∃ g cap, e = .returned (.slice (some ⟨g, 0, none⟩) (ansA ss tn x).length cap) ∧ OwnI w w' (.slice (some ⟨g, 0, none⟩) (ansA ss tn x).length cap) (ansA ss tn x) ∧ Below w.heap.size w w' := by
  have C := hid (l2Asked_any so to n sc tn tc ss x (w.alloc (.cells #[.slice so n sc, .slice to tn tc] 32)) hn htn (hs.below (below1 _ _)))
  have HS : Hid (∀ w', Below w.heap.size w w' → StatesOf w' so n ss) := fun w' h => hs.below h
  cases h0 : askB ss tn x with
  | false =>
    have E : Hid (ansA ss tn x = []) := hid (by unfold ansA; rw [h0]; rfl)
    rw [E.out]
    rw [h0] at C
    clear hs h0
    go_enter Try.func7, Try.ntmps7
    go_wp2_with (go_at_call 21; refine C.out.mono ?_; rintro e w1 ⟨rfl, hb1⟩; have B1 := hid (below_two hb1); clear hb1)
    go_ret
    exact ⟨_, _, rfl, own_nil w w1 B1.out.1.size, B1.out.1.alloc B1.out.1.size _⟩
  | true =>
    obtain ⟨G, k, rfl, hk⟩ := ask_good h0
    have E : Hid (ansA ss tn k = up ss k) := hid (by unfold ansA; rw [h0]; rfl)
    have U := hid (fun w hw => l2Up_any so to n sc tn tc ss G.tree (by rw [← hs.1]; exact G.n2) k (by rw [← hs.1]; exact hk) w hw)
    rw [E.out]
    rw [h0] at C
    clear hs h0 hk
    go_enter Try.func7, Try.ntmps7
    go_wp2_with (first | (go_at_call 21; refine C.out.mono ?_; rintro e w1 ⟨rfl, hb1⟩; have B1 := hid (below_two hb1); obtain ⟨q0, q1⟩ := two_cells B1.out.2; clear hb1) | (go_at_call 22; refine (U.out _ (HS.out _ B1.out.1)).mono ?_; rintro e w2 ⟨g, cap, rfl, ho, _, hb2⟩; have O2 := hid (ownI_mono ho B1.out.1.size); have B2 := hid (B1.out.1.trans (hb2.mono B1.out.1.size)); clear ho hb2))
    go_ret
    exact ⟨g, cap, rfl, O2.out, B2.out⟩

set_option maxHeartbeats 800000 in
theorem specDrill_any (so to : Option Addr) (n sc tn tc : Nat) (ss : List StD) (x : Int) (w : World) (hn : n ≤ 9223372036854775807) (htn : tn ≤ 9223372036854775807) (hs : StatesOf w so n ss) :
    Calls Try.prog 17 #[.agg #[.slice so n sc, .slice to tn tc], .int .i64 x] w fun e w' => ∃ g cap, e = .returned (.slice (some ⟨g, 0, none⟩) (ansD ss tn x).length cap) ∧ OwnI w w' (.slice (some ⟨g, 0, none⟩) (ansD ss tn x).length cap) (ansD ss tn x) ∧ Below w.heap.size w w' := by
  have C := hid (l2Asked_any so to n sc tn tc ss x (w.alloc (.cells #[.slice so n sc, .slice to tn tc] 32)) hn htn (hs.below (below1 _ _)))
  have HS : Hid (∀ w', Below w.heap.size w w' → StatesOf w' so n ss) := fun w' h => hs.below h
  cases h0 : askB ss tn x with
  | false =>
    have E : Hid (ansD ss tn x = []) := hid (by unfold ansD; rw [h0]; rfl)
    rw [E.out]
    rw [h0] at C
    clear hs h0
    go_enter Try.func17, Try.ntmps17
    go_wp2_with (go_at_call 21; refine C.out.mono ?_; rintro e w1 ⟨rfl, hb1⟩; have B1 := hid (below_two hb1); clear hb1)
    go_ret
    exact ⟨_, _, rfl, own_nil w w1 B1.out.1.size, B1.out.1.alloc B1.out.1.size _⟩
  | true =>
    obtain ⟨G, k, rfl, hk⟩ := ask_good h0
    have E : Hid (ansD ss tn k = down ss k) := hid (by unfold ansD; rw [h0]; rfl)
    have U := hid (fun w hw => l2Down_any so to n sc tn tc ss G (n - k) k (by rw [← hs.1]; exact hk) rfl w hw)
    rw [E.out]
    rw [h0] at C
    clear hs h0 hk
    go_enter Try.func17, Try.ntmps17
    go_wp2_with (first | (go_at_call 21; refine C.out.mono ?_; rintro e w1 ⟨rfl, hb1⟩; have B1 := hid (below_two hb1); obtain ⟨q0, q1⟩ := two_cells B1.out.2; clear hb1) | (go_at_call 35; refine (U.out _ (HS.out _ B1.out.1)).mono ?_; rintro e w2 ⟨g, cap, rfl, ho, hb2⟩; have O2 := hid (ownI_mono ho B1.out.1.size); have B2 := hid (B1.out.1.trans (hb2.mono B1.out.1.size)); clear ho hb2))
    go_ret
    exact ⟨g, cap, rfl, O2.out, B2.out⟩

set_option maxHeartbeats 800000 in
theorem specDom_any (so to : Option Addr) (n sc tn tc : Nat) (ss : List StD) (f t : Int) (w : World) (hn : n ≤ 9223372036854775807) (htn : tn ≤ 9223372036854775807) (hs : StatesOf w so n ss) :
    Calls Try.prog 15 #[.agg #[.slice so n sc, .slice to tn tc], .int .i64 f, .int .i64 t] w fun e w' => e = .returned (.int .i64 (ansM ss tn f t)) ∧ Below w.heap.size w w' := by
  have C1 := hid (l2Asked_any so to n sc tn tc ss f (w.alloc (.cells #[.slice so n sc, .slice to tn tc] 32)) hn htn (hs.below (below1 _ _)))
  have C2 := hid (fun w hw => l2Asked_any so to n sc tn tc ss t w hn htn hw)
  have HS : Hid (∀ w', Below w.heap.size w w' → StatesOf w' so n ss) := fun w' h => hs.below h
  cases h0 : askB ss tn f with
  | false =>
    have E : Hid (ansM ss tn f t = -2) := hid (by unfold ansM; rw [h0]; rfl)
    rw [E.out]
    rw [h0] at C1
    clear hs h0
    go_enter Try.func15, Try.ntmps15
    go_wp2_with (go_at_call 21; refine C1.out.mono ?_; rintro e w1 ⟨rfl, hb1⟩; have B1 := hid (below_two hb1); clear hb1)
    go_ret
    exact ⟨rfl, B1.out.1⟩
  | true =>
    cases h2 : askB ss tn t with
    | false =>
      have E : Hid (ansM ss tn f t = -2) := hid (by unfold ansM; rw [h2]; simp)
      rw [E.out]
      rw [h0] at C1
      rw [h2] at C2
      clear hs h0 h2
      go_enter Try.func15, Try.ntmps15
      go_wp2_with (first | (go_at_call_of 21 (Value.int .i64 f); refine C1.out.mono ?_; rintro e w1 ⟨rfl, hb1⟩; have B1 := hid (below_two hb1); obtain ⟨q0, q1⟩ := two_cells B1.out.2; clear hb1) | (go_at_call_of 21 (Value.int .i64 t); refine (C2.out _ (HS.out _ B1.out.1)).mono ?_; rintro e w2 ⟨rfl, hb2⟩; have B2 := hid (B1.out.1.trans (hb2.mono B1.out.1.size)); clear hb2))
      go_ret
      exact ⟨rfl, B2.out⟩
    | true =>
      obtain ⟨G, f, rfl, hf⟩ := ask_good h0
      obtain ⟨_, t, rfl, ht⟩ := ask_good h2
      have E : Hid (ansM ss tn f t = dom ss f t) := hid (by unfold ansM; rw [h0, h2]; rfl)
      have U := hid (fun w hw => l2Domain_any so to n sc tn tc ss G.tree (by rw [← hs.1]; exact G.n2) f t (by rw [← hs.1]; exact hf) (by rw [← hs.1]; exact ht) w hw)
      rw [E.out]
      rw [h0] at C1
      rw [h2] at C2
      clear hs h0 h2 hf ht
      go_enter Try.func15, Try.ntmps15
      go_wp2_with (first | (go_at_call_of 21 (Value.int .i64 (f : Int)); refine C1.out.mono ?_; rintro e w1 ⟨rfl, hb1⟩; have B1 := hid (below_two hb1); obtain ⟨q0, q1⟩ := two_cells B1.out.2; clear hb1) | (go_at_call_of 21 (Value.int .i64 (t : Int)); refine (C2.out _ (HS.out _ B1.out.1)).mono ?_; rintro e w2 ⟨rfl, hb2⟩; have B2 := hid (B1.out.1.trans (hb2.mono B1.out.1.size)); obtain ⟨p0, p1⟩ := two_cells (block_below B1.out.2 hb2); clear hb2) | (go_at_call 33; refine (U.out _ (HS.out _ B2.out)).mono ?_; rintro e w3 ⟨rfl, hb3⟩; have B3 := hid (B2.out.trans (hb3.mono B2.out.size)); clear hb3))
      go_ret
      exact ⟨rfl, B3.out⟩
end Go.Proofs.Ytjeckanjekgkkaa
