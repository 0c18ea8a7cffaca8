import Derived.Test.YtjeckanjekgkkaaI6
namespace Go.Proofs.Ytjeckanjekgkkaa
open Go.RowKit Go.Sort
attribute [local go_sem ↓] Go.wp_at_zero Go.wp_at_succ

set_option maxHeartbeats 800000 in
theorem treeOf_bad (so to : Option Addr) (n sc tn tc : Nat) (ss : List StD) (w : World) (hn : n ≤ 9223372036854775807) (htn : tn ≤ 9223372036854775807) (hs : StatesOf w so n ss) (hf : ¬ (faultOf ss tn true).1 = 0) :
    Calls Try.prog 25 #[.agg #[.slice so n sc, .slice to tn tc]] w fun e w' => e = .returned (.slice none 0 0) ∧ Below w.heap.size w w' := by
  have C0 := liftTree_any so to n sc tn tc ss 0 0 0 0 (w.alloc (.cells #[.slice so n sc, .slice to tn tc] 32)) hn htn (hs.below (below1 _ _))
  rw [lim_zero] at C0
  have C := hid (C0.mono (R' := fun e w' => e = .returned (.tuple #[.slice none 0 0, .int .i64 (faultOf ss tn true).1, .int .i64 (faultOf ss tn true).2]) ∧ Below w.heap.size w w') (by
    rintro e w' ⟨hb, h | h⟩
    · exact ⟨h.2, (below_two hb).1⟩
    · rw [h.1] at hf; exact absurd rfl hf))
  obtain ⟨fc, hfc⟩ : ∃ fc, fc = (faultOf ss tn true).1 := ⟨_, rfl⟩
  obtain ⟨fp, hfp⟩ : ∃ fp, fp = (faultOf ss tn true).2 := ⟨_, rfl⟩
  rw [← hfc, ← hfp] at C
  clear C0 hs hf hfc hfp
  go_enter Try.func25, Try.ntmps25
  go_wp2_with (go_at_call 43; refine C.out.mono ?_; rintro e w1 ⟨rfl, hb1⟩; have B1 := hid hb1; clear hb1)
  go_ret
  exact ⟨rfl, B1.out⟩

/-- A tree that can be asked. -/
def TreeHere (w' : World) (g : Nat) (N : Nat → Nat) (ss : List StD) : Prop := NodesI w' N ss ss.length ∧ NodeB w' N ss.length ∧ (∀ k, k < ss.length → w'.cell? ⟨g, k, none⟩ = some (.pointer (some ⟨N k, 0, none⟩))) ∧ g < w'.heap.size

set_option maxHeartbeats 800000 in
theorem treeOf_good (so to : Option Addr) (n sc tn tc : Nat) (ss : List StD) (w : World) (hn : n ≤ 9223372036854775807) (htn : tn ≤ 9223372036854775807) (hs : StatesOf w so n ss) (hf : (faultOf ss tn true).1 = 0) :
    Calls Try.prog 25 #[.agg #[.slice so n sc, .slice to tn tc]] w fun e w' => ∃ N g cap, e = .returned (.slice (some ⟨g, 0, none⟩) n cap) ∧ TreeHere w' g N ss ∧ Below w.heap.size w w' := by
  have C0 := liftTree_any so to n sc tn tc ss 0 0 0 0 (w.alloc (.cells #[.slice so n sc, .slice to tn tc] 32)) hn htn (hs.below (below1 _ _))
  have G := good_of hf
  have hl := hs.1
  rw [lim_zero] at C0
  have C := hid (C0.mono (R' := fun e w' => ∃ N g cap, e = .returned (.tuple #[.slice (some ⟨g, 0, none⟩) n cap, .int .i64 0, .int .i64 0]) ∧ TreeHere w' g N ss ∧ Below w.heap.size w w') (by
    rintro e w' ⟨hb, h | ⟨_, N, tv, rfl, h1, h2, h3⟩⟩
    · exact absurd hf h.1
    · obtain ⟨g, cap, e, _, h5⟩ := World.ownsRow.form h3 (by have := G.n1; omega)
      subst e
      refine ⟨N, g, cap, by rw [hl], ⟨h1, h2, fun k hk => ?_, h5⟩, (below_two hb).1⟩
      rw [World.ownsRow.cellAt h3 k (by omega)]
      simp [ptrs, hk]))
  clear C0 hs hf G hl
  go_enter Try.func25, Try.ntmps25
  go_wp2_with (go_at_call 43; refine C.out.mono ?_; rintro e w1 ⟨N, g, cap, rfl, ht, hb1⟩; have B1 := hid hb1; have T1 := hid ht; clear hb1 ht)
  go_ret
  exact ⟨N, g, cap, rfl, T1.out, B1.out⟩

theorem lastB_range {P : Nat → Bool} {n : Nat} (h : ¬ lastB P n = -1) : ∃ d : Nat, d < n ∧ lastB P n = d := by
  induction n with
  | zero => exact absurd rfl h
  | succ n ih =>
    unfold lastB at h ⊢
    by_cases e : P n = true
    · rw [if_pos e]; exact ⟨n, by omega, rfl⟩
    · rw [if_neg e] at h ⊢
      obtain ⟨d, h1, h2⟩ := ih h
      exact ⟨d, by omega, h2⟩
theorem dom_range (ss : List StD) (f t : Nat) (h : ¬ dom ss f t = -1) : ∃ d : Nat, d < ss.length ∧ dom ss f t = d := lastB_range h
theorem TreeHere.below {w w' : World} {g : Nat} {N : Nat → Nat} {ss : List StD} (h : TreeHere w g N ss) (hb : Below w.heap.size w w') : TreeHere w' g N ss :=
  ⟨h.1.below hb, h.2.1.below hb, fun k hk => (hb.cell (p := ⟨g, k, none⟩) h.2.2.2).trans (h.2.2.1 k hk), Nat.lt_of_lt_of_le h.2.2.2 hb.size⟩
theorem within_of (x c : Int) (b : Bool) (h : b = decide (0 ≤ x ∧ x < c)) (w : World) : Calls Try.prog 26 #[.int .i64 x, .int .i64 c] w fun e w' => e = .returned (.bool b) ∧ w' = w := by rw [h]; exact within_any x c w
theorem ask_in {ss : List StD} {tn : Nat} {x : Int} (hf : (faultOf ss tn true).1 = 0) : askB ss tn x = decide (0 ≤ x ∧ x < (ss.length : Int)) := by
  unfold askB betB
  rw [hf, Bool.eq_iff_iff]
  simp
  omega
theorem ask_not {ss : List StD} {tn : Nat} {x : Int} (hf : ¬ (faultOf ss tn true).1 = 0) : askB ss tn x = false := by
  unfold askB
  simp [hf]
theorem ownP_mono {w w0 w' : World} {v : Value} {N : Nat → Nat} {l : List Nat} (h : OwnP w0 w' v N l) (hs : w.heap.size ≤ w0.heap.size) : OwnP w w' v N l :=
  ⟨h.1, h.2.imp id fun ⟨g, cap, cur, h1, h2, h3⟩ => ⟨g, cap, cur, h1, Nat.le_trans hs h2, h3⟩⟩
theorem down_mem {ss : List StD} {tn : Nat} (g : GoodT ss tn) : ∀ d k, k < ss.length → ss.length - k = d → ∀ x, x ∈ down ss k → x < ss.length := by
  intro d
  induction d using Nat.strongRecOn with
  | ind d ih =>
    intro k hk hd x hx
    by_cases h : ini ss k < 0
    · rw [down_leaf h] at hx; cases hx
    · rw [down_in g hk h] at hx
      rcases ini_good g hk with e | ⟨h1, h2⟩
      · omega
      · rcases List.mem_cons.1 hx with rfl | hx
        · omega
        · exact ih (ss.length - (ini ss k).toNat) (by omega) _ (by omega) rfl x hx

set_option maxHeartbeats 800000 in
theorem implAnc_any (so to : Option Addr) (n sc tn tc : Nat) (ss : List StD) (x : Int) (w : World) (hn : n ≤ 9223372036854775807) (htn : tn ≤ 9223372036854775807) (hs : StatesOf w so n ss) :
    Calls Try.prog 9 #[.agg #[.slice so n sc, .slice to tn tc], .int .i64 x] w fun e w' => ∃ g cap, e = .returned (.slice (some ⟨g, 0, none⟩) (ansA ss tn x).length cap) ∧ OwnI w w' (.slice (some ⟨g, 0, none⟩) (ansA ss tn x).length cap) (ansA ss tn x) ∧ Below w.heap.size w w' := by
  by_cases hf : (faultOf ss tn true).1 = 0
  · have C := hid (treeOf_good so to n sc tn tc ss (w.alloc (.cells #[.slice so n sc, .slice to tn tc] 32)) hn htn (hs.below (below1 _ _)) hf)
    have HA := hid (ask_in (x := x) hf)
    have G := good_of hf
    have hl := hs.1
    rw [hl] at HA
    obtain ⟨b, hb⟩ : ∃ b, b = decide (0 ≤ x ∧ x < (n : Int)) := ⟨_, rfl⟩
    have W := hid (within_of x n b hb)
    rw [← hb] at HA
    have HB := hid hb
    cases b with
    | false =>
      have E : Hid (ansA ss tn x = []) := hid (by unfold ansA; rw [HA.out]; rfl)
      rw [E.out]
      clear hs hb hf
      go_enter Try.func9, Try.ntmps9
      go_wp2_with (first | (go_at_call 25; refine C.out.mono ?_; rintro e w1 ⟨N, g, cap, rfl, _, hb1⟩; have B1 := hid (below_two hb1).1; clear hb1) | (go_at_call 26; refine (W.out _).mono ?_; rintro e w2 ⟨rfl, hw⟩; obtain rfl := hw.symm))
      go_ret
      exact ⟨_, _, rfl, own_nil w w1 B1.out.size, B1.out.alloc B1.out.size _⟩
    | true =>
      obtain ⟨h1, h2⟩ : 0 ≤ x ∧ x < (n : Int) := of_decide_eq_true HB.out.symm
      obtain ⟨k, rfl⟩ : ∃ k : Nat, x = k := ⟨x.toNat, by omega⟩
      have hk : k < ss.length := by omega
      have E : Hid (ansA ss tn k = up ss k) := hid (by unfold ansA; rw [HA.out]; rfl)
      have PA := hid (fun N w (h : Nodes w N ss ss.length) => path_any N ss G.tree G.n2 k hk w h)
      have IA := hid (fun N v w0 w (h : Nodes w N ss ss.length) (ho : OwnP w0 w v N (up ss k)) => indices_any N ss (up ss k) (by have := up_len G.tree k hk; have := G.n2; omega) (fun y hy => Nat.lt_of_le_of_lt (up_le G.tree k hk y hy) hk) v w0 w h ho)
      rw [E.out]
      clear hs hb hf HB
      go_enter Try.func9, Try.ntmps9
      go_wp2_with (first | (go_at_call 25; refine C.out.mono ?_; rintro e w1 ⟨N, g, cap, rfl, ht, hb1⟩; have B1 := hid (below_two hb1).1; have T1 := hid ht; have ce := ht.2.2.1 k hk; clear hb1 ht) | (go_at_call 26; refine (W.out _).mono ?_; rintro e w2 ⟨rfl, hw⟩; obtain rfl := hw.symm) | (go_at_call 28; refine (PA.out N _ T1.out.1.1).mono ?_; rintro e w2 ⟨g2, cap2, rfl, ho2, hb2⟩; have O2 := hid ho2; have T2 := hid (T1.out.below hb2); have B2 := hid (B1.out.trans (hb2.mono B1.out.size)); clear ho2 hb2) | (go_at_call 27; refine (IA.out N _ _ _ T2.out.1.1 O2.out).mono ?_; rintro e w3 ⟨g3, cap3, rfl, ho3, hb3⟩; have O3 := hid (ownI_mono ho3 B2.out.size); have B3 := hid (B2.out.trans (hb3.mono B2.out.size)); clear ho3 hb3))
      go_ret
      exact ⟨g3, cap3, rfl, O3.out, B3.out⟩
  · have C := hid (treeOf_bad so to n sc tn tc ss (w.alloc (.cells #[.slice so n sc, .slice to tn tc] 32)) hn htn (hs.below (below1 _ _)) hf)
    have E : Hid (ansA ss tn x = []) := hid (by unfold ansA; rw [ask_not hf]; rfl)
    have W := hid (within_of x 0 false (by symm; rw [decide_eq_false_iff_not]; omega))
    rw [E.out]
    clear hs hf
    go_enter Try.func9, Try.ntmps9
    go_wp2_with (first | (go_at_call 25; refine C.out.mono ?_; rintro e w1 ⟨rfl, hb1⟩; have B1 := hid (below_two hb1).1; clear hb1) | (go_at_call 26; refine (W.out _).mono ?_; rintro e w2 ⟨rfl, hw⟩; obtain rfl := hw.symm))
    go_ret
    exact ⟨_, _, rfl, own_nil w w1 B1.out.size, B1.out.alloc B1.out.size _⟩

set_option maxHeartbeats 800000 in
theorem implDrill_any (so to : Option Addr) (n sc tn tc : Nat) (ss : List StD) (x : Int) (w : World) (hn : n ≤ 9223372036854775807) (htn : tn ≤ 9223372036854775807) (hs : StatesOf w so n ss) :
    Calls Try.prog 18 #[.agg #[.slice so n sc, .slice to tn tc], .int .i64 x] w fun e w' => ∃ g cap, e = .returned (.slice (some ⟨g, 0, none⟩) (ansD ss tn x).length cap) ∧ OwnI w w' (.slice (some ⟨g, 0, none⟩) (ansD ss tn x).length cap) (ansD ss tn x) ∧ Below w.heap.size w w' := by
  by_cases hf : (faultOf ss tn true).1 = 0
  · have C := hid (treeOf_good so to n sc tn tc ss (w.alloc (.cells #[.slice so n sc, .slice to tn tc] 32)) hn htn (hs.below (below1 _ _)) hf)
    have HA := hid (ask_in (x := x) hf)
    have G := good_of hf
    have hl := hs.1
    rw [hl] at HA
    obtain ⟨b, hb⟩ : ∃ b, b = decide (0 ≤ x ∧ x < (n : Int)) := ⟨_, rfl⟩
    have W := hid (within_of x n b hb)
    rw [← hb] at HA
    have HB := hid hb
    cases b with
    | false =>
      have E : Hid (ansD ss tn x = []) := hid (by unfold ansD; rw [HA.out]; rfl)
      rw [E.out]
      clear hs hb hf
      go_enter Try.func18, Try.ntmps18
      go_wp2_with (first | (go_at_call 25; refine C.out.mono ?_; rintro e w1 ⟨N, g, cap, rfl, _, hb1⟩; have B1 := hid (below_two hb1).1; clear hb1) | (go_at_call 26; refine (W.out _).mono ?_; rintro e w2 ⟨rfl, hw⟩; obtain rfl := hw.symm))
      go_ret
      exact ⟨_, _, rfl, own_nil w w1 B1.out.size, B1.out.alloc B1.out.size _⟩
    | true =>
      obtain ⟨h1, h2⟩ : 0 ≤ x ∧ x < (n : Int) := of_decide_eq_true HB.out.symm
      obtain ⟨k, rfl⟩ : ∃ k : Nat, x = k := ⟨x.toNat, by omega⟩
      have hk : k < ss.length := by omega
      have E : Hid (ansD ss tn k = down ss k) := hid (by unfold ansD; rw [HA.out]; rfl)
      have PA : Hid (∀ N w, NodesI w N ss ss.length → Calls Try.prog 36 #[.pointer (some ⟨N k, 0, none⟩)] w fun e w' => ∃ ao m cap, e = .returned (.slice ao m cap) ∧ OwnP w w' (.slice ao m cap) N (down ss k) ∧ Below w.heap.size w w') := hid (fun N w h => (drill_any N ss tn G k hk w h).mono (by
        rintro e w' ⟨v, rfl, ho, hb⟩
        obtain ⟨ao, cap, rfl⟩ := slice_of ho
        exact ⟨_, _, _, rfl, ho, hb⟩))
      have IA := hid (fun N v w0 w (h : Nodes w N ss ss.length) (ho : OwnP w0 w v N (down ss k)) => indices_any N ss (down ss k) (by have := down_len G (ss.length - k) k hk rfl; have := G.n2; omega) (fun y hy => down_mem G (ss.length - k) k hk rfl y hy) v w0 w h ho)
      rw [E.out]
      clear hs hb hf HB
      go_enter Try.func18, Try.ntmps18
      go_wp2_with (first | (go_at_call 25; refine C.out.mono ?_; rintro e w1 ⟨N, g, cap, rfl, ht, hb1⟩; have B1 := hid (below_two hb1).1; have T1 := hid ht; have ce := ht.2.2.1 k hk; clear hb1 ht) | (go_at_call 26; refine (W.out _).mono ?_; rintro e w2 ⟨rfl, hw⟩; obtain rfl := hw.symm) | (go_at_call 36; refine (PA.out N _ T1.out.1).mono ?_; rintro e w2 ⟨ao2, m2, cap2, rfl, ho2, hb2⟩; have O2 := hid ho2; have T2 := hid (T1.out.below hb2); have B2 := hid (B1.out.trans (hb2.mono B1.out.size)); clear ho2 hb2) | (go_at_call 27; refine (IA.out N _ _ _ T2.out.1.1 O2.out).mono ?_; rintro e w3 ⟨g3, cap3, rfl, ho3, hb3⟩; have O3 := hid (ownI_mono ho3 B2.out.size); have B3 := hid (B2.out.trans (hb3.mono B2.out.size)); clear ho3 hb3))
      go_ret
      exact ⟨g3, cap3, rfl, O3.out, B3.out⟩
  · have C := hid (treeOf_bad so to n sc tn tc ss (w.alloc (.cells #[.slice so n sc, .slice to tn tc] 32)) hn htn (hs.below (below1 _ _)) hf)
    have E : Hid (ansD ss tn x = []) := hid (by unfold ansD; rw [ask_not hf]; rfl)
    have W := hid (within_of x 0 false (by symm; rw [decide_eq_false_iff_not]; omega))
    rw [E.out]
    clear hs hf
    go_enter Try.func18, Try.ntmps18
    go_wp2_with (first | (go_at_call 25; refine C.out.mono ?_; rintro e w1 ⟨rfl, hb1⟩; have B1 := hid (below_two hb1).1; clear hb1) | (go_at_call 26; refine (W.out _).mono ?_; rintro e w2 ⟨rfl, hw⟩; obtain rfl := hw.symm))
    go_ret
    exact ⟨_, _, rfl, own_nil w w1 B1.out.size, B1.out.alloc B1.out.size _⟩

set_option maxHeartbeats 1600000 in
theorem implDom_any (so to : Option Addr) (n sc tn tc : Nat) (ss : List StD) (f t : Int) (w : World) (hn : n ≤ 9223372036854775807) (htn : tn ≤ 9223372036854775807) (hs : StatesOf w so n ss) :
    Calls Try.prog 16 #[.agg #[.slice so n sc, .slice to tn tc], .int .i64 f, .int .i64 t] w fun e w' => e = .returned (.int .i64 (ansM ss tn f t)) ∧ Below w.heap.size w w' := by
  by_cases hf : (faultOf ss tn true).1 = 0
  · have C := hid (treeOf_good so to n sc tn tc ss (w.alloc (.cells #[.slice so n sc, .slice to tn tc] 32)) hn htn (hs.below (below1 _ _)) hf)
    have HA := hid (ask_in (x := f) hf)
    have HA2 := hid (ask_in (x := t) hf)
    have G := good_of hf
    have hl := hs.1
    rw [hl] at HA HA2
    obtain ⟨b, hb⟩ : ∃ b, b = decide (0 ≤ f ∧ f < (n : Int)) := ⟨_, rfl⟩
    obtain ⟨b2, hb2⟩ : ∃ b, b = decide (0 ≤ t ∧ t < (n : Int)) := ⟨_, rfl⟩
    have W := hid (within_of f n b hb)
    have W2 := hid (within_of t n b2 hb2)
    rw [← hb] at HA
    rw [← hb2] at HA2
    have HB := hid hb
    have HB2 := hid hb2
    clear hb hb2
    cases b with
    | false =>
      have E : Hid (ansM ss tn f t = -2) := hid (by unfold ansM; rw [HA.out]; rfl)
      rw [E.out]
      clear hs hf
      go_enter Try.func16, Try.ntmps16
      go_wp2_with (first | (go_at_call 25; refine C.out.mono ?_; rintro e w1 ⟨N, g, cap, rfl, _, hb1⟩; have B1 := hid (below_two hb1).1; clear hb1) | (go_at_call_of 26 (Value.int .i64 f); refine (W.out _).mono ?_; rintro e w2 ⟨rfl, hw⟩; obtain rfl := hw.symm))
      go_ret
      exact ⟨rfl, B1.out⟩
    | true =>
      cases b2 with
      | false =>
        have E : Hid (ansM ss tn f t = -2) := hid (by unfold ansM; rw [HA2.out]; simp)
        rw [E.out]
        clear hs hf
        go_enter Try.func16, Try.ntmps16
        go_wp2_with (first | (go_at_call 25; refine C.out.mono ?_; rintro e w1 ⟨N, g, cap, rfl, _, hb1⟩; have B1 := hid (below_two hb1).1; clear hb1) | (go_at_call_of 26 (Value.int .i64 f); refine (W.out _).mono ?_; rintro e w2 ⟨rfl, hw⟩; obtain rfl := hw.symm) | (go_at_call_of 26 (Value.int .i64 t); refine (W2.out _).mono ?_; rintro e w2 ⟨rfl, hw⟩; obtain rfl := hw.symm))
        go_ret
        exact ⟨rfl, B1.out⟩
      | true =>
        obtain ⟨h1, h2⟩ : 0 ≤ f ∧ f < (n : Int) := of_decide_eq_true HB.out.symm
        obtain ⟨h3, h4⟩ : 0 ≤ t ∧ t < (n : Int) := of_decide_eq_true HB2.out.symm
        obtain ⟨f, rfl⟩ : ∃ k : Nat, f = k := ⟨f.toNat, by omega⟩
        obtain ⟨t, rfl⟩ : ∃ k : Nat, t = k := ⟨t.toNat, by omega⟩
        have hfl : f < ss.length := by omega
        have htl : t < ss.length := by omega
        have E : Hid (ansM ss tn f t = dom ss f t) := hid (by unfold ansM; rw [HA.out, HA2.out]; rfl)
        rw [E.out]
        clear hs hf HB HB2
        go_enter Try.func16, Try.ntmps16
        go_wp2_with (first | (go_at_call 25; refine C.out.mono ?_; rintro e w1 ⟨N, g, cap, rfl, ht, hb1⟩; have B1 := hid (below_two hb1).1; have T1 := hid ht; clear hb1 ht) | (go_at_call_of 26 (Value.int .i64 (f : Int)); refine (W.out _).mono ?_; rintro e w2 ⟨rfl, hw⟩; obtain rfl := hw.symm) | (go_at_call_of 26 (Value.int .i64 (t : Int)); refine (W2.out _).mono ?_; rintro e w2 ⟨rfl, hw⟩; obtain rfl := hw.symm))
        have c1 := cell_regrown (T1.out.2.2.1 f hfl)
        have c2 := cell_regrown (T1.out.2.2.1 t htl)
        have DC : Hid ((domV N ss f t = .pointer none ∧ dom ss f t = -1) ∨ ∃ d : Nat, d < ss.length ∧ dom ss f t = d ∧ domV N ss f t = .pointer (some ⟨N d, 0, none⟩)) := hid (by
          unfold domV
          by_cases e : dom ss f t = -1
          · left; rw [if_pos e]; exact ⟨rfl, e⟩
          · right
            rw [if_neg e]
            obtain ⟨d, hd, e2⟩ := dom_range ss f t e
            exact ⟨d, hd, e2, by rw [e2, Int.toNat_natCast]⟩)
        obtain ⟨pv, hpv⟩ : ∃ pv, domV N ss f t = .pointer pv := by
          rcases DC.out with h | ⟨d, _, _, h⟩
          · exact ⟨_, h.1⟩
          · exact ⟨_, h⟩
        have cE : ∀ d os, Calls Try.prog 34 #[.pointer (some ⟨N f, 0, none⟩), .pointer (some ⟨N t, 0, none⟩)] (grow (redrawn w1 d) os) fun e w'' => e = .returned (.pointer pv) ∧ ∃ p : Regrown, w'' = grow (redrawn w1 p.d) p.os :=
          fun d os => Calls.regrown_of (by rw [← hpv]; exact common_any N ss G.tree G.n2 f t hfl htl _ (T1.out.below (below_regrown w1 d os)).1.1 (T1.out.below (below_regrown w1 d os)).2.1)
        rw [hpv] at DC
        clear hpv
        refine wp_region_quiet_below (by kernel_rfl) (by kernel_rfl) ?_
        repeat (any_goals (first | go_big_quiet_step (first | exact cE _ _) | quiet_step (first | exact cE _ _)))
        refine wpQuiet_nil ?_
        intro _ hw'
        obtain ⟨⟨dq, osq⟩, hw''⟩ := hw'
        subst hw''
        have B2 := hid (B1.out.trans ((below_regrown w1 dq osq).mono B1.out.size))
        have T2 := hid (T1.out.below (below_regrown w1 dq osq))
        rcases DC.out with ⟨e1, e2⟩ | ⟨d, hd, e1, e2⟩
        · cases e1
          have E2 := hid e2
          clear e2
          go_wp2
          go_ret
          exact ⟨ret_int E2.out.symm, B2.out⟩
        · cases e2
          have E2 := hid e1
          clear e1
          have cd := (T2.out.1.1 d hd).2.1
          go_wp2
          go_ret
          exact ⟨ret_int E2.out.symm, B2.out⟩
  · have C := hid (treeOf_bad so to n sc tn tc ss (w.alloc (.cells #[.slice so n sc, .slice to tn tc] 32)) hn htn (hs.below (below1 _ _)) hf)
    have E : Hid (ansM ss tn f t = -2) := hid (by unfold ansM; rw [ask_not hf]; rfl)
    have W := hid (within_of f 0 false (by symm; rw [decide_eq_false_iff_not]; omega))
    rw [E.out]
    clear hs hf
    go_enter Try.func16, Try.ntmps16
    go_wp2_with (first | (go_at_call 25; refine C.out.mono ?_; rintro e w1 ⟨rfl, hb1⟩; have B1 := hid (below_two hb1).1; clear hb1) | (go_at_call_of 26 (Value.int .i64 f); refine (W.out _).mono ?_; rintro e w2 ⟨rfl, hw⟩; obtain rfl := hw.symm))
    go_ret
    exact ⟨rfl, B1.out⟩
end Go.Proofs.Ytjeckanjekgkkaa
