import Derived.Test.YtcdcjpejlhcdnaaDoorSr22
namespace Go.Proofs.YtcdcjpejlhcdnaaDoor
open Go.RowKit Go.Sort
set_option linter.unusedVariables false
attribute [local go_sem ↓] Go.wp_at_zero Go.wp_at_succ

theorem law_mid {w w1 w2 w3 w4 : World} {v1 v2 : Value} {xs : List ScI} (b1 : Below w.heap.size w w1) (b2 : Below w1.heap.size w1 w2) (b3 : Below w2.heap.size w2 w3) (r1 : ScRow w1 w.heap.size v1 xs) (r2 : ScRow w2 w1.heap.size v2 xs) (ho : Only v2 w3 w4) : Below w.heap.size w w4 ∧ ScRow w4 w.heap.size v1 xs := by
  have b13 : Below w.heap.size w w3 := (b1.trans (b2.mono b1.size)).trans (b3.mono (Nat.le_trans b1.size b2.size))
  have ob : Below w1.heap.size w3 w4 := ho.below (fun b hb => (r2.lt b hb).1)
  exact ⟨b13.trans (ob.mono b1.size), Only.own ho (ownsRow_below (ownsRow_below r1 b2) b3) (fun b hb e => by have := (r1.lt b hb).2; have := (r2.lt b e).1; omega)⟩

set_option maxRecDepth 100000 in
set_option maxHeartbeats 1600000 in
theorem lawScript (s : ByteArray) (w : World) (hv : VarsS w) :
    Calls Tryd.prog 3 #[.string s] w fun e w' => e = .returned (.bool true) ∧ Below w.heap.size w w' := by
  by_cases hbig : 1048576 < s.size
  · have hbig' : (1048576 : Int) < (s.size : Int) := by omega
    clear hv hbig
    go_enter Tryd.func3, Tryd.ntmps3
    go_wp2
    go_ret
    exact ⟨rfl, Below.refl _ _⟩
  · have hbig' : ¬ (1048576 : Int) < (s.size : Int) := by omega
    have SL := hid (scrT_len (bl s))
    have C1 := hid (specScript_any s w)
    have HV := hid hv
    have C2 := hid (fun W (h : Below w.heap.size w W) => implScript_any s W (hv.below h))
    obtain ⟨xs, hxs⟩ : ∃ x, x = (scrT (bl s)).1 := ⟨_, rfl⟩
    obtain ⟨cd, hcd⟩ : ∃ x, x = (scrT (bl s)).2 := ⟨_, rfl⟩
    rw [← hxs] at C1 C2 SL
    rw [← hcd] at C1 C2
    have xl : xs.length ≤ 30001 := SL.out
    clear hv hxs hcd hbig SL
    go_enter Tryd.func3, Tryd.ntmps3
    go_wp2_with (first
      | (go_at_call 4; with_reducible refine C1.out.mono ?_; rintro e w1 ⟨v1, rfl, hr1, hb1⟩; obtain ⟨a1, n1, c1, rfl⟩ := row_form hr1; have R1 := hid hr1; have B1 := hid hb1; have D2 := hid (C2.out w1 hb1); clear hr1 hb1)
      | (go_at_call 5; with_reducible refine D6.out.mono ?_; rintro e w6 ⟨v6, rfl, hr6, hb6⟩; obtain ⟨a6, n6, c6, rfl⟩ := row_form hr6; have B6 := hid hb6; have E6 := hid (eqScS_same _ _ _ _ xs w6 (by omega) hr6 (ownsRow_below R4.out hb6)); clear hr6 hb6 D6)
      | (go_at_call 5; with_reducible refine D2.out.mono ?_; rintro e w2 ⟨v2, rfl, hr2, hb2⟩; obtain ⟨a2, n2, c2, rfl⟩ := row_form hr2; have R2 := hid hr2; have B2 := hid hb2; have E2 := hid (eqScS_same _ _ _ _ xs w2 (by omega) hr2 (ownsRow_below R1.out hb2)); clear hr2 hb2 D2)
      | (go_at_call 6; with_reducible refine E6.out.mono ?_; rintro e w7 ⟨rfl, hb7⟩; have B7 := hid hb7; clear hb7 E6)
      | (go_at_call 6; with_reducible refine E2.out.mono ?_; rintro e w3 ⟨rfl, hb3⟩; have B3 := hid hb3; have M3 := hid (markSc_own w1.heap.size (.slice a2 n2 c2) xs.length 1 w3 (by omega) (by omega) (ints_sc (ownsRow_below R2.out hb3))); clear hb3 E2)
      | (go_at_call 7; with_reducible refine M3.out.mono ?_; rintro e w4 ⟨rfl, hm4, ho4⟩; have H4 := hid (heldSc_own w1.heap.size (.slice a2 n2 c2) xs.length 1 w4 (by omega) (by omega) hm4); have L4 := hid (law_mid B1.out B2.out B3.out R1.out R2.out ho4); have R4 := hid L4.out.2; have D6 := hid (C2.out w4 L4.out.1); clear hm4 ho4 M3)
      | (go_at_call 8; with_reducible refine H4.out.mono ?_; rintro e w5 ⟨rfl, hw5⟩; obtain rfl := hw5.symm))
    go_ret
    exact ⟨rfl, (L4.out.1.trans (B6.out.mono L4.out.1.size)).trans (B7.out.mono (Nat.le_trans L4.out.1.size B6.out.size))⟩
end Go.Proofs.YtcdcjpejlhcdnaaDoor
