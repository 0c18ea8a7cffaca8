import Derived.Test.YtdpejnacganadaaB8
import Derived.Test.YtdpejnacganadaaB9
namespace Go.Proofs.Ytdpejnacganadaa
open Go.RowKit Go.Sort

theorem eqItemS_same (ao bo : Option Addr) (n c d : Nat) (xs : List (Int × Int)) (w : World) (hn : n ≤ 1048576) (hx : ItemsOf w ao n xs) (hy : ItemsOf w bo n xs) :
    Calls Try.prog 16 #[.slice ao n c, .slice bo n d] w fun e w' => e = .returned (.bool true) ∧ Below w.heap.size w w' :=
  (eqItemS_any ao bo n n c d xs xs w hn (by omega) hx hy).mono fun e w' ⟨h1, h2⟩ => ⟨by rw [h1]; simp, h2⟩

theorem toItemS_of (ao : Option Addr) (n c : Nat) (its : List (Int × Int)) (w : World) (hn : n ≤ 1048576) (hs : ItemsOf w ao n its) :
    Calls Try.prog 14 #[.slice ao n c] w fun e w' => ∃ g, e = .returned (.slice (some ⟨g, 0, none⟩) n n) ∧ ItemsOf w' (some ⟨g, 0, none⟩) n its ∧ Below w.heap.size w w' :=
  (toItemS_any ao n c its w hn hs).mono fun _ _ ⟨h1, h2, h3⟩ => ⟨_, h1, ItemsOf.row hs.1 h2, h3⟩

set_option maxHeartbeats 1000000 in
theorem lawCode (ao : Option Addr) (n c : Nat) (its : List (Int × Int)) (vars : Int) (w : World) (hn : n ≤ 9223372036854775807) (hs : ItemsOf w ao n its) :
    Calls Try.prog 4 #[.slice ao n c, .int .i64 vars] w fun e w' => e = .returned (.bool true) ∧ Below w.heap.size w w' := by
  have HX : Hid (∀ w', Below w.heap.size w w' → ItemsOf w' ao n its) := fun w' h => hs.below h
  have EQ := hid (okT_codeB its vars)
  clear hs
  by_cases hsz : (1048576 : Int) < n
  · have h1 : (if (1048576 : Int) < n then (-1 : Int) else 1048576 - n) = -1 := if_pos hsz
    have C := hid (fun w => szItemS_any ao n c 1048576 w hn (by omega) (by omega))
    rw [h1] at C
    go_enter Try.func4, Try.ntmps4
    go_wp2_with (go_at_call 12; refine (C.out _).mono ?_; rintro e w1 ⟨rfl, hw⟩; obtain rfl := hw.symm)
    go_ret
    exact ⟨rfl, Below.refl _ _⟩
  · have h1 : (if (1048576 : Int) < n then (-1 : Int) else 1048576 - n) = 1048576 - n := if_neg hsz
    have C := hid (fun w => szItemS_any ao n c 1048576 w hn (by omega) (by omega))
    rw [h1] at C
    have hn' : n ≤ 1048576 := by omega
    go_enter Try.func4, Try.ntmps4
    go_wp2_with (go_at_call 12; refine (C.out _).mono ?_; rintro e w1 ⟨rfl, hw⟩; obtain rfl := hw.symm)
    go_wp2_with (go_at_call 14; refine (toItemS_of ao n c its _ hn' (HX.out _ (Below.refl _ _))).mono ?_; rintro e w1 ⟨g1, rfl, hs1, hb1⟩; have S1 := hid hs1; have B1 := hid hb1; clear hs1 hb1)
    go_wp2_with (go_at_call 13; refine (specCodeOK_any _ _ _ its vars _ hn S1.out).mono ?_; rintro e w2 ⟨rfl, hb2⟩; have B2 := hid (B1.out.trans (hb2.mono B1.out.size)); clear hb2)
    go_wp2_with (go_at_call 14; refine (toItemS_of ao n c its _ hn' (HX.out _ B2.out)).mono ?_; rintro e w3 ⟨g3, rfl, hs3, hb3⟩; have S3 := hid hs3; have B3 := hid (B2.out.trans (hb3.mono B2.out.size)); clear hs3 hb3)
    have I := hid (fun w hw => implCodeOK_any (some ⟨g3, 0, none⟩) n n its vars w hn hw)
    unfold okT at I
    rw [EQ.out] at I
    go_wp2_with (go_at_call 15; refine (I.out _ S3.out).mono ?_; rintro e w4 ⟨rfl, hb4⟩; have S4 := hid (S3.out.below hb4); have B4 := hid (B3.out.trans (hb4.mono B3.out.size)); clear hb4)
    go_wp2_with (go_at_call 14; refine (toItemS_of ao n c its _ hn' (HX.out _ B4.out)).mono ?_; rintro e w5 ⟨g5, rfl, hs5, hb5⟩; have S5 := hid hs5; have S6 := hid (S4.out.below hb5); have B5 := hid (B4.out.trans (hb5.mono B4.out.size)); clear hs5 hb5)
    go_wp2_with (go_at_call 16; refine (eqItemS_same _ _ _ _ _ its _ hn' S6.out S5.out).mono ?_; rintro e w6 ⟨rfl, hb6⟩; have B6 := hid (B5.out.trans (hb6.mono B5.out.size)); clear hb6)
    go_ret
    exact ⟨rfl, B6.out⟩
end Go.Proofs.Ytdpejnacganadaa
