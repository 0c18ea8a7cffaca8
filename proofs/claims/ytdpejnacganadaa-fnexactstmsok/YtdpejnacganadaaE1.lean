import Derived.Test.YtdpejnacganadaaD7
namespace Go.Proofs.Ytdpejnacganadaa
open Go.RowKit Go.Sort
attribute [local go_sem ↓] Go.wp_at_zero Go.wp_at_succ

set_option maxHeartbeats 2000000 in
theorem lawStms (ao : Option Addr) (n c : Nat) (ss : List StmD) (o s t v : Int) (w : World) (hn : n ≤ 9223372036854775807) (hs : StmsOf w ao n ss) :
    Calls Try.prog 5 #[.slice ao n c, .agg #[.int .i64 o, .int .i64 s, .int .i64 t, .int .i64 v]] w fun e w' => e = .returned (.bool true) ∧ Below w.heap.size w w' := by
  have HX : Hid (∀ w', Below w.heap.size w w' → StmsOf w' ao n ss) := fun w' h => hs.below h
  have C := hid (fun w hw => szStmS_any ao n c ss w hn hw)
  clear hs
  go_enter Try.func5, Try.ntmps5
  go_wp2_with (go_at_call 17; refine (C.out _ (HX.out _ (below1 _ _))).mono ?_; rintro e w1 ⟨r, rfl, hr, hb1⟩; have HR := hid hr; have B1 := hid ((below1 _ _).trans (hb1.mono (by simp))); have Q1 := hid (block_below (heap_alloc_new w _) hb1); clear hr hb1)
  · go_ret
    exact ⟨rfl, B1.out⟩
  · rename_i hneg
    obtain ⟨_, hn', hcs⟩ : 0 ≤ r ∧ n ≤ 1048576 ∧ ∀ i, i < n → (ss.getD i stm0).code.length ≤ 1048576 := by rcases HR.out with h | h <;> first | exact h | omega
    have HC := hid hcs
    have T := hid (fun w hw => toStmS_any ao n c ss w hn' hcs hw)
    obtain ⟨q0, q1, q2, q3⟩ := quad_cells Q1.out
    have D1 : Hid (Below w.heap.size w w1.drew) := B1.out.drew
    have Q1d : Hid (w1.drew.heap[w.heap.size]? = some (.cells #[.int .i64 o, .int .i64 s, .int .i64 t, .int .i64 v] 47 (0, 0))) := Q1.out
    clear hcs
    go_region_with (first | (go_at_call 19; refine (T.out _ (HX.out _ D1.out)).mono ?_; rintro e w2 ⟨g, rfl, hs2, hb2⟩; have S2 := hid hs2; have B2 := hid (D1.out.trans (hb2.mono D1.out.size)); have Q2 := hid (block_below Q1d.out hb2); obtain ⟨q20, q21, q22, q23⟩ := quad_cells Q2.out; clear hs2 hb2) | (go_at_call 20; refine (toLimits_any o s t v _).mono ?_; rintro e w3 ⟨rfl, hb3⟩; have S3 := hid (S2.out.below hb3); have B3 := hid (B2.out.trans (hb3.mono B2.out.size)); have Q3 := hid (block_below Q2.out hb3); clear hb3) | (go_at_call 18; refine (specStmsOK_any _ _ _ ss o s t v _ hn S3.out).mono ?_; rintro e w4 ⟨rfl, hb4⟩; have B4 := hid (B3.out.trans (hb4.mono B3.out.size)); have Q4 := hid (block_below Q3.out hb4); obtain ⟨q40, q41, q42, q43⟩ := quad_cells Q4.out; clear hb4))
    all_goals
      go_wp2_with (go_at_call 19; refine (T.out _ (HX.out _ B4.out)).mono ?_; rintro e w5 ⟨g5, rfl, hs5, hb5⟩; have S5 := hid hs5; have B5 := hid (B4.out.trans (hb5.mono B4.out.size)); have Q5 := hid (block_below Q4.out hb5); obtain ⟨q50, q51, q52, q53⟩ := quad_cells Q5.out; clear hs5 hb5)
      go_wp2_with (first | (go_at_call 20; refine (toLimits_any o s t v _).mono ?_; rintro e w6 ⟨rfl, hb6⟩; have S6 := hid (S5.out.below hb6); have B6 := hid (B5.out.trans (hb6.mono B5.out.size)); clear hb6) | (go_at_call 21; refine (implStmsOK_any _ _ _ ss o s t v _ hn S6.out).mono ?_; rintro e w7 ⟨rfl, hb7⟩; have S7 := hid (S6.out.below hb7); have B7 := hid (B6.out.trans (hb7.mono B6.out.size)); clear hb7) | (go_at_call 19; refine (T.out _ (HX.out _ B7.out)).mono ?_; rintro e w8 ⟨g8, rfl, hs8, hb8⟩; have S8 := hid hs8; have S9 := hid (S7.out.below hb8); have B8 := hid (B7.out.trans (hb8.mono B7.out.size)); clear hs8 hb8) | (go_at_call 22; refine (eqStmS_same _ _ _ _ _ ss _ hn' HC.out S9.out S8.out).mono ?_; rintro e w9 ⟨rfl, hb9⟩; have B9 := hid (B8.out.trans (hb9.mono B8.out.size)); clear hb9))
      go_ret
      exact ⟨rfl, B9.out⟩
end Go.Proofs.Ytdpejnacganadaa
