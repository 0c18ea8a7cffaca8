import Derived.Test.YtdpejnacganadaaC1
import Derived.Test.YtdpejnacganadaaF7
namespace Go.Proofs.Ytdpejnacganadaa
open Go.RowKit Go.Sort
attribute [local go_sem ↓] Go.wp_at_zero Go.wp_at_succ

set_option maxHeartbeats 4000000 in
theorem lawEval (io : Option Addr) (n c : Nat) (its : List (Int × Int)) (ao bo : Option Addr) (kn kc vn vc : Nat) (ks vs : List Int) (arg : Int) (w : World) (hn : n ≤ 9223372036854775807) (hkn : kn ≤ 9223372036854775807) (hvn : vn ≤ 9223372036854775807)
    (hs : ItemsOf w io n its) (hk : SliceOf w ao kn ks) (hv : SliceOf w bo vn vs) (hx : ∀ i, I64 (vs.getD i 0)) (ha : I64 arg) :
    Calls Try.prog 7 #[.slice io n c, .agg #[.slice ao kn kc, .slice bo vn vc], .int .i64 arg] w fun e w' => e = .returned (.bool true) ∧ Below w.heap.size w w' := by
  have HX : Hid (∀ w', Below w.heap.size w w' → ItemsOf w' io n its ∧ SliceOf w' ao kn ks ∧ SliceOf w' bo vn vs) := fun w' h => ⟨hs.below h, hk.below h, hv.below h⟩
  have HR := hid hx
  have HA := hid ha
  clear hs hk hv hx ha
  by_cases hsz : (1048576 : Int) < n
  · have C := hid (fun w => szItemS_any io n c 1048576 w hn (by omega) (by omega))
    rw [if_pos hsz] at C
    go_enter Try.func7, Try.ntmps7
    go_wp2_with (go_at_call 12; refine (C.out _).mono ?_; rintro e w1 ⟨rfl, hw⟩; obtain rfl := hw.symm)
    go_ret
    exact ⟨rfl, below1 _ _⟩
  · have C := hid (fun w => szItemS_any io n c 1048576 w hn (by omega) (by omega))
    rw [if_neg hsz] at C
    have hn' : n ≤ 1048576 := by omega
    have C2 := hid (fun w => szBank_any ao bo kn vn kc vc (1048576 - n) w hkn hvn (by omega) (by omega))
    by_cases hs2 : szB (1048576 - n) kn vn < 0
    · go_enter Try.func7, Try.ntmps7
      go_wp2_with (first | (go_at_call 12; refine (C.out _).mono ?_; rintro e w1 ⟨rfl, hw⟩; obtain rfl := hw.symm) | (go_at_call 23; refine (C2.out _).mono ?_; rintro e w1 ⟨rfl, hb⟩; have B := hid hb; clear hb))
      go_ret
      exact ⟨rfl, (below1 _ _).trans (B.out.mono (by simp))⟩
    · have hkn' : kn ≤ 1048576 := by unfold szB at hs2; split at hs2 <;> first | omega | (split at hs2 <;> omega)
      have hvn' : vn ≤ 1048576 := by unfold szB at hs2; split at hs2 <;> first | omega | (split at hs2 <;> omega)
      have Q0 := hid (heap_alloc_new w (.cells #[.slice ao kn kc, .slice bo vn vc] 55))
      go_enter Try.func7, Try.ntmps7
      go_wp2_with (first | (go_at_call 12; refine (C.out _).mono ?_; rintro e w1 ⟨rfl, hw⟩; obtain rfl := hw.symm) | (go_at_call 23; refine (C2.out _).mono ?_; rintro e w1 ⟨rfl, hb⟩; have B1 := hid ((below1 _ _).trans (hb.mono (by simp))); have Q1 := hid (block_below Q0.out hb); clear hb))
      have D1 : Hid (Below w.heap.size w w1.drew) := B1.out.drew
      have Q1d : Hid (w1.drew.heap[w.heap.size]? = some (.cells #[.slice ao kn kc, .slice bo vn vc] 55 (0, 0))) := Q1.out
      obtain ⟨a0, a1, _, _⟩ := pair_cells Q1.out
      go_region_with (first | (go_at_call 14; refine (toItemS_of io n c its _ hn' (HX.out _ D1.out).1).mono ?_; rintro e w2 ⟨g, rfl, hs2, hb2⟩; have S2 := hid hs2; have B2 := hid (D1.out.trans (hb2.mono D1.out.size)); have Q2 := hid (block_below Q1d.out hb2); obtain ⟨b0, b1, _, _⟩ := pair_cells Q2.out; clear hs2 hb2) | (go_at_call 25; refine (toBank_any ao bo kn vn kc vc ks vs _ hkn' hvn' (HX.out _ B2.out).2.1 (HX.out _ B2.out).2.2).mono ?_; rintro e w3 ⟨g1, g2, rfl, sk, sv, hb3⟩; have S3 := hid (S2.out.below hb3); have SK := hid sk; have SV := hid sv; have B3 := hid (B2.out.trans (hb3.mono B2.out.size)); have Q3 := hid (block_below Q2.out hb3); clear sk sv hb3) | (go_at_call 28; refine (specEval_any _ _ _ its _ _ _ _ _ _ ks vs arg _ hn hkn hvn S3.out SK.out SV.out HR.out HA.out).mono ?_; rintro e w4 ⟨rfl, hb4⟩; have B4 := hid (B3.out.trans (hb4.mono B3.out.size)); have Q4 := hid (block_below Q3.out hb4); obtain ⟨d0, d1, _, _⟩ := pair_cells Q4.out; clear hb4))
      all_goals
        go_wp2_with (go_at_call 14; refine (toItemS_of io n c its _ hn' (HX.out _ B4.out).1).mono ?_; rintro e w5 ⟨g5, rfl, hs5, hb5⟩; have S5 := hid hs5; have B5 := hid (B4.out.trans (hb5.mono B4.out.size)); have Q5 := hid (block_below Q4.out hb5); obtain ⟨e0, e1, _, _⟩ := pair_cells Q5.out; clear hs5 hb5)
        go_wp2_with (go_at_call 25; refine (toBank_any ao bo kn vn kc vc ks vs _ hkn' hvn' (HX.out _ B5.out).2.1 (HX.out _ B5.out).2.2).mono ?_; rintro e w6 ⟨g6, g7, rfl, sk, sv, hb6⟩; have S6 := hid (S5.out.below hb6); have K6 := hid sk; have V6 := hid sv; have B6 := hid (B5.out.trans (hb6.mono B5.out.size)); have Q6 := hid (block_below Q5.out hb6); clear sk sv hb6)
        go_wp2_with (go_at_call 11; refine (implEval_any _ _ _ its _ _ _ _ _ _ ks vs arg _ hn hkn hvn (S6.out.below (below1 _ _)) (K6.out.below (below1 _ _)) (V6.out.below (below1 _ _))).mono ?_; rintro e w7 ⟨rfl, hb7⟩; have S7 := hid ((S6.out.below (below1 _ _)).below hb7); have K7 := hid ((K6.out.below (below1 _ _)).below hb7); have V7 := hid ((V6.out.below (below1 _ _)).below hb7); have B7 := hid ((B6.out.alloc B6.out.size _).trans (hb7.mono (by have := B6.out.size; simp; omega))); have Q7 := hid (block_below (block_below Q6.out (below1 _ _)) hb7); have X7 := hid (block_below (heap_alloc_new w6 _) hb7); clear hb7)
        go_wp2_with (first | (go_at_call 14; refine (toItemS_of io n c its _ hn' (HX.out _ B7.out).1).mono ?_; rintro e w8 ⟨g8, rfl, hs8, hb8⟩; have S8 := hid hs8; have S9 := hid (S7.out.below hb8); have K8 := hid (K7.out.below hb8); have V8 := hid (V7.out.below hb8); have B8 := hid (B7.out.trans (hb8.mono B7.out.size)); have Q8 := hid (block_below Q7.out hb8); have X8 := hid (block_below X7.out hb8); clear hs8 hb8) | (go_at_call 16; refine (eqItemS_same _ _ _ _ _ its _ hn' S9.out S8.out).mono ?_; rintro e w9 ⟨rfl, hb9⟩; have K9 := hid (K8.out.below hb9.drew); have V9 := hid (V8.out.below hb9.drew); have B9 := hid (B8.out.trans (hb9.mono B8.out.size)); have Q9 := hid (block_below Q8.out hb9); have X9 := hid (block_below X8.out hb9); clear hb9))
        have D9 : Hid (Below w.heap.size w w9.drew) := B9.out.drew
        have X9d : Hid (w9.drew.heap[w6.heap.size]? = some (.cells #[.slice (some ⟨g6, 0, none⟩) kn kn, .slice (some ⟨g7, 0, none⟩) vn vn] 26 (0, 0))) := X9.out
        obtain ⟨f0, f1, _, _⟩ := pair_cells Q9.out
        obtain ⟨h0, h1, _, _⟩ := pair_cells X9.out
        go_region_with (first | (go_at_call 25; refine (toBank_any ao bo kn vn kc vc ks vs _ hkn' hvn' (HX.out _ D9.out).2.1 (HX.out _ D9.out).2.2).mono ?_; rintro e wa ⟨ga, gb, rfl, ska, sva, hba⟩; have KA := hid ska; have VA := hid sva; have KB := hid (K9.out.below hba); have VB := hid (V9.out.below hba); have BA := hid (D9.out.trans (hba.mono D9.out.size)); obtain ⟨j0, j1, _, _⟩ := pair_cells (block_below X9d.out hba); clear ska sva hba) | (go_at_call 27; refine (eqBank_same _ _ _ _ _ _ _ _ _ _ ks vs _ hkn' hvn' KB.out VB.out KA.out VA.out).mono ?_; rintro e wb ⟨rfl, hbb⟩; have BB := hid (BA.out.trans (hbb.mono BA.out.size)); clear hbb))
        all_goals
          go_wp2
          go_ret
          exact ⟨rfl, BB.out⟩
end Go.Proofs.Ytdpejnacganadaa
