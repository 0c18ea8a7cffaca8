import Derived.Test.YtkkiiffhfjkoaaaGreatDoorPs12
namespace Go.Proofs.YtkkiiffhfjkoaaaGreatDoor
open Go.RowKit Go.Sort
set_option linter.unusedVariables false
attribute [local go_sem ↓] Go.wp_at_zero Go.wp_at_succ

theorem numsN (B P : Nat) (l : List UInt8) (ns : List Int) (w : World) (hT : Tabs w B) (h : PenAt w B P l true) (hlen : l.length ≤ 20000000000000) (hB : B ≤ w.heap.size) (hn : ns.length ≤ 10) (hi : ∀ j, j < ns.length → I64 (ns.getD j 0)) :
    Calls Tryz.prog 51 #[.pointer (some ⟨P, 0, none⟩), .slice (some ⟨w.heap.size, 0, none⟩) ns.length ns.length] (w.alloc (.cells (ns.map (Value.int .i64)).toArray 3)) fun e w' => e = .returned (.tuple #[]) ∧ PenAt w' B P (l ++ numT ns ns.length) true ∧ Wr B P w w' := by
  have hb := below1 w (.cells (ns.map (Value.int .i64)).toArray 3)
  have hP := h.box.2.1
  refine (numbers_pen B P l ns w.heap.size ns.length _ _ (hT.below (hb.mono hB)) (h.below hb) hlen (Nat.le_trans hB hb.size) (heap_alloc_new w _) (fun j hj => ?_) (by omega) hn hi).mono ?_
  · simp [List.getD_eq_getElem?_getD, hj]
  · rintro e w' ⟨rfl, h1, h2⟩
    exact ⟨rfl, h1, (Wr.of_below hB hb).trans h2⟩
theorem lineN (B P : Nat) (l wd : List UInt8) (ns : List Int) (w : World) (hT : Tabs w B) (h : PenAt w B P l false) (hlen : l.length ≤ 10000000000000) (hwd : wd.length ≤ 20) (hB : B ≤ w.heap.size) (hn : ns.length ≤ 10) (hi : ∀ j, j < ns.length → I64 (ns.getD j 0)) :
    Calls Tryz.prog 33 #[.pointer (some ⟨P, 0, none⟩), .string ⟨wd.toArray⟩, .slice (some ⟨w.heap.size, 0, none⟩) ns.length ns.length] (w.alloc (.cells (ns.map (Value.int .i64)).toArray 3)) fun e w' => e = .returned (.tuple #[]) ∧ PenAt w' B P (l ++ lineT wd ns) false ∧ Wr B P w w' := by
  have hb := below1 w (.cells (ns.map (Value.int .i64)).toArray 3)
  have hP := h.box.2.1
  refine (line_pen B P l wd ns w.heap.size ns.length _ _ (hT.below (hb.mono hB)) (h.below hb) hlen hwd (Nat.le_trans hB hb.size) (heap_alloc_new w _) (fun j hj => ?_) (by omega) hn hi).mono ?_
  · simp [List.getD_eq_getElem?_getD, hj]
  · rintro e w' ⟨rfl, h1, h2⟩
    exact ⟨rfl, h1, (Wr.of_below hB hb).trans h2⟩
theorem num1 (B P : Nat) (l : List UInt8) (z : Int) (w : World) (hT : Tabs w B) (h : PenAt w B P l true) (hlen : l.length ≤ 20000000000000) (hB : B ≤ w.heap.size) (hz : I64 z) :
    Calls Tryz.prog 51 #[.pointer (some ⟨P, 0, none⟩), .slice (some ⟨w.heap.size, 0, none⟩) 1 1] (w.alloc (.cells #[.int .i64 z] 3)) fun e w' => e = .returned (.tuple #[]) ∧ PenAt w' B P (l ++ ([32] ++ Lib.itoa z)) true ∧ Wr B P w w' :=
  numsN B P l [z] w hT h hlen hB (by simp) (fun j hj => by have : j = 0 := by simpa using hj
                                                           subst this; exact hz)
theorem num3 (B P : Nat) (l : List UInt8) (x y z : Int) (w : World) (hT : Tabs w B) (h : PenAt w B P l true) (hlen : l.length ≤ 20000000000000) (hB : B ≤ w.heap.size) (hx : I64 x) (hy : I64 y) (hz : I64 z) :
    Calls Tryz.prog 51 #[.pointer (some ⟨P, 0, none⟩), .slice (some ⟨w.heap.size, 0, none⟩) 3 3] (w.alloc (.cells #[.int .i64 x, .int .i64 y, .int .i64 z] 3)) fun e w' => e = .returned (.tuple #[]) ∧ PenAt w' B P (l ++ numT [x, y, z] 3) true ∧ Wr B P w w' :=
  numsN B P l [x, y, z] w hT h hlen hB (by simp) (fun j hj => by
    have : j = 0 ∨ j = 1 ∨ j = 2 := by simp at hj; omega
    rcases this with rfl | rfl | rfl
    · exact hx
    · exact hy
    · exact hz)

set_option maxHeartbeats 4000000 in
theorem variable_pen (B P : Nat) (l : List UInt8) (k v : Int) (w : World) (hk : 1 ≤ k ∧ k ≤ 7) (hv : I64 v) (hT : Tabs w B) (h : PenAt w B P l false) (hlen : l.length ≤ 10000000000000) (hB : B ≤ w.heap.size) :
    Calls Tryz.prog 53 #[.pointer (some ⟨P, 0, none⟩), .int .i64 k, .int .i64 v] w fun e w' => e = .returned (.tuple #[]) ∧ PenAt w' B P (l ++ varT k v) false ∧ Wr B P w w' := by
  have hit : ItOK 19 k := ⟨by omega, by omega, ⟨by omega, by omega⟩, fun _ => hk, by omega⟩
  have hkl := kindName_l k
  have hil := itoa_l hv
  obtain ⟨l1, hl1⟩ : ∃ x, x = l ++ gap false ++ [118, 97, 114] := ⟨_, rfl⟩
  have e1 : l1.length ≤ l.length + 3 := by rw [hl1]; simp [gap]
  obtain ⟨l2, hl2⟩ : ∃ x, x = l1 ++ gap true ++ wordT 19 k := ⟨_, rfl⟩
  have e2 : l2.length ≤ l.length + 7 := by rw [hl2]; simp [gap, wordT]; omega
  obtain ⟨l3, hl3⟩ : ∃ x, x = l2 ++ ([32] ++ Lib.itoa v) := ⟨_, rfl⟩
  have e3 : l3.length ≤ l.length + 29 := by rw [hl3]; simp; omega
  have C1 := hid (word_pen B P l [118, 97, 114] false w h (by simp; omega) hB)
  have C2 := hid (fun (w1 : World) (k1 : Wr B P w w1) => wordOf_any 19 k hit w1 (hT.below k1.bel).pow (hT.below k1.bel).it' (fun w' hb' => pow_below (hT.below k1.bel).pow hb' (by have := hT.lt; have := k1.size; omega)))
  have C3 := hid (fun (w1 : World) (k1 : Wr B P w w1) (h1 : PenAt w1 B P l1 true) => word_pen B P l1 (wordT 19 k) true w1 h1 (by simp [wordT]; omega) (Nat.le_trans hB k1.size))
  have C4 := hid (fun (w1 : World) (k1 : Wr B P w w1) (h1 : PenAt w1 B P l2 true) => num1 B P l2 v w1 (hT.below k1.bel) h1 (by omega) (Nat.le_trans hB k1.size) hv)
  have C5 := hid (fun (w1 : World) (k1 : Wr B P w w1) (h1 : PenAt w1 B P l3 true) => end_pen B P l3 true w1 h1 (by omega) (Nat.le_trans hB k1.size))
  rw [← hl1] at C1
  rw [← hl2] at C3
  rw [← hl3] at C4
  have HB := hid hB
  have EE : Hid (l3 ++ [10] = l ++ varT k v) := hid (by rw [hl3, hl2, hl1]; simp [gap, wordT, varT])
  clear hit hkl hil hl1 hl2 hl3 e1 e2 e3 hT h hlen hB hk hv
  go_enter Tryz.func53, Tryz.ntmps53
  go_wp2_with (first
    | (go_at_call 50; with_reducible refine C1.out.mono ?_; rintro e w1 ⟨rfl, h1, k1⟩; have H1 := hid h1; have K1 := hid k1; clear h1 k1)
    | (go_at_call 76; refine (C2.out w1 K1.out).mono ?_; rintro e w2 ⟨rfl, hb2⟩; have H2 := hid (H1.out.below hb2); have K2 := hid (K1.out.of HB.out hb2); clear hb2)
    | (go_at_call 50; refine (C3.out w2 K2.out H2.out).mono ?_; rintro e w3 ⟨rfl, h3, k3⟩; have H3 := hid h3; have K3 := hid (K2.out.trans k3); clear h3 k3)
    | (go_at_call 51; refine (C4.out w3 K3.out H3.out).mono ?_; rintro e w4 ⟨rfl, h4, k4⟩; have H4 := hid h4; have K4 := hid (K3.out.trans k4); clear h4 k4)
    | (go_at_call 52; refine (C5.out w4 K4.out H4.out).mono ?_; rintro e w5 ⟨rfl, h5, k5⟩; have H5 := hid h5; have K5 := hid (K4.out.trans k5); clear h5 k5))
  go_end0
  exact ⟨rfl, by rw [← EE.out]; exact H5.out, K5.out⟩
end Go.Proofs.YtkkiiffhfjkoaaaGreatDoor
