import Derived.Test.YtkkiiffhfjkoaaaGreatDoorPs13
namespace Go.Proofs.YtkkiiffhfjkoaaaGreatDoor
open Go.RowKit Go.Sort
set_option linter.unusedVariables false
attribute [local go_sem ↓] Go.wp_at_zero Go.wp_at_succ

/-- Cells of a box that a pen leaves alone. -/
theorem Wr.box {B P : Nat} {w w' : World} (h : Wr B P w w') {b : Nat} {cs : Array Value} {t : TypeId} (hb : w.heap[b]? = some (.cells cs t (0, 0))) (hP : b ≠ P) (ht : t ≠ 5) : w'.heap[b]? = some (.cells cs t (0, 0)) := h.fr b cs t _ hb hP ht

set_option maxRecDepth 100000 in
set_option maxHeartbeats 1600000 in
theorem stm_pen (w0 : World) (P : Nat) (l : List UInt8) (kd sa sb : Int) (co : Option Addr) (cn cc : Nat) (sc : List (Int × Int)) (w : World) (hok : StmOK ⟨kd, sa, sb, sc⟩) (hs : ItemsOf w0 co cn sc) (hw : Below w0.heap.size w0 w) (hT : Tabs w w0.heap.size) (h : PenAt w w0.heap.size P l true) (hlen : l.length ≤ 15000000000000) :
    Calls Tryz.prog 77 #[.pointer (some ⟨P, 0, none⟩), .agg #[.int .i64 kd, .int .i64 sa, .int .i64 sb, .slice co cn cc]] w fun e w' => e = .returned (.tuple #[]) ∧ PenAt w' w0.heap.size P (l ++ ([32] ++ stmT ⟨kd, sa, sb, sc⟩)) true ∧ Wr w0.heap.size P w w' := by
  obtain ⟨lo, hi, ha, hb, hcd⟩ := hok
  dsimp only at lo hi ha hb hcd
  obtain ⟨hBP, hPl, _, _⟩ := h.box
  have hB := hw.size
  have hnl := stmName_l kd
  have la := itoa_l ha
  have lb := itoa_l hb
  have hcl : sc.length = cn := hs.1
  obtain ⟨Z, hZ⟩ : ∃ Z, Z = w.alloc (.cells #[.int .i64 kd, .int .i64 sa, .int .i64 sb, .slice co cn cc] 83) := ⟨_, rfl⟩
  have BZ := hid (show Below w.heap.size w Z by rw [hZ]; exact below1 _ _)
  have XZ := hid (heap_alloc_new w (.cells #[.int .i64 kd, .int .i64 sa, .int .i64 sb, .slice co cn cc] 83))
  rw [← hZ] at XZ
  obtain ⟨ga, hga⟩ : ∃ g, g = giveA kd := ⟨_, rfl⟩
  obtain ⟨gb, hgb⟩ : ∃ g, g = giveB kd := ⟨_, rfl⟩
  have CF := hid (formOfKind_any kd (w.alloc (.cells #[.int .i64 kd, .int .i64 sa, .int .i64 sb, .slice co cn cc] 83)) lo hi (by rw [← hZ]; exact (hT.below (BZ.out.mono hB)).fm'))
  rw [← hga, ← hgb] at CF
  obtain ⟨nm, hnm⟩ : ∃ x, x = stmName kd := ⟨_, rfl⟩
  rw [← hnm] at CF hnl
  obtain ⟨l1, hl1⟩ : ∃ x, x = l ++ gap true ++ nm := ⟨_, rfl⟩
  have e1 : l1.length ≤ l.length + 8 := by rw [hl1]; simp [gap]; omega
  obtain ⟨l2, hl2⟩ : ∃ x, x = l1 ++ fieldT ga sa := ⟨_, rfl⟩
  have e2 : l2.length ≤ l.length + 30 := by have := fieldT_l (b := ga) ha; rw [hl2]; simp; omega
  obtain ⟨l3, hl3⟩ : ∃ x, x = l2 ++ fieldT gb sb := ⟨_, rfl⟩
  have e3 : l3.length ≤ l.length + 52 := by have := fieldT_l (b := gb) hb; rw [hl3]; simp; omega
  have EE : Hid (l3 ++ codeT sc cn = l ++ ([32] ++ stmT ⟨kd, sa, sb, sc⟩)) := hid (by rw [hl3, hl2, hl1, hnm, hga, hgb]; simp [gap, stmT, hcl])
  have C1 := hid (fun (w1 : World) (k1 : Wr w0.heap.size P w w1) (h1 : PenAt w1 w0.heap.size P l true) => word_pen w0.heap.size P l nm true w1 h1 (by omega) (Nat.le_trans hB k1.size))
  have CA := hid (fun (w1 : World) (k1 : Wr w0.heap.size P w w1) (h1 : PenAt w1 w0.heap.size P l1 true) => num1 w0.heap.size P l1 sa w1 (hT.below k1.bel) h1 (by omega) (Nat.le_trans hB k1.size) ha)
  have CB := hid (fun (w1 : World) (k1 : Wr w0.heap.size P w w1) (h1 : PenAt w1 w0.heap.size P l2 true) => num1 w0.heap.size P l2 sb w1 (hT.below k1.bel) h1 (by omega) (Nat.le_trans hB k1.size) hb)
  have CC := hid (fun (w1 : World) (k1 : Wr w0.heap.size P w w1) (h1 : PenAt w1 w0.heap.size P l3 true) => code_pen w0 P l3 co cn cc sc w1 hcd hs (hw.trans k1.bel) (hT.below k1.bel) h1 (by omega))
  rw [← hl1] at C1
  have HB := hid hB
  have HPl := hid hPl
  have H := hid h
  have HZ := hid hZ
  have KZ : Hid (Wr w0.heap.size P w Z) := hid (Wr.of_below hB BZ.out)
  have PX : Hid (w.heap.size ≠ P) := hid (by omega)
  have HL2 := hid hl2
  have HL3 := hid hl3
  clear hnm hga hgb hl1 hl2 hl3 e1 e2 e3 hT h hlen hB hw hs hcd ha hb la lb hnl lo hi hcl hZ hPl
  cases ga with
  | true =>
    cases gb with
    | true =>
      go_enter Tryz.func77, Tryz.ntmps77
      go_wp2_with (first
        | (go_at_call 102; refine CF.out.mono ?_; rintro e w1 ⟨⟨fc, rfl⟩, hb1⟩; have B1 : Hid (Below Z.heap.size Z w1) := hid (by rw [HZ.out]; exact hb1); have K1 := hid (KZ.out.of HB.out B1.out); have X1 := hid (block_below XZ.out B1.out); have hF := below1 w1 (.cells #[.int .i64 kd, .string ⟨nm.toArray⟩, .bool true, .bool true, .bool fc] 173); have K2 := hid (K1.out.of HB.out hF); have X2 := hid (block_below X1.out hF); have F2 := hid (heap_alloc_new w1 (.cells #[.int .i64 kd, .string ⟨nm.toArray⟩, .bool true, .bool true, .bool fc] 173)); have PF : Hid (w1.heap.size ≠ P) := hid (by have := HPl.out; have := K1.out.size; omega); have H2 := hid ((H.out.below BZ.out).below B1.out |>.below hF); clear hb1 hF)
        | (go_at_call 50; refine (C1.out _ K2.out H2.out).mono ?_; rintro e w3 ⟨rfl, h3, k3⟩; have H3 := hid h3; have K3 := hid (K2.out.trans k3); obtain ⟨x0, x1, x2, x3⟩ := four_cells (k3.box X2.out PX.out (by decide)); obtain ⟨f0, f1, f2, f3, f4⟩ := five_cc (k3.box F2.out PF.out (by decide)); have X3 := hid (k3.box X2.out PX.out (by decide)); have F3 := hid (k3.box F2.out PF.out (by decide)); clear h3 k3)
        | (go_at_call 51; with_reducible refine (CA.out w3 K3.out H3.out).mono ?_; rintro e w4 ⟨rfl, h4, k4⟩; have H4 := hid (show PenAt w4 w0.heap.size P l2 true by rw [HL2.out]; simpa [fieldT] using h4); have K4 := hid (K3.out.trans k4); obtain ⟨x0, x1, x2, x3⟩ := four_cells (k4.box X3.out PX.out (by decide)); obtain ⟨f0, f1, f2, f3, f4⟩ := five_cc (k4.box F3.out PF.out (by decide)); have X4 := hid (k4.box X3.out PX.out (by decide)); have F4 := hid (k4.box F3.out PF.out (by decide)); clear h4 k4)
        | (go_at_call 51; with_reducible refine (CB.out w4 K4.out H4.out).mono ?_; rintro e w5 ⟨rfl, h5, k5⟩; have H5 := hid (show PenAt w5 w0.heap.size P l3 true by rw [HL3.out]; simpa [fieldT] using h5); have K5 := hid (K4.out.trans k5); obtain ⟨x0, x1, x2, x3⟩ := four_cells (k5.box X4.out PX.out (by decide)); clear h5 k5)
        | (go_at_call 78; refine (CC.out w5 K5.out H5.out).mono ?_; rintro e w9 ⟨rfl, h9, k9⟩; have H9 := hid h9; have K9 := hid (K5.out.trans k9); clear h9 k9))
      go_end0
      exact ⟨rfl, by have h := H9.out; rw [EE.out] at h; exact h, K9.out⟩
    | false =>
      go_enter Tryz.func77, Tryz.ntmps77
      go_wp2_with (first
        | (go_at_call 102; refine CF.out.mono ?_; rintro e w1 ⟨⟨fc, rfl⟩, hb1⟩; have B1 : Hid (Below Z.heap.size Z w1) := hid (by rw [HZ.out]; exact hb1); have K1 := hid (KZ.out.of HB.out B1.out); have X1 := hid (block_below XZ.out B1.out); have hF := below1 w1 (.cells #[.int .i64 kd, .string ⟨nm.toArray⟩, .bool true, .bool false, .bool fc] 173); have K2 := hid (K1.out.of HB.out hF); have X2 := hid (block_below X1.out hF); have F2 := hid (heap_alloc_new w1 (.cells #[.int .i64 kd, .string ⟨nm.toArray⟩, .bool true, .bool false, .bool fc] 173)); have PF : Hid (w1.heap.size ≠ P) := hid (by have := HPl.out; have := K1.out.size; omega); have H2 := hid ((H.out.below BZ.out).below B1.out |>.below hF); clear hb1 hF)
        | (go_at_call 50; refine (C1.out _ K2.out H2.out).mono ?_; rintro e w3 ⟨rfl, h3, k3⟩; have H3 := hid h3; have K3 := hid (K2.out.trans k3); obtain ⟨x0, x1, x2, x3⟩ := four_cells (k3.box X2.out PX.out (by decide)); obtain ⟨f0, f1, f2, f3, f4⟩ := five_cc (k3.box F2.out PF.out (by decide)); have X3 := hid (k3.box X2.out PX.out (by decide)); have F3 := hid (k3.box F2.out PF.out (by decide)); clear h3 k3)
        | (go_at_call 51; with_reducible refine (CA.out w3 K3.out H3.out).mono ?_; rintro e w4 ⟨rfl, h4, k4⟩; have H4 := hid (show PenAt w4 w0.heap.size P l2 true by rw [HL2.out]; simpa [fieldT] using h4); have K4 := hid (K3.out.trans k4); obtain ⟨x0, x1, x2, x3⟩ := four_cells (k4.box X3.out PX.out (by decide)); obtain ⟨f0, f1, f2, f3, f4⟩ := five_cc (k4.box F3.out PF.out (by decide)); have X4 := hid (k4.box X3.out PX.out (by decide)); have F4 := hid (k4.box F3.out PF.out (by decide)); clear h4 k4)
        | (go_at_call 78; refine (CC.out w4 K4.out (show PenAt w4 w0.heap.size P l3 true by rw [HL3.out]; simpa [fieldT] using H4.out)).mono ?_; rintro e w9 ⟨rfl, h9, k9⟩; have H9 := hid h9; have K9 := hid (K4.out.trans k9); clear h9 k9))
      go_end0
      exact ⟨rfl, by have h := H9.out; rw [EE.out] at h; exact h, K9.out⟩
  | false =>
    cases gb with
    | true =>
      go_enter Tryz.func77, Tryz.ntmps77
      go_wp2_with (first
        | (go_at_call 102; refine CF.out.mono ?_; rintro e w1 ⟨⟨fc, rfl⟩, hb1⟩; have B1 : Hid (Below Z.heap.size Z w1) := hid (by rw [HZ.out]; exact hb1); have K1 := hid (KZ.out.of HB.out B1.out); have X1 := hid (block_below XZ.out B1.out); have hF := below1 w1 (.cells #[.int .i64 kd, .string ⟨nm.toArray⟩, .bool false, .bool true, .bool fc] 173); have K2 := hid (K1.out.of HB.out hF); have X2 := hid (block_below X1.out hF); have F2 := hid (heap_alloc_new w1 (.cells #[.int .i64 kd, .string ⟨nm.toArray⟩, .bool false, .bool true, .bool fc] 173)); have PF : Hid (w1.heap.size ≠ P) := hid (by have := HPl.out; have := K1.out.size; omega); have H2 := hid ((H.out.below BZ.out).below B1.out |>.below hF); clear hb1 hF)
        | (go_at_call 50; refine (C1.out _ K2.out H2.out).mono ?_; rintro e w3 ⟨rfl, h3, k3⟩; have H3 := hid h3; have K3 := hid (K2.out.trans k3); obtain ⟨x0, x1, x2, x3⟩ := four_cells (k3.box X2.out PX.out (by decide)); obtain ⟨f0, f1, f2, f3, f4⟩ := five_cc (k3.box F2.out PF.out (by decide)); have X3 := hid (k3.box X2.out PX.out (by decide)); have F3 := hid (k3.box F2.out PF.out (by decide)); clear h3 k3)
        | (go_at_call 51; with_reducible refine (CB.out w3 K3.out (show PenAt w3 w0.heap.size P l2 true by rw [HL2.out]; simpa [fieldT] using H3.out)).mono ?_; rintro e w4 ⟨rfl, h4, k4⟩; have H4 := hid (show PenAt w4 w0.heap.size P l3 true by rw [HL3.out]; simpa [fieldT] using h4); have K4 := hid (K3.out.trans k4); obtain ⟨x0, x1, x2, x3⟩ := four_cells (k4.box X3.out PX.out (by decide)); clear h4 k4)
        | (go_at_call 78; refine (CC.out w4 K4.out H4.out).mono ?_; rintro e w9 ⟨rfl, h9, k9⟩; have H9 := hid h9; have K9 := hid (K4.out.trans k9); clear h9 k9))
      go_end0
      exact ⟨rfl, by have h := H9.out; rw [EE.out] at h; exact h, K9.out⟩
    | false =>
      go_enter Tryz.func77, Tryz.ntmps77
      go_wp2_with (first
        | (go_at_call 102; refine CF.out.mono ?_; rintro e w1 ⟨⟨fc, rfl⟩, hb1⟩; have B1 : Hid (Below Z.heap.size Z w1) := hid (by rw [HZ.out]; exact hb1); have K1 := hid (KZ.out.of HB.out B1.out); have X1 := hid (block_below XZ.out B1.out); have hF := below1 w1 (.cells #[.int .i64 kd, .string ⟨nm.toArray⟩, .bool false, .bool false, .bool fc] 173); have K2 := hid (K1.out.of HB.out hF); have X2 := hid (block_below X1.out hF); have F2 := hid (heap_alloc_new w1 (.cells #[.int .i64 kd, .string ⟨nm.toArray⟩, .bool false, .bool false, .bool fc] 173)); have PF : Hid (w1.heap.size ≠ P) := hid (by have := HPl.out; have := K1.out.size; omega); have H2 := hid ((H.out.below BZ.out).below B1.out |>.below hF); clear hb1 hF)
        | (go_at_call 50; refine (C1.out _ K2.out H2.out).mono ?_; rintro e w3 ⟨rfl, h3, k3⟩; have H3 := hid h3; have K3 := hid (K2.out.trans k3); obtain ⟨x0, x1, x2, x3⟩ := four_cells (k3.box X2.out PX.out (by decide)); obtain ⟨f0, f1, f2, f3, f4⟩ := five_cc (k3.box F2.out PF.out (by decide)); have X3 := hid (k3.box X2.out PX.out (by decide)); have F3 := hid (k3.box F2.out PF.out (by decide)); clear h3 k3)
        | (go_at_call 78; refine (CC.out w3 K3.out (show PenAt w3 w0.heap.size P l3 true by rw [HL3.out, HL2.out]; simpa [fieldT] using H3.out)).mono ?_; rintro e w9 ⟨rfl, h9, k9⟩; have H9 := hid h9; have K9 := hid (K3.out.trans k9); clear h9 k9))
      go_end0
      exact ⟨rfl, by have h := H9.out; rw [EE.out] at h; exact h, K9.out⟩
end Go.Proofs.YtkkiiffhfjkoaaaGreatDoor
