import Derived.Test.YtkkiiffhfjkoaaaGreatDoorPs14
namespace Go.Proofs.YtkkiiffhfjkoaaaGreatDoor
open Go.RowKit Go.Sort
set_option linter.unusedVariables false
attribute [local go_sem ↓] Go.wp_at_zero Go.wp_at_succ

set_option maxRecDepth 100000 in
set_option maxHeartbeats 1600000 in
theorem stms_pen (w0 : World) (P : Nat) (l key : List UInt8) (hkey : key.length ≤ 10) (ao : Option Addr) (n c : Nat) (ss : List StmD) (w : World) (hok : StmsOK ss) (hs : StmsOf w0 ao n ss) (hw : Below w0.heap.size w0 w) (hT : Tabs w w0.heap.size) (h : PenAt w w0.heap.size P l false) (hlen : l.length ≤ 10000000000000) :
    Calls Tryz.prog 54 #[.pointer (some ⟨P, 0, none⟩), .string ⟨key.toArray⟩, .slice ao n c] w fun e w' => e = .returned (.tuple #[]) ∧ PenAt w' w0.heap.size P (l ++ stmsT key ss n) false ∧ Wr w0.heap.size P w w' := by
  have HL := hid hs.1
  have hn : n ≤ 50 := by rw [← hs.1]; exact hok.1
  have HS := hid hs
  have HO := hid hok
  have HT := hid hT
  have H := hid h
  have HW0 := hid hw
  have HK := hid hkey
  have HLN := hid hlen
  have HB : Hid (w0.heap.size ≤ w.heap.size) := hid hw.size
  clear hT h hw hok hs hkey hlen
  go_enter Tryz.func54, Tryz.ntmps54
  go_wp2
  go_loopw [10] (fun i wr => ∃ (k : Nat), k ≤ n ∧ i = .int .i64 k ∧ PenAt wr w0.heap.size P (l ++ stmsT key ss k) false ∧ Wr w0.heap.size P w wr) (fun i _ => n - (intOf i).toNat)
  case atStart => exact ⟨0, Nat.zero_le _, rfl, by simpa [stmsT, catTo] using H.out, Wr.refl _ _ _⟩
  case round =>
    obtain ⟨k, hk, rfl, hp, hw⟩ := hrel
    have HP := hid hp
    have HW := hid hw
    clear hp hw
    by_cases hlt : k < n
    · obtain ⟨b, off, rfl, hbl, hc⟩ := HS.out.2 (by omega)
      obtain ⟨s, es⟩ : ∃ s, s = ss.getD k stm0 := ⟨_, rfl⟩
      have hk4 := hc k hlt
      rw [← es] at hk4
      obtain ⟨c0, c1, c2, co, cn, cc, c3, hcn, hit⟩ := hk4
      have BR : Hid (Below w0.heap.size w0 wr) := hid (HW0.out.trans HW.out.bel)
      have c0 := (BR.out.cell (p := ⟨b, off + k * 4, none⟩) hbl).trans c0
      have c1 := (BR.out.cell (p := ⟨b, off + k * 4 + 1, none⟩) hbl).trans c1
      have c2 := (BR.out.cell (p := ⟨b, off + k * 4 + 2, none⟩) hbl).trans c2
      have c3 := (BR.out.cell (p := ⟨b, off + k * 4 + 3, none⟩) hbl).trans c3
      have hsk := HO.out.2 k (by rw [HL.out]; exact hlt)
      rw [← es] at hsk
      have tl := stmsT_l HK.out HO.out (n := k) (by rw [HL.out]; exact hk)
      have sl := stmT_l hsk
      have kl := HK.out
      have ln := HLN.out
      have ES : Hid (stmsT key ss (k + 1) = stmsT key ss k ++ (key ++ [32] ++ stmT s ++ [10])) := hid (by rw [es]; rfl)
      obtain ⟨kd, sa, sb, sc⟩ := s
      dsimp only at c0 c1 c2 hit
      have hbl' : b < wr.heap.size := Nat.lt_of_lt_of_le hbl BR.out.size
      obtain ⟨hBP, hPl, _, _⟩ := HP.out.box
      obtain ⟨Z, hZ⟩ : ∃ Z, Z = wr.alloc (.cells #[.int .i64 kd, .int .i64 sa, .int .i64 sb, .slice co cn cc] 83) := ⟨_, rfl⟩
      have BZ := hid (show Below wr.heap.size wr Z by rw [hZ]; exact below1 _ _)
      have XZ := hid (heap_alloc_new wr (.cells #[.int .i64 kd, .int .i64 sa, .int .i64 sb, .slice co cn cc] 83))
      rw [← hZ] at XZ
      have KZ : Hid (Wr w0.heap.size P w Z) := hid (HW.out.of HB.out BZ.out)
      have PX : Hid (wr.heap.size ≠ P) := hid (by omega)
      obtain ⟨l0, hl0⟩ : ∃ x, x = l ++ stmsT key ss k := ⟨_, rfl⟩
      have e0 : l0.length ≤ 10000000250000 := by rw [hl0]; simp; omega
      have HP' : Hid (PenAt Z w0.heap.size P l0 false) := hid (by rw [hl0]; exact HP.out.below BZ.out)
      obtain ⟨l1, hl1⟩ : ∃ x, x = l0 ++ gap false ++ key := ⟨_, rfl⟩
      have e1 : l1.length ≤ 10000000250010 := by rw [hl1]; simp [gap]; omega
      obtain ⟨l2, hl2⟩ : ∃ x, x = l1 ++ ([32] ++ stmT ⟨kd, sa, sb, sc⟩) := ⟨_, rfl⟩
      have e2 : l2.length ≤ 10000000260010 := by rw [hl2]; simp; omega
      have EE : Hid (l2 ++ [10] = l ++ stmsT key ss (k + 1)) := hid (by rw [ES.out, hl2, hl1, hl0]; simp [gap])
      have C1 := hid (word_pen w0.heap.size P l0 key false Z HP'.out (by omega) (Nat.le_trans HB.out KZ.out.size))
      have C2 := hid (fun (w1 : World) (k1 : Wr w0.heap.size P w w1) (h1 : PenAt w1 w0.heap.size P l1 true) => stm_pen w0 P l1 kd sa sb co cn cc sc w1 hsk hit (HW0.out.trans k1.bel) (HT.out.below k1.bel) h1 (by omega))
      have C3 := hid (fun (w1 : World) (k1 : Wr w0.heap.size P w w1) (h1 : PenAt w1 w0.heap.size P l2 true) => end_pen w0.heap.size P l2 true w1 h1 (by omega) (Nat.le_trans HB.out k1.size))
      rw [← hl1] at C1
      rw [← hl2] at C2
      have C1' : Hid (Calls Tryz.prog 50 #[.pointer (some ⟨P, 0, none⟩), .string ⟨key.toArray⟩] (wr.alloc (.cells #[.int .i64 kd, .int .i64 sa, .int .i64 sb, .slice co cn cc] 83)) fun e w' => e = .returned (.tuple #[]) ∧ PenAt w' w0.heap.size P l1 true ∧ Wr w0.heap.size P Z w') := hid (by rw [← hZ]; exact C1.out)
      have HLT := hid hlt
      clear hc es hit hsk tl sl kl ln hl0 hl1 hl2 e0 e1 e2 hZ C1 hPl hBP
      go_wp2_with (first
        | (go_at_call 50; with_reducible refine C1'.out.mono ?_; rintro e w1 ⟨rfl, h1, k1⟩; have H1 := hid h1; have K1 := hid (KZ.out.trans k1); obtain ⟨x0, x1, x2, x3⟩ := four_cells (k1.box XZ.out PX.out (by decide)); clear h1 k1)
        | (go_at_call 77; with_reducible refine (C2.out w1 K1.out H1.out).mono ?_; rintro e w2 ⟨rfl, h2, k2⟩; have H2 := hid h2; have K2 := hid (K1.out.trans k2); clear h2 k2)
        | (go_at_call 52; with_reducible refine (C3.out w2 K2.out H2.out).mono ?_; rintro e w3 ⟨rfl, h3, k3⟩; have H3 := hid h3; have K3 := hid (K2.out.trans k3); clear h3 k3))
      go_roundw
      case rel => exact ⟨k + 1, by have := HLT.out; omega, by go_num, by rw [← EE.out]; exact H3.out, K3.out⟩
      case measure => have := HLT.out; simp [intOf]; omega
    · have e : k = n := by omega
      subst e
      go_wp2
      go_end0
      exact ⟨rfl, HP.out, HW.out⟩

set_option maxRecDepth 100000 in
set_option maxHeartbeats 1600000 in
theorem transition_pen (w0 : World) (P : Nat) (l : List UInt8) (t : TrD) (co fo : Option Addr) (cn cc fn fc : Nat) (w : World) (hok : TrOK t) (hs : ItemsOf w0 co cn t.guard) (hw : Below w0.heap.size w0 w) (hT : Tabs w w0.heap.size) (h : PenAt w w0.heap.size P l false) (hlen : l.length ≤ 10000000000000) :
    Calls Tryz.prog 55 #[.pointer (some ⟨P, 0, none⟩), .agg #[.int .i64 t.src, .int .i64 t.sig, .slice co cn cc, .int .i64 t.target, .slice fo fn fc]] w fun e w' => e = .returned (.tuple #[]) ∧ PenAt w' w0.heap.size P (l ++ trHead t) false ∧ Wr w0.heap.size P w w' := by
  obtain ⟨pp, ii, gg, jj, aa⟩ := t
  obtain ⟨g1, g2, g3, g4, g5⟩ := hok
  dsimp only at *
  have i1 := itoa_l g1
  have i2 := itoa_l g2
  have i3 := itoa_l g3
  have cl := codeT_l g4 (Nat.le_refl _)
  have hcl : gg.length = cn := hs.1
  have hB := hw.size
  obtain ⟨hBP, hPl, _, _⟩ := h.box
  obtain ⟨Z, hZ⟩ : ∃ Z, Z = w.alloc (.cells #[.int .i64 pp, .int .i64 ii, .slice co cn cc, .int .i64 jj, .slice fo fn fc] 56) := ⟨_, rfl⟩
  have BZ := hid (show Below w.heap.size w Z by rw [hZ]; exact below1 _ _)
  have XZ := hid (heap_alloc_new w (.cells #[.int .i64 pp, .int .i64 ii, .slice co cn cc, .int .i64 jj, .slice fo fn fc] 56))
  rw [← hZ] at XZ
  have KZ : Hid (Wr w0.heap.size P w Z) := hid (Wr.of_below hB BZ.out)
  have PX : Hid (w.heap.size ≠ P) := hid (by omega)
  obtain ⟨l1, hl1⟩ : ∃ x, x = l ++ gap false ++ [111, 110] := ⟨_, rfl⟩
  have e1 : l1.length ≤ l.length + 2 := by rw [hl1]; simp [gap]
  obtain ⟨l2, hl2⟩ : ∃ x, x = l1 ++ numT [pp, ii, jj] 3 := ⟨_, rfl⟩
  have e2 : l2.length ≤ l.length + 68 := by rw [hl2]; simp [numT, catTo]; omega
  obtain ⟨l3, hl3⟩ : ∃ x, x = l2 ++ codeT gg cn := ⟨_, rfl⟩
  have e3 : l3.length ≤ l.length + 4700 := by rw [hl3]; rw [hcl] at cl; simp; omega
  have EE : Hid (l3 ++ [10] = l ++ trHead ⟨pp, ii, gg, jj, aa⟩) := hid (by rw [hl3, hl2, hl1]; simp [gap, trHead, numT, catTo, hcl])
  have C1 := hid (word_pen w0.heap.size P l [111, 110] false Z (h.below BZ.out) (by simp; omega) (Nat.le_trans hB KZ.out.size))
  have C2 := hid (fun (w1 : World) (k1 : Wr w0.heap.size P w w1) (h1 : PenAt w1 w0.heap.size P l1 true) => num3 w0.heap.size P l1 pp ii jj w1 (hT.below k1.bel) h1 (by omega) (Nat.le_trans hB k1.size) g1 g2 g3)
  have C3 := hid (fun (w1 : World) (k1 : Wr w0.heap.size P w w1) (h1 : PenAt w1 w0.heap.size P l2 true) => code_pen w0 P l2 co cn cc gg w1 g4 hs (hw.trans k1.bel) (hT.below k1.bel) h1 (by omega))
  have C4 := hid (fun (w1 : World) (k1 : Wr w0.heap.size P w w1) (h1 : PenAt w1 w0.heap.size P l3 true) => end_pen w0.heap.size P l3 true w1 h1 (by omega) (Nat.le_trans hB k1.size))
  rw [← hl1] at C1
  rw [← hl2] at C2
  rw [← hl3] at C3
  have C1' : Hid (Calls Tryz.prog 50 #[.pointer (some ⟨P, 0, none⟩), .string ⟨#[111, 110]⟩] (w.alloc (.cells #[.int .i64 pp, .int .i64 ii, .slice co cn cc, .int .i64 jj, .slice fo fn fc] 56)) fun e w' => e = .returned (.tuple #[]) ∧ PenAt w' w0.heap.size P l1 true ∧ Wr w0.heap.size P Z w') := hid (by rw [← hZ]; exact C1.out)
  clear hl1 hl2 hl3 e1 e2 e3 i1 i2 i3 cl hcl hZ C1 hT h hlen hs hw g1 g2 g3 g4 g5 hB hPl hBP
  go_enter Tryz.func55, Tryz.ntmps55
  go_wp2_with (first
    | (go_at_call 50; with_reducible refine C1'.out.mono ?_; rintro e w1 ⟨rfl, h1, k1⟩; have H1 := hid h1; have K1 := hid (KZ.out.trans k1); obtain ⟨x0, x1, x2, x3, x4⟩ := five_cc (k1.box XZ.out PX.out (by decide)); have X1 := hid (k1.box XZ.out PX.out (by decide)); clear h1 k1)
    | (go_at_call 51; with_reducible refine (C2.out w1 K1.out H1.out).mono ?_; rintro e w2 ⟨rfl, h2, k2⟩; have H2 := hid h2; have K2 := hid (K1.out.trans k2); obtain ⟨x0, x1, x2, x3, x4⟩ := five_cc (k2.box X1.out PX.out (by decide)); clear h2 k2)
    | (go_at_call 78; with_reducible refine (C3.out w2 K2.out H2.out).mono ?_; rintro e w3 ⟨rfl, h3, k3⟩; have H3 := hid h3; have K3 := hid (K2.out.trans k3); clear h3 k3)
    | (go_at_call 52; with_reducible refine (C4.out w3 K3.out H3.out).mono ?_; rintro e w4 ⟨rfl, h4, k4⟩; have H4 := hid h4; have K4 := hid (K3.out.trans k4); clear h4 k4))
  go_end0
  exact ⟨rfl, by have h := H4.out; rw [EE.out] at h; exact h, K4.out⟩
end Go.Proofs.YtkkiiffhfjkoaaaGreatDoor
