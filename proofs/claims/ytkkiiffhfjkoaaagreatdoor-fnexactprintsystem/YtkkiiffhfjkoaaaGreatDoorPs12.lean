import Derived.Test.YtkkiiffhfjkoaaaGreatDoorPs11
namespace Go.Proofs.YtkkiiffhfjkoaaaGreatDoor
open Go.RowKit Go.Sort
set_option linter.unusedVariables false
attribute [local go_sem ↓] Go.wp_at_zero Go.wp_at_succ

theorem Wr.of {B P : Nat} {w w1 w2 : World} (h : Wr B P w w1) (hB : B ≤ w.heap.size) (k : Below w1.heap.size w1 w2) : Wr B P w w2 := h.trans (Wr.of_below (Nat.le_trans hB h.size) k)
set_option maxRecDepth 100000 in
set_option maxHeartbeats 4000000 in
theorem numbers_pen (B P : Nat) (l : List UInt8) (ns : List Int) (g c : Nat) (cs : Array Value) (w : World) (hT : Tabs w B) (h : PenAt w B P l true) (hlen : l.length ≤ 20000000000000) (hBw : B ≤ w.heap.size)
    (hg : w.heap[g]? = some (.cells cs 3 (0, 0))) (hcs : ∀ j, j < ns.length → cs[j]? = some (.int .i64 (ns.getD j 0))) (hgP : g ≠ P) (hn : ns.length ≤ 10) (hi : ∀ j, j < ns.length → I64 (ns.getD j 0)) :
    Calls Tryz.prog 51 #[.pointer (some ⟨P, 0, none⟩), .slice (some ⟨g, 0, none⟩) ns.length c] w fun e w' => e = .returned (.tuple #[]) ∧ PenAt w' B P (l ++ numT ns ns.length) true ∧ Wr B P w w' := by
  obtain ⟨n, hnn⟩ : ∃ n, n = ns.length := ⟨_, rfl⟩
  rw [← hnn] at hn hcs hi ⊢
  have NL : Hid (∀ k, k ≤ n → (numT ns k).length ≤ 220) := hid (fun k hk => numT_l (by omega) (by rw [← hnn]; exact hi) (by omega))
  have HT := hid hT
  have H := hid h
  have HB := hid hBw
  have HG := hid hg
  have HC := hid hcs
  have HI := hid hi
  clear hT h hBw hg hcs hi hnn
  go_enter Tryz.func51, Tryz.ntmps51
  go_wp2
  go_loopw [8] (fun i wr => ∃ (k : Nat), k ≤ n ∧ i = .int .i64 k ∧ PenAt wr B P (l ++ numT ns k) true ∧ Wr B P w wr) (fun i _ => n - (intOf i).toNat)
  case atStart => exact ⟨0, Nat.zero_le _, rfl, by simpa [numT, catTo] using H.out, Wr.refl _ _ _⟩
  case round =>
    obtain ⟨k, hk, rfl, hp, hw⟩ := hrel
    have HP := hid hp
    have HW := hid hw
    clear hp hw
    by_cases hlt : k < n
    · have blk := HW.out.fr g cs _ _ HG.out hgP (by decide)
      obtain ⟨z, hz⟩ : ∃ z, z = ns.getD k 0 := ⟨_, rfl⟩
      have c0 : wr.cell? ⟨g, k, none⟩ = some (.int .i64 z) := by rw [Lib.cell_of_heap blk, hz]; exact HC.out k hlt
      have gl := lt_of_block blk
      have hzi := HI.out k hlt
      rw [← hz] at hzi
      have C1 := hid (itoa_any z hzi wr (HT.out.below HW.out.bel).pow)
      have nl := NL.out k hk
      have il := itoa_l hzi
      have C2 := hid (fun (w1 : World) (hb : Below wr.heap.size wr w1) => word_pen B P (l ++ numT ns k) (Lib.itoa z) true w1 (HP.out.below hb) (by simp; omega) (Nat.le_trans HB.out (Nat.le_trans HW.out.size hb.size)))
      have EZ : Hid (numT ns (k + 1) = numT ns k ++ ([32] ++ Lib.itoa z)) := hid (by rw [hz]; rfl)
      have HLT := hid hlt
      clear blk hz hzi nl il
      go_wp2_with (first
        | (go_at_call 75; refine C1.out.mono ?_; rintro e w1 ⟨rfl, hb1⟩; have B1 := hid hb1; clear hb1)
        | (go_at_call 50; refine (C2.out w1 B1.out).mono ?_; rintro e w2 ⟨rfl, h2, k2⟩; have H2 := hid h2; have K2 := hid k2; clear h2 k2))
      go_roundw
      case rel => exact ⟨k + 1, by have := HLT.out; omega, by go_num, by rw [EZ.out]; simpa [gap] using H2.out, (HW.out.of HB.out B1.out).trans K2.out⟩
      case measure => have := HLT.out; simp [intOf]; omega
    · have e : k = n := by omega
      subst e
      go_wp2
      go_end0
      exact ⟨rfl, HP.out, HW.out⟩

set_option maxHeartbeats 4000000 in
theorem line_pen (B P : Nat) (l wd : List UInt8) (ns : List Int) (g c : Nat) (cs : Array Value) (w : World) (hT : Tabs w B) (h : PenAt w B P l false) (hlen : l.length ≤ 10000000000000) (hwd : wd.length ≤ 20) (hBw : B ≤ w.heap.size)
    (hg : w.heap[g]? = some (.cells cs 3 (0, 0))) (hcs : ∀ j, j < ns.length → cs[j]? = some (.int .i64 (ns.getD j 0))) (hgP : g ≠ P) (hn : ns.length ≤ 10) (hi : ∀ j, j < ns.length → I64 (ns.getD j 0)) :
    Calls Tryz.prog 33 #[.pointer (some ⟨P, 0, none⟩), .string ⟨wd.toArray⟩, .slice (some ⟨g, 0, none⟩) ns.length c] w fun e w' => e = .returned (.tuple #[]) ∧ PenAt w' B P (l ++ lineT wd ns) false ∧ Wr B P w w' := by
  have nl := numT_l hn hi (Nat.le_refl _)
  have C1 := hid (word_pen B P l wd false w h (by omega) hBw)
  have C2 := hid (fun (w1 : World) (k1 : Wr B P w w1) (h1 : PenAt w1 B P (l ++ gap false ++ wd) true) => numbers_pen B P (l ++ gap false ++ wd) ns g c cs w1 (hT.below k1.bel) h1 (by simp [gap]; omega) (Nat.le_trans hBw k1.size) (k1.fr g cs _ _ hg hgP (by decide)) hcs hgP hn hi)
  have C3 := hid (fun (w1 : World) (k1 : Wr B P w w1) (h1 : PenAt w1 B P (l ++ gap false ++ wd ++ numT ns ns.length) true) => end_pen B P _ true w1 h1 (by simp [gap]; omega) (Nat.le_trans hBw k1.size))
  clear hT h hlen hwd hBw hg hcs hn hi nl
  go_enter Tryz.func33, Tryz.ntmps33
  go_wp2_with (first
    | (go_at_call 50; refine C1.out.mono ?_; rintro e w1 ⟨rfl, h1, k1⟩; have H1 := hid h1; have K1 := hid k1; clear h1 k1)
    | (go_at_call 51; refine (C2.out w1 K1.out H1.out).mono ?_; rintro e w2 ⟨rfl, h2, k2⟩; have H2 := hid h2; have K2 := hid (K1.out.trans k2); clear h2 k2)
    | (go_at_call 52; refine (C3.out w2 K2.out H2.out).mono ?_; rintro e w3 ⟨rfl, h3, k3⟩; have H3 := hid h3; have K3 := hid (K2.out.trans k3); clear h3 k3))
  go_end0
  exact ⟨rfl, by simpa [gap, lineT] using H3.out, K3.out⟩

set_option maxRecDepth 100000 in
set_option maxHeartbeats 4000000 in
theorem code_pen (w0 : World) (P : Nat) (l : List UInt8) (ao : Option Addr) (n c : Nat) (its : List (Int × Int)) (w : World) (hok : CodeOK its) (hs : ItemsOf w0 ao n its) (hw : Below w0.heap.size w0 w) (hT : Tabs w w0.heap.size) (h : PenAt w w0.heap.size P l true) (hlen : l.length ≤ 20000000000000) :
    Calls Tryz.prog 78 #[.pointer (some ⟨P, 0, none⟩), .slice ao n c] w fun e w' => e = .returned (.tuple #[]) ∧ PenAt w' w0.heap.size P (l ++ codeT its n) true ∧ Wr w0.heap.size P w w' := by
  have HL := hid hs.1
  have hn : n ≤ 200 := by rw [← hs.1]; exact hok.1
  have HS := hid hs
  have HO := hid hok
  have HT := hid hT
  have H := hid h
  have HW0 := hid hw
  have HB : Hid (w0.heap.size ≤ w.heap.size) := hid hw.size
  clear hT h hw hok hs
  go_enter Tryz.func78, Tryz.ntmps78
  go_wp2
  go_loopw [8] (fun i wr => ∃ (k : Nat), k ≤ n ∧ i = .int .i64 k ∧ PenAt wr w0.heap.size P (l ++ codeT its k) true ∧ Wr w0.heap.size P w wr) (fun i _ => n - (intOf i).toNat)
  case atStart => exact ⟨0, Nat.zero_le _, rfl, by simpa [codeT, catTo] using H.out, Wr.refl _ _ _⟩
  case round =>
    obtain ⟨k, hk, rfl, hp, hw⟩ := hrel
    have HP := hid hp
    have HW := hid hw
    clear hp hw
    by_cases hlt : k < n
    · obtain ⟨b, off, rfl, hbl, hc⟩ := HS.out.2 (by omega)
      obtain ⟨op, hop⟩ : ∃ z, z = (its.getD k (0, 0)).1 := ⟨_, rfl⟩
      obtain ⟨v, hv⟩ : ∃ z, z = (its.getD k (0, 0)).2 := ⟨_, rfl⟩
      have hok := HO.out.2 k (by rw [HL.out]; exact hlt)
      have BR : Hid (Below w0.heap.size w0 wr) := hid (HW0.out.trans HW.out.bel)
      have c0 := (BR.out.cell (p := ⟨b, off + k * 2, none⟩) hbl).trans (hc k hlt).1
      have c1 := (BR.out.cell (p := ⟨b, off + k * 2 + 1, none⟩) hbl).trans (hc k hlt).2
      have hT := codeT_l HO.out (n := k) (by rw [HL.out]; exact hk)
      have ES : Hid (codeT its (k + 1) = codeT its k ++ ([32] ++ wordT op v)) := hid (by rw [hop, hv]; rfl)
      rw [← hop] at c0
      rw [← hv] at c1
      rw [← hop, ← hv] at hok
      have hWl := wordT_l hok
      have hbl' : b < wr.heap.size := Nat.lt_of_lt_of_le hbl BR.out.size
      have BX := below1 wr (.cells #[.int .i64 op, .int .i64 v] 87)
      have TX := (HT.out.below HW.out.bel).below (BX.mono (Nat.le_trans HB.out HW.out.size))
      have C1 := hid (wordOf_any op v hok (wr.alloc (.cells #[.int .i64 op, .int .i64 v] 87)) TX.pow TX.it' (fun w' hb' => pow_below TX.pow hb' (by have := TX.lt; have := Nat.le_trans HB.out HW.out.size; simp; omega)))
      have C2 := hid (fun (w1 : World) (hb : Below wr.heap.size wr w1) => word_pen w0.heap.size P (l ++ codeT its k) (wordT op v) true w1 (HP.out.below hb) (by simp; omega) (Nat.le_trans HB.out (Nat.le_trans HW.out.size hb.size)))
      have BXX := hid BX
      have HLT := hid hlt
      clear hc hop hv hok hT hWl BX TX
      go_wp2_with (first
        | (go_at_call 76; refine C1.out.mono ?_; rintro e w1 ⟨rfl, hb1⟩; have B1 := hid (BXX.out.trans (hb1.mono BXX.out.size)); clear hb1)
        | (go_at_call 50; refine (C2.out w1 B1.out).mono ?_; rintro e w2 ⟨rfl, h2, k2⟩; have H2 := hid h2; have K2 := hid k2; clear h2 k2))
      go_roundw
      case rel => exact ⟨k + 1, by have := HLT.out; omega, by go_num, by rw [ES.out]; simpa [gap] using H2.out, (HW.out.of HB.out B1.out).trans K2.out⟩
      case measure => have := HLT.out; simp [intOf]; omega
    · have e : k = n := by omega
      subst e
      go_wp2
      go_end0
      exact ⟨rfl, HP.out, HW.out⟩
end Go.Proofs.YtkkiiffhfjkoaaaGreatDoor
