import Derived.Test.YtbcjlpjohknljaaGreatDoorMa
namespace Go.Proofs.YtbcjlpjohknljaaGreatDoor
open Go.RowKit Go.Sort
set_option linter.unusedVariables false
set_option linter.unusedSimpArgs false
attribute [local go_sem ↓] Go.wp_at_zero Go.wp_at_succ

set_option maxRecDepth 100000 in
set_option maxHeartbeats 3200000 in
theorem heldInt_flat (v : Value) (xs : List Int) (k : Int) (w : World) (B : Nat) (R : List Rw) (h0 : 0 ≤ k) (h1 : k + szL intZ xs ≤ 1099511627776) (h : Flat w B (RowG 3 1 intC noR v (mkL intM intZ k xs) ++ R)) :
    Calls Tryz.prog 35 #[v, .int .i64 k] w fun e w' => e = .returned (.int .i64 (k + szL intZ xs)) ∧ w' = w := by
  obtain ⟨ao, c, hv, hle, _⟩ := row_read intC 1 (fun _ => rfl) (h.own (⟨3, 1, v, (mkL intM intZ k xs).length, (mkL intM intZ k xs).flatMap intC⟩ : Rw) (by simp [RowG]))
  rw [mkL_len] at hv hle
  subst hv
  have HF := hid h
  clear h
  go_enter Tryz.func35, Tryz.ntmps35
  go_wp2
  go_loopw [1, 5] (fun kv i wr => ∃ a : Nat, a ≤ xs.length ∧ i = .int .i64 a ∧ kv = .int .i64 (k + szL intZ (xs.take a)) ∧ Hid (wr = w)) (fun _ i _ => xs.length - (intOf i).toNat)
  case atStart => exact ⟨0, Nat.zero_le _, rfl, by simp [szL], hid rfl⟩
  case round =>
    obtain ⟨a, ha, rfl, rfl, hw⟩ := hrel
    obtain rfl := hw.out.symm
    clear hw
    by_cases hlt : a < xs.length
    · have an : (a : Int) < (xs.length : Int) := by omega
      obtain ⟨x, hx⟩ : ∃ x, xs[a]? = some x := ⟨_, List.getElem?_eq_getElem hlt⟩
      obtain ⟨tk, dp⟩ := take_one hx
      have ZT := szL_take (z := intZ) xs a
      rw [dp, szL] at ZT
      have HT := hid tk
      have SPL : xs = xs.take a ++ x :: xs.drop (a + 1) := by rw [← dp, List.take_append_drop]
      have MX : mkL intM intZ k xs = mkL intM intZ k (xs.take a) ++ intM x (k + szL intZ (xs.take a)) :: mkL intM intZ (k + szL intZ (xs.take a) + intZ x) (xs.drop (a + 1)) := (congrArg (mkL intM intZ k) SPL).trans (mkL_app _ _ _)
      obtain ⟨kk, hkk⟩ : ∃ kk, kk = k + (szL intZ (xs.take a) : Int) := ⟨_, rfl⟩
      rw [← hkk] at MX
      obtain ⟨p, hp⟩ : ∃ p, p = mkL intM intZ k (xs.take a) := ⟨_, rfl⟩
      have pl : p.length = a := by rw [hp, mkL_len, List.length_take]; omega
      obtain ⟨q, hq⟩ : ∃ q, q = mkL intM intZ (kk + intZ x) (xs.drop (a + 1)) := ⟨_, rfl⟩
      rw [← hp, ← hq] at MX
      have LN : (p ++ intM x kk :: q).length = xs.length := by rw [← MX, mkL_len]
      have FH := HF.out
      rw [MX] at FH
      have F0 := FH.perm (rowg_mid _ _ _ _ _ p (intM x kk) q R)
      rw [LN] at F0
      obtain ⟨g, cap0, hv0, hc0, hm0, hg0, hgl0⟩ := row_has F0.head (by show 0 < xs.length; omega)
      simp only [Value.slice.injEq] at hv0
      obtain ⟨rfl, _, hcc⟩ := hv0
      subst hcc
      have KB : 0 ≤ kk ∧ kk + (intZ x : Int) ≤ 1099511627776 := by omega
      have HK := hid hkk
      rw [← hkk]
      have PL := hid pl
      clear dp hkk hp hq LN tk ZT hx hgl0 hm0 hc0 MX SPL FH
      obtain ⟨x0, hx0⟩ : ∃ x0, x0 = x := ⟨_, rfl⟩
      subst hx0
      have ZZ : ((intZ x0 : Nat) : Int) = 1 := by simp [intZ]; try omega
      rw [ZZ] at KB
      have k0 : 0 ≤ kk := KB.1
      have k1 : kk ≤ 1099511627776 := by omega
      obtain ⟨kk1, hkk1⟩ : ∃ z, z = kk + 1 := ⟨_, rfl⟩
      have kp1 : 0 ≤ kk1 := by omega
      have kq1 : kk1 ≤ 1099511627776 := by omega
      have EM : intM x0 kk = kk := by
        unfold intM
        subst hkk1
        rfl
      rw [EM] at F0
      have FW : Hid (Flat w B ((⟨3, 1, .slice (some ⟨g, 0, none⟩) xs.length c, xs.length, (p ++ kk :: q).flatMap intC⟩ : Rw) :: (noR kk ++ (p.flatMap noR ++ (q.flatMap noR ++ R))))) := hid F0
      have HK1 := hid hkk1
      have KBH := hid KB
      clear F0 EM KB hkk1
      obtain ⟨c0, z0, y0⟩ : w.cell? ⟨g, a, none⟩ = some (.int .i64 kk) ∧ w.frozen? ⟨g, a, none⟩ = false ∧ g < w.heap.size := by
        have h := el_cell (c := intC) (sz := 1) (fun _ => rfl) FW.out a 0 PL.out (by decide)
        try simp only [Nat.add_zero, Nat.mul_one] at h
        exact h
      go_wp2
      go_roundw
      case rel =>
        have hk := HK.out
        have hk1 := HK1.out
        refine ⟨a + 1, by omega, by go_num, ?_, hid (by first | rfl | trivial)⟩
        rw [HT.out, szL_app]
        have zz := ZZ
        simp only [szL, Nat.add_zero]
        congr 1
        omega
      case measure => simp [intOf]; omega
    · have ek : a = xs.length := by omega
      subst ek
      rw [List.take_length]
      go_wp2
      go_ret
      exact ⟨rfl, rfl⟩
end Go.Proofs.YtbcjlpjohknljaaGreatDoor
namespace Go.Proofs.YtbcjlpjohknljaaGreatDoor
open Go.RowKit Go.Sort
set_option linter.unusedVariables false
set_option linter.unusedSimpArgs false
attribute [local go_sem ↓] Go.wp_at_zero Go.wp_at_succ

set_option maxRecDepth 100000 in
set_option maxHeartbeats 3200000 in
theorem heldItem_flat (v : Value) (xs : List (Int × Int)) (k : Int) (w : World) (B : Nat) (R : List Rw) (h0 : 0 ≤ k) (h1 : k + szL parZ xs ≤ 1099511627776) (h : Flat w B (RowG 96 2 parC noR v (mkL parM parZ k xs) ++ R)) :
    Calls Tryz.prog 66 #[v, .int .i64 k] w fun e w' => e = .returned (.int .i64 (k + szL parZ xs)) ∧ w' = w := by
  obtain ⟨ao, c, hv, hle, _⟩ := row_read parC 2 (fun _ => rfl) (h.own (⟨96, 2, v, (mkL parM parZ k xs).length, (mkL parM parZ k xs).flatMap parC⟩ : Rw) (by simp [RowG]))
  rw [mkL_len] at hv hle
  subst hv
  have HF := hid h
  clear h
  go_enter Tryz.func66, Tryz.ntmps66
  go_wp2
  go_loopw [1, 5] (fun kv i wr => ∃ a : Nat, a ≤ xs.length ∧ i = .int .i64 a ∧ kv = .int .i64 (k + szL parZ (xs.take a)) ∧ Hid (wr = w)) (fun _ i _ => xs.length - (intOf i).toNat)
  case atStart => exact ⟨0, Nat.zero_le _, rfl, by simp [szL], hid rfl⟩
  case round =>
    obtain ⟨a, ha, rfl, rfl, hw⟩ := hrel
    obtain rfl := hw.out.symm
    clear hw
    by_cases hlt : a < xs.length
    · have an : (a : Int) < (xs.length : Int) := by omega
      obtain ⟨x, hx⟩ : ∃ x, xs[a]? = some x := ⟨_, List.getElem?_eq_getElem hlt⟩
      obtain ⟨tk, dp⟩ := take_one hx
      have ZT := szL_take (z := parZ) xs a
      rw [dp, szL] at ZT
      have HT := hid tk
      have SPL : xs = xs.take a ++ x :: xs.drop (a + 1) := by rw [← dp, List.take_append_drop]
      have MX : mkL parM parZ k xs = mkL parM parZ k (xs.take a) ++ parM x (k + szL parZ (xs.take a)) :: mkL parM parZ (k + szL parZ (xs.take a) + parZ x) (xs.drop (a + 1)) := (congrArg (mkL parM parZ k) SPL).trans (mkL_app _ _ _)
      obtain ⟨kk, hkk⟩ : ∃ kk, kk = k + (szL parZ (xs.take a) : Int) := ⟨_, rfl⟩
      rw [← hkk] at MX
      obtain ⟨p, hp⟩ : ∃ p, p = mkL parM parZ k (xs.take a) := ⟨_, rfl⟩
      have pl : p.length = a := by rw [hp, mkL_len, List.length_take]; omega
      obtain ⟨q, hq⟩ : ∃ q, q = mkL parM parZ (kk + parZ x) (xs.drop (a + 1)) := ⟨_, rfl⟩
      rw [← hp, ← hq] at MX
      have LN : (p ++ parM x kk :: q).length = xs.length := by rw [← MX, mkL_len]
      have FH := HF.out
      rw [MX] at FH
      have F0 := FH.perm (rowg_mid _ _ _ _ _ p (parM x kk) q R)
      rw [LN] at F0
      obtain ⟨g, cap0, hv0, hc0, hm0, hg0, hgl0⟩ := row_has F0.head (by show 0 < xs.length; omega)
      simp only [Value.slice.injEq] at hv0
      obtain ⟨rfl, _, hcc⟩ := hv0
      subst hcc
      have KB : 0 ≤ kk ∧ kk + (parZ x : Int) ≤ 1099511627776 := by omega
      have HK := hid hkk
      rw [← hkk]
      have PL := hid pl
      clear dp hkk hp hq LN tk ZT hx hgl0 hm0 hc0 MX SPL FH
      obtain ⟨x0, x1⟩ := x
      have ZZ : ((parZ (x0, x1) : Nat) : Int) = 2 := by simp [parZ]; try omega
      rw [ZZ] at KB
      have k0 : 0 ≤ kk := KB.1
      have k1 : kk ≤ 1099511627776 := by omega
      obtain ⟨kk1, hkk1⟩ : ∃ z, z = kk + 1 := ⟨_, rfl⟩
      obtain ⟨kk2, hkk2⟩ : ∃ z, z = kk1 + 1 := ⟨_, rfl⟩
      have kp1 : 0 ≤ kk1 := by omega
      have kq1 : kk1 ≤ 1099511627776 := by omega
      have kp2 : 0 ≤ kk2 := by omega
      have kq2 : kk2 ≤ 1099511627776 := by omega
      have EM : parM (x0, x1) kk = (kk, kk1) := by
        unfold parM
        subst hkk1 hkk2
        rfl
      rw [EM] at F0
      have FW : Hid (Flat w B ((⟨96, 2, .slice (some ⟨g, 0, none⟩) xs.length c, xs.length, (p ++ (kk, kk1) :: q).flatMap parC⟩ : Rw) :: (noR (kk, kk1) ++ (p.flatMap noR ++ (q.flatMap noR ++ R))))) := hid F0
      have HK1 := hid hkk1
      have HK2 := hid hkk2
      have KBH := hid KB
      clear F0 EM KB hkk1 hkk2
      obtain ⟨c0, z0, y0⟩ : w.cell? ⟨g, a * 2, none⟩ = some (.int .i64 kk) ∧ w.frozen? ⟨g, a * 2, none⟩ = false ∧ g < w.heap.size := by
        have h := el_cell (c := parC) (sz := 2) (fun _ => rfl) FW.out a 0 PL.out (by decide)
        try simp only [Nat.add_zero, Nat.mul_one] at h
        exact h
      go_upto_region 7 with fail
      rw [← HK1.out]
      clear c0 z0 y0
      obtain ⟨c1, z1, y1⟩ : w.cell? ⟨g, a * 2 + 1, none⟩ = some (.int .i64 kk1) ∧ w.frozen? ⟨g, a * 2 + 1, none⟩ = false ∧ g < w.heap.size := by
        have h := el_cell (c := parC) (sz := 2) (fun _ => rfl) FW.out a 1 PL.out (by decide)
        try simp only [Nat.add_zero, Nat.mul_one] at h
        exact h
      go_wp2
      go_roundw
      case rel =>
        have hk := HK.out
        have hk1 := HK1.out
        have hk2 := HK2.out
        refine ⟨a + 1, by omega, by go_num, ?_, hid (by first | rfl | trivial)⟩
        rw [HT.out, szL_app]
        have zz := ZZ
        simp only [szL, Nat.add_zero]
        congr 1
        omega
      case measure => simp [intOf]; omega
    · have ek : a = xs.length := by omega
      subst ek
      rw [List.take_length]
      go_wp2
      go_ret
      exact ⟨rfl, rfl⟩
set_option maxRecDepth 100000 in
set_option maxHeartbeats 3200000 in
theorem heldTimer_flat (v : Value) (xs : List (Int × Int)) (k : Int) (w : World) (B : Nat) (R : List Rw) (h0 : 0 ≤ k) (h1 : k + szL parZ xs ≤ 1099511627776) (h : Flat w B (RowG 59 2 parC noR v (mkL parM parZ k xs) ++ R)) :
    Calls Tryz.prog 18 #[v, .int .i64 k] w fun e w' => e = .returned (.int .i64 (k + szL parZ xs)) ∧ w' = w := by
  obtain ⟨ao, c, hv, hle, _⟩ := row_read parC 2 (fun _ => rfl) (h.own (⟨59, 2, v, (mkL parM parZ k xs).length, (mkL parM parZ k xs).flatMap parC⟩ : Rw) (by simp [RowG]))
  rw [mkL_len] at hv hle
  subst hv
  have HF := hid h
  clear h
  go_enter Tryz.func18, Tryz.ntmps18
  go_wp2
  go_loopw [1, 5] (fun kv i wr => ∃ a : Nat, a ≤ xs.length ∧ i = .int .i64 a ∧ kv = .int .i64 (k + szL parZ (xs.take a)) ∧ Hid (wr = w)) (fun _ i _ => xs.length - (intOf i).toNat)
  case atStart => exact ⟨0, Nat.zero_le _, rfl, by simp [szL], hid rfl⟩
  case round =>
    obtain ⟨a, ha, rfl, rfl, hw⟩ := hrel
    obtain rfl := hw.out.symm
    clear hw
    by_cases hlt : a < xs.length
    · have an : (a : Int) < (xs.length : Int) := by omega
      obtain ⟨x, hx⟩ : ∃ x, xs[a]? = some x := ⟨_, List.getElem?_eq_getElem hlt⟩
      obtain ⟨tk, dp⟩ := take_one hx
      have ZT := szL_take (z := parZ) xs a
      rw [dp, szL] at ZT
      have HT := hid tk
      have SPL : xs = xs.take a ++ x :: xs.drop (a + 1) := by rw [← dp, List.take_append_drop]
      have MX : mkL parM parZ k xs = mkL parM parZ k (xs.take a) ++ parM x (k + szL parZ (xs.take a)) :: mkL parM parZ (k + szL parZ (xs.take a) + parZ x) (xs.drop (a + 1)) := (congrArg (mkL parM parZ k) SPL).trans (mkL_app _ _ _)
      obtain ⟨kk, hkk⟩ : ∃ kk, kk = k + (szL parZ (xs.take a) : Int) := ⟨_, rfl⟩
      rw [← hkk] at MX
      obtain ⟨p, hp⟩ : ∃ p, p = mkL parM parZ k (xs.take a) := ⟨_, rfl⟩
      have pl : p.length = a := by rw [hp, mkL_len, List.length_take]; omega
      obtain ⟨q, hq⟩ : ∃ q, q = mkL parM parZ (kk + parZ x) (xs.drop (a + 1)) := ⟨_, rfl⟩
      rw [← hp, ← hq] at MX
      have LN : (p ++ parM x kk :: q).length = xs.length := by rw [← MX, mkL_len]
      have FH := HF.out
      rw [MX] at FH
      have F0 := FH.perm (rowg_mid _ _ _ _ _ p (parM x kk) q R)
      rw [LN] at F0
      obtain ⟨g, cap0, hv0, hc0, hm0, hg0, hgl0⟩ := row_has F0.head (by show 0 < xs.length; omega)
      simp only [Value.slice.injEq] at hv0
      obtain ⟨rfl, _, hcc⟩ := hv0
      subst hcc
      have KB : 0 ≤ kk ∧ kk + (parZ x : Int) ≤ 1099511627776 := by omega
      have HK := hid hkk
      rw [← hkk]
      have PL := hid pl
      clear dp hkk hp hq LN tk ZT hx hgl0 hm0 hc0 MX SPL FH
      obtain ⟨x0, x1⟩ := x
      have ZZ : ((parZ (x0, x1) : Nat) : Int) = 2 := by simp [parZ]; try omega
      rw [ZZ] at KB
      have k0 : 0 ≤ kk := KB.1
      have k1 : kk ≤ 1099511627776 := by omega
      obtain ⟨kk1, hkk1⟩ : ∃ z, z = kk + 1 := ⟨_, rfl⟩
      obtain ⟨kk2, hkk2⟩ : ∃ z, z = kk1 + 1 := ⟨_, rfl⟩
      have kp1 : 0 ≤ kk1 := by omega
      have kq1 : kk1 ≤ 1099511627776 := by omega
      have kp2 : 0 ≤ kk2 := by omega
      have kq2 : kk2 ≤ 1099511627776 := by omega
      have EM : parM (x0, x1) kk = (kk, kk1) := by
        unfold parM
        subst hkk1 hkk2
        rfl
      rw [EM] at F0
      have FW : Hid (Flat w B ((⟨59, 2, .slice (some ⟨g, 0, none⟩) xs.length c, xs.length, (p ++ (kk, kk1) :: q).flatMap parC⟩ : Rw) :: (noR (kk, kk1) ++ (p.flatMap noR ++ (q.flatMap noR ++ R))))) := hid F0
      have HK1 := hid hkk1
      have HK2 := hid hkk2
      have KBH := hid KB
      clear F0 EM KB hkk1 hkk2
      obtain ⟨c0, z0, y0⟩ : w.cell? ⟨g, a * 2, none⟩ = some (.int .i64 kk) ∧ w.frozen? ⟨g, a * 2, none⟩ = false ∧ g < w.heap.size := by
        have h := el_cell (c := parC) (sz := 2) (fun _ => rfl) FW.out a 0 PL.out (by decide)
        try simp only [Nat.add_zero, Nat.mul_one] at h
        exact h
      go_upto_region 7 with fail
      rw [← HK1.out]
      clear c0 z0 y0
      obtain ⟨c1, z1, y1⟩ : w.cell? ⟨g, a * 2 + 1, none⟩ = some (.int .i64 kk1) ∧ w.frozen? ⟨g, a * 2 + 1, none⟩ = false ∧ g < w.heap.size := by
        have h := el_cell (c := parC) (sz := 2) (fun _ => rfl) FW.out a 1 PL.out (by decide)
        try simp only [Nat.add_zero, Nat.mul_one] at h
        exact h
      go_wp2
      go_roundw
      case rel =>
        have hk := HK.out
        have hk1 := HK1.out
        have hk2 := HK2.out
        refine ⟨a + 1, by omega, by go_num, ?_, hid (by first | rfl | trivial)⟩
        rw [HT.out, szL_app]
        have zz := ZZ
        simp only [szL, Nat.add_zero]
        congr 1
        omega
      case measure => simp [intOf]; omega
    · have ek : a = xs.length := by omega
      subst ek
      rw [List.take_length]
      go_wp2
      go_ret
      exact ⟨rfl, rfl⟩
end Go.Proofs.YtbcjlpjohknljaaGreatDoor
namespace Go.Proofs.YtbcjlpjohknljaaGreatDoor
open Go.RowKit Go.Sort
set_option linter.unusedVariables false
set_option linter.unusedSimpArgs false
attribute [local go_sem ↓] Go.wp_at_zero Go.wp_at_succ

set_option maxRecDepth 100000 in
set_option maxHeartbeats 3200000 in
theorem heldStm_flat (v : Value) (xs : List SmG) (k : Int) (w : World) (B : Nat) (R : List Rw) (h0 : 0 ≤ k) (h1 : k + szL SmG.z xs ≤ 1099511627776) (h : Flat w B (RowG 75 4 SmG.cells SmG.rows v (mkL SmG.m SmG.z k xs) ++ R)) :
    Calls Tryz.prog 65 #[v, .int .i64 k] w fun e w' => e = .returned (.int .i64 (k + szL SmG.z xs)) ∧ w' = w := by
  obtain ⟨ao, c, hv, hle, _⟩ := row_read SmG.cells 4 (fun _ => rfl) (h.own (⟨75, 4, v, (mkL SmG.m SmG.z k xs).length, (mkL SmG.m SmG.z k xs).flatMap SmG.cells⟩ : Rw) (by simp [RowG]))
  rw [mkL_len] at hv hle
  subst hv
  have HF := hid h
  clear h
  go_enter Tryz.func65, Tryz.ntmps65
  go_wp2
  go_loopw [1, 5] (fun kv i wr => ∃ a : Nat, a ≤ xs.length ∧ i = .int .i64 a ∧ kv = .int .i64 (k + szL SmG.z (xs.take a)) ∧ Hid (wr = w)) (fun _ i _ => xs.length - (intOf i).toNat)
  case atStart => exact ⟨0, Nat.zero_le _, rfl, by simp [szL], hid rfl⟩
  case round =>
    obtain ⟨a, ha, rfl, rfl, hw⟩ := hrel
    obtain rfl := hw.out.symm
    clear hw
    by_cases hlt : a < xs.length
    · have an : (a : Int) < (xs.length : Int) := by omega
      obtain ⟨x, hx⟩ : ∃ x, xs[a]? = some x := ⟨_, List.getElem?_eq_getElem hlt⟩
      obtain ⟨tk, dp⟩ := take_one hx
      have ZT := szL_take (z := SmG.z) xs a
      rw [dp, szL] at ZT
      have HT := hid tk
      have SPL : xs = xs.take a ++ x :: xs.drop (a + 1) := by rw [← dp, List.take_append_drop]
      have MX : mkL SmG.m SmG.z k xs = mkL SmG.m SmG.z k (xs.take a) ++ SmG.m x (k + szL SmG.z (xs.take a)) :: mkL SmG.m SmG.z (k + szL SmG.z (xs.take a) + SmG.z x) (xs.drop (a + 1)) := (congrArg (mkL SmG.m SmG.z k) SPL).trans (mkL_app _ _ _)
      obtain ⟨kk, hkk⟩ : ∃ kk, kk = k + (szL SmG.z (xs.take a) : Int) := ⟨_, rfl⟩
      rw [← hkk] at MX
      obtain ⟨p, hp⟩ : ∃ p, p = mkL SmG.m SmG.z k (xs.take a) := ⟨_, rfl⟩
      have pl : p.length = a := by rw [hp, mkL_len, List.length_take]; omega
      obtain ⟨q, hq⟩ : ∃ q, q = mkL SmG.m SmG.z (kk + SmG.z x) (xs.drop (a + 1)) := ⟨_, rfl⟩
      rw [← hp, ← hq] at MX
      have LN : (p ++ SmG.m x kk :: q).length = xs.length := by rw [← MX, mkL_len]
      have FH := HF.out
      rw [MX] at FH
      have F0 := FH.perm (rowg_mid _ _ _ _ _ p (SmG.m x kk) q R)
      rw [LN] at F0
      obtain ⟨g, cap0, hv0, hc0, hm0, hg0, hgl0⟩ := row_has F0.head (by show 0 < xs.length; omega)
      simp only [Value.slice.injEq] at hv0
      obtain ⟨rfl, _, hcc⟩ := hv0
      subst hcc
      have KB : 0 ≤ kk ∧ kk + (SmG.z x : Int) ≤ 1099511627776 := by omega
      have HK := hid hkk
      rw [← hkk]
      have PL := hid pl
      clear dp hkk hp hq LN tk ZT hx hgl0 hm0 hc0 MX SPL FH
      obtain ⟨x0, x1, x2, ⟨v3, l3⟩⟩ := x
      have ZZ : ((SmG.z (SmG.mk x0 x1 x2 ⟨v3, l3⟩) : Nat) : Int) = 3 + (szL parZ l3 : Int) := by simp [SmG.z]; try omega
      rw [ZZ] at KB
      have k0 : 0 ≤ kk := KB.1
      have k1 : kk ≤ 1099511627776 := by omega
      obtain ⟨kk1, hkk1⟩ : ∃ z, z = kk + 1 := ⟨_, rfl⟩
      obtain ⟨kk2, hkk2⟩ : ∃ z, z = kk1 + 1 := ⟨_, rfl⟩
      obtain ⟨kk3, hkk3⟩ : ∃ z, z = kk2 + 1 := ⟨_, rfl⟩
      obtain ⟨kk4, hkk4⟩ : ∃ z, z = kk3 + (szL parZ l3 : Int) := ⟨_, rfl⟩
      have kp1 : 0 ≤ kk1 := by omega
      have kq1 : kk1 ≤ 1099511627776 := by omega
      have kp2 : 0 ≤ kk2 := by omega
      have kq2 : kk2 ≤ 1099511627776 := by omega
      have kp3 : 0 ≤ kk3 := by omega
      have kq3 : kk3 ≤ 1099511627776 := by omega
      have kp4 : 0 ≤ kk4 := by omega
      have kq4 : kk4 ≤ 1099511627776 := by omega
      have EM : SmG.m (SmG.mk x0 x1 x2 ⟨v3, l3⟩) kk = (SmG.mk kk kk1 kk2 ⟨v3, mkL parM parZ kk3 l3⟩) := by
        unfold SmG.m
        subst hkk1 hkk2 hkk3 hkk4
        rfl
      rw [EM] at F0
      have FW : Hid (Flat w B ((⟨75, 4, .slice (some ⟨g, 0, none⟩) xs.length c, xs.length, (p ++ (SmG.mk kk kk1 kk2 ⟨v3, mkL parM parZ kk3 l3⟩) :: q).flatMap SmG.cells⟩ : Rw) :: (SmG.rows (SmG.mk kk kk1 kk2 ⟨v3, mkL parM parZ kk3 l3⟩) ++ (p.flatMap SmG.rows ++ (q.flatMap SmG.rows ++ R))))) := hid F0
      have HK1 := hid hkk1
      have HK2 := hid hkk2
      have HK3 := hid hkk3
      have HK4 := hid hkk4
      have KBH := hid KB
      clear F0 EM KB hkk1 hkk2 hkk3 hkk4
      obtain ⟨c0, z0, y0⟩ : w.cell? ⟨g, a * 4, none⟩ = some (.int .i64 kk) ∧ w.frozen? ⟨g, a * 4, none⟩ = false ∧ g < w.heap.size := by
        have h := el_cell (c := SmG.cells) (sz := 4) (fun _ => rfl) FW.out a 0 PL.out (by decide)
        try simp only [Nat.add_zero, Nat.mul_one] at h
        exact h
      go_upto_region 7 with fail
      rw [← HK1.out]
      clear c0 z0 y0
      obtain ⟨c1, z1, y1⟩ : w.cell? ⟨g, a * 4 + 1, none⟩ = some (.int .i64 kk1) ∧ w.frozen? ⟨g, a * 4 + 1, none⟩ = false ∧ g < w.heap.size := by
        have h := el_cell (c := SmG.cells) (sz := 4) (fun _ => rfl) FW.out a 1 PL.out (by decide)
        try simp only [Nat.add_zero, Nat.mul_one] at h
        exact h
      go_upto_region 10 with fail
      rw [← HK2.out]
      clear c1 z1 y1
      obtain ⟨c2, z2, y2⟩ : w.cell? ⟨g, a * 4 + 2, none⟩ = some (.int .i64 kk2) ∧ w.frozen? ⟨g, a * 4 + 2, none⟩ = false ∧ g < w.heap.size := by
        have h := el_cell (c := SmG.cells) (sz := 4) (fun _ => rfl) FW.out a 2 PL.out (by decide)
        try simp only [Nat.add_zero, Nat.mul_one] at h
        exact h
      go_upto_region 13 with fail
      rw [← HK3.out]
      clear c2 z2 y2
      obtain ⟨c3, z3, y3⟩ : w.cell? ⟨g, a * 4 + 3, none⟩ = some v3 ∧ w.frozen? ⟨g, a * 4 + 3, none⟩ = false ∧ g < w.heap.size := by
        have h := el_cell (c := SmG.cells) (sz := 4) (fun _ => rfl) FW.out a 3 PL.out (by decide)
        try simp only [Nat.add_zero, Nat.mul_one] at h
        exact h
      have FN : Flat w B (RowG 96 2 parC noR v3 (mkL parM parZ kk3 l3) ++ ((⟨75, 4, .slice (some ⟨g, 0, none⟩) xs.length c, xs.length, (p ++ (SmG.mk kk kk1 kk2 ⟨v3, mkL parM parZ kk3 l3⟩) :: q).flatMap SmG.cells⟩ : Rw) :: (([] : List Rw) ++ (p.flatMap SmG.rows ++ (q.flatMap SmG.rows ++ R))))) := FW.out.perm (by refine perm_count fun f g hf => ?_; simp only [RowG, List.flatMap_append, List.flatMap_cons, SmG.cells, StG.cells, TrG.cells, ObG.cells, SmG.rows, SmsG.rows, SmsG.row, StG.rows, StsG.rows, StsG.row, TrG.rows, TrsG.rows, TrsG.row, ObG.rows, InG.row, CdG.row, TmG.row, noR_flat, itC_fl, int_fl, List.cons_append, List.append_assoc, List.nil_append, List.append_nil, mkL_len, hf.c, hf.a, hf.z]; try omega)
      have CN := hid (heldItem_flat v3 l3 kk3 w B _ (by omega) (by have := HK4.out; omega) FN)
      rw [← HK4.out] at CN
      clear FN
      go_upto_region 3 with (go_at_call 66; with_reducible refine CN.out.mono ?_; rintro e W9 ⟨rfl, hw9⟩; obtain rfl := hw9.symm)
      clear CN c3 z3 y3
      go_wp2
      go_roundw
      case rel =>
        have hk := HK.out
        have hk1 := HK1.out
        have hk2 := HK2.out
        have hk3 := HK3.out
        have hk4 := HK4.out
        refine ⟨a + 1, by omega, by go_num, ?_, hid (by first | rfl | trivial)⟩
        rw [HT.out, szL_app]
        have zz := ZZ
        simp only [szL, Nat.add_zero]
        congr 1
        omega
      case measure => simp [intOf]; omega
    · have ek : a = xs.length := by omega
      subst ek
      rw [List.take_length]
      go_wp2
      go_ret
      exact ⟨rfl, rfl⟩
end Go.Proofs.YtbcjlpjohknljaaGreatDoor
