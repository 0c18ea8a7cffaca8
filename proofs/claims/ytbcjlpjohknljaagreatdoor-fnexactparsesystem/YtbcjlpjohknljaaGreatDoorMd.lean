import Derived.Test.YtbcjlpjohknljaaGreatDoorMc
namespace Go.Proofs.YtbcjlpjohknljaaGreatDoor
open Go.RowKit Go.Sort
set_option linter.unusedVariables false
set_option linter.unusedSimpArgs false
attribute [local go_sem ↓] Go.wp_at_zero Go.wp_at_succ

set_option maxRecDepth 100000 in
set_option maxHeartbeats 3200000 in
theorem heldState_flat (v : Value) (xs : List StG) (k : Int) (w : World) (B : Nat) (R : List Rw) (h0 : 0 ≤ k) (h1 : k + szL StG.z xs ≤ 1099511627776) (h : Flat w B (RowG 68 4 StG.cells StG.rows v (mkL StG.m StG.z k xs) ++ R)) :
    Calls Tryz.prog 36 #[v, .int .i64 k] w fun e w' => e = .returned (.int .i64 (k + szL StG.z xs)) ∧ w' = w := by
  obtain ⟨ao, c, hv, hle, _⟩ := row_read StG.cells 4 (fun _ => rfl) (h.own (⟨68, 4, v, (mkL StG.m StG.z k xs).length, (mkL StG.m StG.z k xs).flatMap StG.cells⟩ : Rw) (by simp [RowG]))
  rw [mkL_len] at hv hle
  subst hv
  have HF := hid h
  clear h
  go_enter Tryz.func36, Tryz.ntmps36
  go_wp2
  go_loopw [1, 5] (fun kv i wr => ∃ a : Nat, a ≤ xs.length ∧ i = .int .i64 a ∧ kv = .int .i64 (k + szL StG.z (xs.take a)) ∧ Hid (wr = w)) (fun _ i _ => xs.length - (intOf i).toNat)
  case atStart => exact ⟨0, Nat.zero_le _, rfl, by simp [szL], hid rfl⟩
  case round =>
    obtain ⟨a, ha, rfl, rfl, hw⟩ := hrel
    obtain rfl := hw.out.symm
    clear hw
    by_cases hlt : a < xs.length
    · have an : (a : Int) < (xs.length : Int) := by omega
      obtain ⟨x, hx⟩ : ∃ x, xs[a]? = some x := ⟨_, List.getElem?_eq_getElem hlt⟩
      obtain ⟨tk, dp⟩ := take_one hx
      have ZT := szL_take (z := StG.z) xs a
      rw [dp, szL] at ZT
      have HT := hid tk
      have SPL : xs = xs.take a ++ x :: xs.drop (a + 1) := by rw [← dp, List.take_append_drop]
      have MX : mkL StG.m StG.z k xs = mkL StG.m StG.z k (xs.take a) ++ StG.m x (k + szL StG.z (xs.take a)) :: mkL StG.m StG.z (k + szL StG.z (xs.take a) + StG.z x) (xs.drop (a + 1)) := (congrArg (mkL StG.m StG.z k) SPL).trans (mkL_app _ _ _)
      obtain ⟨kk, hkk⟩ : ∃ kk, kk = k + (szL StG.z (xs.take a) : Int) := ⟨_, rfl⟩
      rw [← hkk] at MX
      obtain ⟨p, hp⟩ : ∃ p, p = mkL StG.m StG.z k (xs.take a) := ⟨_, rfl⟩
      have pl : p.length = a := by rw [hp, mkL_len, List.length_take]; omega
      obtain ⟨q, hq⟩ : ∃ q, q = mkL StG.m StG.z (kk + StG.z x) (xs.drop (a + 1)) := ⟨_, rfl⟩
      rw [← hp, ← hq] at MX
      have LN : (p ++ StG.m x kk :: q).length = xs.length := by rw [← MX, mkL_len]
      have FH := HF.out
      rw [MX] at FH
      have F0 := FH.perm (rowg_mid _ _ _ _ _ p (StG.m x kk) q R)
      rw [LN] at F0
      obtain ⟨g, cap0, hv0, hc0, hm0, hg0, hgl0⟩ := row_has F0.head (by show 0 < xs.length; omega)
      simp only [Value.slice.injEq] at hv0
      obtain ⟨rfl, _, hcc⟩ := hv0
      subst hcc
      have KB : 0 ≤ kk ∧ kk + (StG.z x : Int) ≤ 1099511627776 := by omega
      have HK := hid hkk
      rw [← hkk]
      have PL := hid pl
      clear dp hkk hp hq LN tk ZT hx hgl0 hm0 hc0 MX SPL FH
      obtain ⟨x0, x1, ⟨v2, l2⟩, ⟨v3, l3⟩⟩ := x
      have ZZ : ((StG.z (StG.mk x0 x1 ⟨v2, l2⟩ ⟨v3, l3⟩) : Nat) : Int) = 2 + (szL SmG.z l2 : Int) + (szL SmG.z l3 : Int) := by simp [StG.z]; try omega
      rw [ZZ] at KB
      have k0 : 0 ≤ kk := KB.1
      have k1 : kk ≤ 1099511627776 := by omega
      obtain ⟨kk1, hkk1⟩ : ∃ z, z = kk + 1 := ⟨_, rfl⟩
      obtain ⟨kk2, hkk2⟩ : ∃ z, z = kk1 + 1 := ⟨_, rfl⟩
      obtain ⟨kk3, hkk3⟩ : ∃ z, z = kk2 + (szL SmG.z l2 : Int) := ⟨_, rfl⟩
      obtain ⟨kk4, hkk4⟩ : ∃ z, z = kk3 + (szL SmG.z l3 : Int) := ⟨_, rfl⟩
      have kp1 : 0 ≤ kk1 := by omega
      have kq1 : kk1 ≤ 1099511627776 := by omega
      have kp2 : 0 ≤ kk2 := by omega
      have kq2 : kk2 ≤ 1099511627776 := by omega
      have kp3 : 0 ≤ kk3 := by omega
      have kq3 : kk3 ≤ 1099511627776 := by omega
      have kp4 : 0 ≤ kk4 := by omega
      have kq4 : kk4 ≤ 1099511627776 := by omega
      have EM : StG.m (StG.mk x0 x1 ⟨v2, l2⟩ ⟨v3, l3⟩) kk = (StG.mk kk kk1 ⟨v2, mkL SmG.m SmG.z kk2 l2⟩ ⟨v3, mkL SmG.m SmG.z kk3 l3⟩) := by
        unfold StG.m
        subst hkk1 hkk2 hkk3 hkk4
        rfl
      rw [EM] at F0
      have FW : Hid (Flat w B ((⟨68, 4, .slice (some ⟨g, 0, none⟩) xs.length c, xs.length, (p ++ (StG.mk kk kk1 ⟨v2, mkL SmG.m SmG.z kk2 l2⟩ ⟨v3, mkL SmG.m SmG.z kk3 l3⟩) :: q).flatMap StG.cells⟩ : Rw) :: (StG.rows (StG.mk kk kk1 ⟨v2, mkL SmG.m SmG.z kk2 l2⟩ ⟨v3, mkL SmG.m SmG.z kk3 l3⟩) ++ (p.flatMap StG.rows ++ (q.flatMap StG.rows ++ R))))) := hid F0
      have HK1 := hid hkk1
      have HK2 := hid hkk2
      have HK3 := hid hkk3
      have HK4 := hid hkk4
      have KBH := hid KB
      clear F0 EM KB hkk1 hkk2 hkk3 hkk4
      obtain ⟨c0, z0, y0⟩ : w.cell? ⟨g, a * 4, none⟩ = some (.int .i64 kk) ∧ w.frozen? ⟨g, a * 4, none⟩ = false ∧ g < w.heap.size := by
        have h := el_cell (c := StG.cells) (sz := 4) (fun _ => rfl) FW.out a 0 PL.out (by decide)
        try simp only [Nat.add_zero, Nat.mul_one] at h
        exact h
      go_upto_region 7 with fail
      rw [← HK1.out]
      clear c0 z0 y0
      obtain ⟨c1, z1, y1⟩ : w.cell? ⟨g, a * 4 + 1, none⟩ = some (.int .i64 kk1) ∧ w.frozen? ⟨g, a * 4 + 1, none⟩ = false ∧ g < w.heap.size := by
        have h := el_cell (c := StG.cells) (sz := 4) (fun _ => rfl) FW.out a 1 PL.out (by decide)
        try simp only [Nat.add_zero, Nat.mul_one] at h
        exact h
      go_upto_region 10 with fail
      rw [← HK2.out]
      clear c1 z1 y1
      obtain ⟨c2, z2, y2⟩ : w.cell? ⟨g, a * 4 + 2, none⟩ = some v2 ∧ w.frozen? ⟨g, a * 4 + 2, none⟩ = false ∧ g < w.heap.size := by
        have h := el_cell (c := StG.cells) (sz := 4) (fun _ => rfl) FW.out a 2 PL.out (by decide)
        try simp only [Nat.add_zero, Nat.mul_one] at h
        exact h
      have FN : Flat w B (RowG 75 4 SmG.cells SmG.rows v2 (mkL SmG.m SmG.z kk2 l2) ++ ((⟨68, 4, .slice (some ⟨g, 0, none⟩) xs.length c, xs.length, (p ++ (StG.mk kk kk1 ⟨v2, mkL SmG.m SmG.z kk2 l2⟩ ⟨v3, mkL SmG.m SmG.z kk3 l3⟩) :: q).flatMap StG.cells⟩ : Rw) :: ((RowG 75 4 SmG.cells SmG.rows v3 (mkL SmG.m SmG.z kk3 l3) ++ []) ++ (p.flatMap StG.rows ++ (q.flatMap StG.rows ++ R))))) := FW.out.perm (by refine perm_count fun f g hf => ?_; simp only [RowG, List.flatMap_append, List.flatMap_cons, SmG.cells, StG.cells, TrG.cells, ObG.cells, SmG.rows, SmsG.rows, SmsG.row, StG.rows, StsG.rows, StsG.row, TrG.rows, TrsG.rows, TrsG.row, ObG.rows, InG.row, CdG.row, TmG.row, noR_flat, itC_fl, int_fl, List.cons_append, List.append_assoc, List.nil_append, List.append_nil, mkL_len, hf.c, hf.a, hf.z]; try omega)
      have CN := hid (heldStm_flat v2 l2 kk2 w B _ (by omega) (by have := HK3.out; omega) FN)
      rw [← HK3.out] at CN
      clear FN
      go_upto_region 13 with (go_at_call 65; with_reducible refine CN.out.mono ?_; rintro e W9 ⟨rfl, hw9⟩; obtain rfl := hw9.symm)
      clear CN c2 z2 y2
      obtain ⟨c3, z3, y3⟩ : w.cell? ⟨g, a * 4 + 3, none⟩ = some v3 ∧ w.frozen? ⟨g, a * 4 + 3, none⟩ = false ∧ g < w.heap.size := by
        have h := el_cell (c := StG.cells) (sz := 4) (fun _ => rfl) FW.out a 3 PL.out (by decide)
        try simp only [Nat.add_zero, Nat.mul_one] at h
        exact h
      have FN : Flat w B (RowG 75 4 SmG.cells SmG.rows v3 (mkL SmG.m SmG.z kk3 l3) ++ ((⟨68, 4, .slice (some ⟨g, 0, none⟩) xs.length c, xs.length, (p ++ (StG.mk kk kk1 ⟨v2, mkL SmG.m SmG.z kk2 l2⟩ ⟨v3, mkL SmG.m SmG.z kk3 l3⟩) :: q).flatMap StG.cells⟩ : Rw) :: ((RowG 75 4 SmG.cells SmG.rows v2 (mkL SmG.m SmG.z kk2 l2) ++ []) ++ (p.flatMap StG.rows ++ (q.flatMap StG.rows ++ R))))) := FW.out.perm (by refine perm_count fun f g hf => ?_; simp only [RowG, List.flatMap_append, List.flatMap_cons, SmG.cells, StG.cells, TrG.cells, ObG.cells, SmG.rows, SmsG.rows, SmsG.row, StG.rows, StsG.rows, StsG.row, TrG.rows, TrsG.rows, TrsG.row, ObG.rows, InG.row, CdG.row, TmG.row, noR_flat, itC_fl, int_fl, List.cons_append, List.append_assoc, List.nil_append, List.append_nil, mkL_len, hf.c, hf.a, hf.z]; try omega)
      have CN := hid (heldStm_flat v3 l3 kk3 w B _ (by omega) (by have := HK4.out; omega) FN)
      rw [← HK4.out] at CN
      clear FN
      go_upto_region 3 with (go_at_call 65; with_reducible refine CN.out.mono ?_; rintro e W9 ⟨rfl, hw9⟩; obtain rfl := hw9.symm)
      clear CN c3 z3 y3
      go_wp2
      go_roundw
      case rel =>
        have hk := HK.out
        have hk1 := HK1.out
        have hk2 := HK2.out
        have hk3 := HK3.out
        have hk4 := HK4.out
        refine ⟨a + 1, by omega, by go_num, ?_, hid (by first | rfl | trivial)⟩
        rw [HT.out, szL_app]
        have zz := ZZ
        simp only [szL, Nat.add_zero]
        congr 1
        omega
      case measure => simp [intOf]; omega
    · have ek : a = xs.length := by omega
      subst ek
      rw [List.take_length]
      go_wp2
      go_ret
      exact ⟨rfl, rfl⟩
end Go.Proofs.YtbcjlpjohknljaaGreatDoor
namespace Go.Proofs.YtbcjlpjohknljaaGreatDoor
open Go.RowKit Go.Sort
set_option linter.unusedVariables false
set_option linter.unusedSimpArgs false
attribute [local go_sem ↓] Go.wp_at_zero Go.wp_at_succ

set_option maxRecDepth 100000 in
set_option maxHeartbeats 3200000 in
theorem heldTrans_flat (v : Value) (xs : List TrG) (k : Int) (w : World) (B : Nat) (R : List Rw) (h0 : 0 ≤ k) (h1 : k + szL TrG.z xs ≤ 1099511627776) (h : Flat w B (RowG 73 5 TrG.cells TrG.rows v (mkL TrG.m TrG.z k xs) ++ R)) :
    Calls Tryz.prog 37 #[v, .int .i64 k] w fun e w' => e = .returned (.int .i64 (k + szL TrG.z xs)) ∧ w' = w := by
  obtain ⟨ao, c, hv, hle, _⟩ := row_read TrG.cells 5 (fun _ => rfl) (h.own (⟨73, 5, v, (mkL TrG.m TrG.z k xs).length, (mkL TrG.m TrG.z k xs).flatMap TrG.cells⟩ : Rw) (by simp [RowG]))
  rw [mkL_len] at hv hle
  subst hv
  have HF := hid h
  clear h
  go_enter Tryz.func37, Tryz.ntmps37
  go_wp2
  go_loopw [1, 5] (fun kv i wr => ∃ a : Nat, a ≤ xs.length ∧ i = .int .i64 a ∧ kv = .int .i64 (k + szL TrG.z (xs.take a)) ∧ Hid (wr = w)) (fun _ i _ => xs.length - (intOf i).toNat)
  case atStart => exact ⟨0, Nat.zero_le _, rfl, by simp [szL], hid rfl⟩
  case round =>
    obtain ⟨a, ha, rfl, rfl, hw⟩ := hrel
    obtain rfl := hw.out.symm
    clear hw
    by_cases hlt : a < xs.length
    · have an : (a : Int) < (xs.length : Int) := by omega
      obtain ⟨x, hx⟩ : ∃ x, xs[a]? = some x := ⟨_, List.getElem?_eq_getElem hlt⟩
      obtain ⟨tk, dp⟩ := take_one hx
      have ZT := szL_take (z := TrG.z) xs a
      rw [dp, szL] at ZT
      have HT := hid tk
      have SPL : xs = xs.take a ++ x :: xs.drop (a + 1) := by rw [← dp, List.take_append_drop]
      have MX : mkL TrG.m TrG.z k xs = mkL TrG.m TrG.z k (xs.take a) ++ TrG.m x (k + szL TrG.z (xs.take a)) :: mkL TrG.m TrG.z (k + szL TrG.z (xs.take a) + TrG.z x) (xs.drop (a + 1)) := (congrArg (mkL TrG.m TrG.z k) SPL).trans (mkL_app _ _ _)
      obtain ⟨kk, hkk⟩ : ∃ kk, kk = k + (szL TrG.z (xs.take a) : Int) := ⟨_, rfl⟩
      rw [← hkk] at MX
      obtain ⟨p, hp⟩ : ∃ p, p = mkL TrG.m TrG.z k (xs.take a) := ⟨_, rfl⟩
      have pl : p.length = a := by rw [hp, mkL_len, List.length_take]; omega
      obtain ⟨q, hq⟩ : ∃ q, q = mkL TrG.m TrG.z (kk + TrG.z x) (xs.drop (a + 1)) := ⟨_, rfl⟩
      rw [← hp, ← hq] at MX
      have LN : (p ++ TrG.m x kk :: q).length = xs.length := by rw [← MX, mkL_len]
      have FH := HF.out
      rw [MX] at FH
      have F0 := FH.perm (rowg_mid _ _ _ _ _ p (TrG.m x kk) q R)
      rw [LN] at F0
      obtain ⟨g, cap0, hv0, hc0, hm0, hg0, hgl0⟩ := row_has F0.head (by show 0 < xs.length; omega)
      simp only [Value.slice.injEq] at hv0
      obtain ⟨rfl, _, hcc⟩ := hv0
      subst hcc
      have KB : 0 ≤ kk ∧ kk + (TrG.z x : Int) ≤ 1099511627776 := by omega
      have HK := hid hkk
      rw [← hkk]
      have PL := hid pl
      clear dp hkk hp hq LN tk ZT hx hgl0 hm0 hc0 MX SPL FH
      obtain ⟨x0, x1, ⟨v2, l2⟩, x3, ⟨v4, l4⟩⟩ := x
      have ZZ : ((TrG.z (TrG.mk x0 x1 ⟨v2, l2⟩ x3 ⟨v4, l4⟩) : Nat) : Int) = 3 + (szL parZ l2 : Int) + (szL SmG.z l4 : Int) := by simp [TrG.z]; try omega
      rw [ZZ] at KB
      have k0 : 0 ≤ kk := KB.1
      have k1 : kk ≤ 1099511627776 := by omega
      obtain ⟨kk1, hkk1⟩ : ∃ z, z = kk + 1 := ⟨_, rfl⟩
      obtain ⟨kk2, hkk2⟩ : ∃ z, z = kk1 + 1 := ⟨_, rfl⟩
      obtain ⟨kk3, hkk3⟩ : ∃ z, z = kk2 + (szL parZ l2 : Int) := ⟨_, rfl⟩
      obtain ⟨kk4, hkk4⟩ : ∃ z, z = kk3 + 1 := ⟨_, rfl⟩
      obtain ⟨kk5, hkk5⟩ : ∃ z, z = kk4 + (szL SmG.z l4 : Int) := ⟨_, rfl⟩
      have kp1 : 0 ≤ kk1 := by omega
      have kq1 : kk1 ≤ 1099511627776 := by omega
      have kp2 : 0 ≤ kk2 := by omega
      have kq2 : kk2 ≤ 1099511627776 := by omega
      have kp3 : 0 ≤ kk3 := by omega
      have kq3 : kk3 ≤ 1099511627776 := by omega
      have kp4 : 0 ≤ kk4 := by omega
      have kq4 : kk4 ≤ 1099511627776 := by omega
      have kp5 : 0 ≤ kk5 := by omega
      have kq5 : kk5 ≤ 1099511627776 := by omega
      have EM : TrG.m (TrG.mk x0 x1 ⟨v2, l2⟩ x3 ⟨v4, l4⟩) kk = (TrG.mk kk kk1 ⟨v2, mkL parM parZ kk2 l2⟩ kk3 ⟨v4, mkL SmG.m SmG.z kk4 l4⟩) := by
        unfold TrG.m
        subst hkk1 hkk2 hkk3 hkk4 hkk5
        rfl
      rw [EM] at F0
      have FW : Hid (Flat w B ((⟨73, 5, .slice (some ⟨g, 0, none⟩) xs.length c, xs.length, (p ++ (TrG.mk kk kk1 ⟨v2, mkL parM parZ kk2 l2⟩ kk3 ⟨v4, mkL SmG.m SmG.z kk4 l4⟩) :: q).flatMap TrG.cells⟩ : Rw) :: (TrG.rows (TrG.mk kk kk1 ⟨v2, mkL parM parZ kk2 l2⟩ kk3 ⟨v4, mkL SmG.m SmG.z kk4 l4⟩) ++ (p.flatMap TrG.rows ++ (q.flatMap TrG.rows ++ R))))) := hid F0
      have HK1 := hid hkk1
      have HK2 := hid hkk2
      have HK3 := hid hkk3
      have HK4 := hid hkk4
      have HK5 := hid hkk5
      have KBH := hid KB
      clear F0 EM KB hkk1 hkk2 hkk3 hkk4 hkk5
      obtain ⟨c0, z0, y0⟩ : w.cell? ⟨g, a * 5, none⟩ = some (.int .i64 kk) ∧ w.frozen? ⟨g, a * 5, none⟩ = false ∧ g < w.heap.size := by
        have h := el_cell (c := TrG.cells) (sz := 5) (fun _ => rfl) FW.out a 0 PL.out (by decide)
        try simp only [Nat.add_zero, Nat.mul_one] at h
        exact h
      go_upto_region 7 with fail
      rw [← HK1.out]
      clear c0 z0 y0
      obtain ⟨c1, z1, y1⟩ : w.cell? ⟨g, a * 5 + 1, none⟩ = some (.int .i64 kk1) ∧ w.frozen? ⟨g, a * 5 + 1, none⟩ = false ∧ g < w.heap.size := by
        have h := el_cell (c := TrG.cells) (sz := 5) (fun _ => rfl) FW.out a 1 PL.out (by decide)
        try simp only [Nat.add_zero, Nat.mul_one] at h
        exact h
      go_upto_region 10 with fail
      rw [← HK2.out]
      clear c1 z1 y1
      obtain ⟨c2, z2, y2⟩ : w.cell? ⟨g, a * 5 + 2, none⟩ = some v2 ∧ w.frozen? ⟨g, a * 5 + 2, none⟩ = false ∧ g < w.heap.size := by
        have h := el_cell (c := TrG.cells) (sz := 5) (fun _ => rfl) FW.out a 2 PL.out (by decide)
        try simp only [Nat.add_zero, Nat.mul_one] at h
        exact h
      have FN : Flat w B (RowG 96 2 parC noR v2 (mkL parM parZ kk2 l2) ++ ((⟨73, 5, .slice (some ⟨g, 0, none⟩) xs.length c, xs.length, (p ++ (TrG.mk kk kk1 ⟨v2, mkL parM parZ kk2 l2⟩ kk3 ⟨v4, mkL SmG.m SmG.z kk4 l4⟩) :: q).flatMap TrG.cells⟩ : Rw) :: ((RowG 75 4 SmG.cells SmG.rows v4 (mkL SmG.m SmG.z kk4 l4) ++ []) ++ (p.flatMap TrG.rows ++ (q.flatMap TrG.rows ++ R))))) := FW.out.perm (by refine perm_count fun f g hf => ?_; simp only [RowG, List.flatMap_append, List.flatMap_cons, SmG.cells, StG.cells, TrG.cells, ObG.cells, SmG.rows, SmsG.rows, SmsG.row, StG.rows, StsG.rows, StsG.row, TrG.rows, TrsG.rows, TrsG.row, ObG.rows, InG.row, CdG.row, TmG.row, noR_flat, itC_fl, int_fl, List.cons_append, List.append_assoc, List.nil_append, List.append_nil, mkL_len, hf.c, hf.a, hf.z]; try omega)
      have CN := hid (heldItem_flat v2 l2 kk2 w B _ (by omega) (by have := HK3.out; omega) FN)
      rw [← HK3.out] at CN
      clear FN
      go_upto_region 13 with (go_at_call 66; with_reducible refine CN.out.mono ?_; rintro e W9 ⟨rfl, hw9⟩; obtain rfl := hw9.symm)
      clear CN c2 z2 y2
      obtain ⟨c3, z3, y3⟩ : w.cell? ⟨g, a * 5 + 3, none⟩ = some (.int .i64 kk3) ∧ w.frozen? ⟨g, a * 5 + 3, none⟩ = false ∧ g < w.heap.size := by
        have h := el_cell (c := TrG.cells) (sz := 5) (fun _ => rfl) FW.out a 3 PL.out (by decide)
        try simp only [Nat.add_zero, Nat.mul_one] at h
        exact h
      go_upto_region 16 with fail
      rw [← HK4.out]
      clear c3 z3 y3
      obtain ⟨c4, z4, y4⟩ : w.cell? ⟨g, a * 5 + 4, none⟩ = some v4 ∧ w.frozen? ⟨g, a * 5 + 4, none⟩ = false ∧ g < w.heap.size := by
        have h := el_cell (c := TrG.cells) (sz := 5) (fun _ => rfl) FW.out a 4 PL.out (by decide)
        try simp only [Nat.add_zero, Nat.mul_one] at h
        exact h
      have FN : Flat w B (RowG 75 4 SmG.cells SmG.rows v4 (mkL SmG.m SmG.z kk4 l4) ++ ((⟨73, 5, .slice (some ⟨g, 0, none⟩) xs.length c, xs.length, (p ++ (TrG.mk kk kk1 ⟨v2, mkL parM parZ kk2 l2⟩ kk3 ⟨v4, mkL SmG.m SmG.z kk4 l4⟩) :: q).flatMap TrG.cells⟩ : Rw) :: ((RowG 96 2 parC noR v2 (mkL parM parZ kk2 l2) ++ []) ++ (p.flatMap TrG.rows ++ (q.flatMap TrG.rows ++ R))))) := FW.out.perm (by refine perm_count fun f g hf => ?_; simp only [RowG, List.flatMap_append, List.flatMap_cons, SmG.cells, StG.cells, TrG.cells, ObG.cells, SmG.rows, SmsG.rows, SmsG.row, StG.rows, StsG.rows, StsG.row, TrG.rows, TrsG.rows, TrsG.row, ObG.rows, InG.row, CdG.row, TmG.row, noR_flat, itC_fl, int_fl, List.cons_append, List.append_assoc, List.nil_append, List.append_nil, mkL_len, hf.c, hf.a, hf.z]; try omega)
      have CN := hid (heldStm_flat v4 l4 kk4 w B _ (by omega) (by have := HK5.out; omega) FN)
      rw [← HK5.out] at CN
      clear FN
      go_upto_region 3 with (go_at_call 65; with_reducible refine CN.out.mono ?_; rintro e W9 ⟨rfl, hw9⟩; obtain rfl := hw9.symm)
      clear CN c4 z4 y4
      go_wp2
      go_roundw
      case rel =>
        have hk := HK.out
        have hk1 := HK1.out
        have hk2 := HK2.out
        have hk3 := HK3.out
        have hk4 := HK4.out
        have hk5 := HK5.out
        refine ⟨a + 1, by omega, by go_num, ?_, hid (by first | rfl | trivial)⟩
        rw [HT.out, szL_app]
        have zz := ZZ
        simp only [szL, Nat.add_zero]
        congr 1
        omega
      case measure => simp [intOf]; omega
    · have ek : a = xs.length := by omega
      subst ek
      rw [List.take_length]
      go_wp2
      go_ret
      exact ⟨rfl, rfl⟩
end Go.Proofs.YtbcjlpjohknljaaGreatDoor
