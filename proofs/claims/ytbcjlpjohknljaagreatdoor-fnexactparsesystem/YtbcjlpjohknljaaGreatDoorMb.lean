import Derived.Test.YtbcjlpjohknljaaGreatDoorMa
namespace Go.Proofs.YtbcjlpjohknljaaGreatDoor
open Go.RowKit Go.Sort
set_option linter.unusedVariables false
set_option linter.unusedSimpArgs false
attribute [local go_sem ↓] Go.wp_at_zero Go.wp_at_succ

set_option maxRecDepth 100000 in
set_option maxHeartbeats 3200000 in
theorem markStm_flat (v : Value) (xs : List SmG) (k : Int) (w : World) (B : Nat) (R : List Rw) (hB : B ≤ w.heap.size) (h0 : 0 ≤ k) (h1 : k + szL SmG.z xs ≤ 1099511627776) (h : Flat w B (RowG 75 4 SmG.cells SmG.rows v xs ++ R)) :
    Calls Tryz.prog 63 #[v, .int .i64 k] w fun e w' => e = .returned (.int .i64 (k + szL SmG.z xs)) ∧ Flat w' B (RowG 75 4 SmG.cells SmG.rows v (mkL SmG.m SmG.z k xs) ++ R) ∧ Below B w w' := by
  obtain ⟨ao, c, hv, _⟩ := row_read SmG.cells 4 (fun _ => rfl) (h.own (⟨75, 4, v, xs.length, xs.flatMap SmG.cells⟩ : Rw) (by simp [RowG]))
  subst hv
  have HF := hid h
  clear h
  go_enter Tryz.func63, Tryz.ntmps63
  go_wp2
  go_loopw [1, 5] (fun kv i wr => ∃ a : Nat, a ≤ xs.length ∧ i = .int .i64 a ∧ kv = .int .i64 (k + szL SmG.z (xs.take a)) ∧ Hid (Flat wr B (RowG 75 4 SmG.cells SmG.rows (.slice ao xs.length c) (mkL SmG.m SmG.z k (xs.take a) ++ xs.drop a) ++ R)) ∧ Hid (Below B w wr)) (fun _ i _ => xs.length - (intOf i).toNat)
  case atStart => exact ⟨0, Nat.zero_le _, rfl, by simp [szL], hid (by simpa [mkL] using HF.out), hid (Below.refl _ _)⟩
  case round =>
    obtain ⟨a, ha, rfl, rfl, HW, HB⟩ := hrel
    by_cases hlt : a < xs.length
    · have an : (a : Int) < (xs.length : Int) := by omega
      obtain ⟨x, hx⟩ : ∃ x, xs[a]? = some x := ⟨_, List.getElem?_eq_getElem hlt⟩
      obtain ⟨tk, dp⟩ := take_one hx
      have ZT := szL_take (z := SmG.z) xs a
      rw [dp, szL] at ZT
      have HT := hid tk
      obtain ⟨p, hp⟩ : ∃ p, p = mkL SmG.m SmG.z k (xs.take a) := ⟨_, rfl⟩
      have pl : p.length = a := by rw [hp, mkL_len, List.length_take]; omega
      obtain ⟨q, hq⟩ : ∃ q, q = xs.drop (a + 1) := ⟨_, rfl⟩
      have LN : (p ++ x :: q).length = xs.length := by rw [hq, List.length_append, List.length_cons, List.length_drop, pl]; omega
      rw [dp, ← hp, ← hq] at HW
      have F0 := HW.out.perm (rowg_mid _ _ _ _ _ p x q R)
      rw [LN] at F0
      obtain ⟨g, cap0, hv0, hc0, hm0, hg0, hgl0⟩ := row_has F0.head (by show 0 < xs.length; omega)
      simp only [Value.slice.injEq] at hv0
      obtain ⟨rfl, _, hcc⟩ := hv0
      subst hcc
      obtain ⟨kk, hkk⟩ : ∃ kk, kk = k + (szL SmG.z (xs.take a) : Int) := ⟨_, rfl⟩
      have KB : 0 ≤ kk ∧ kk + (SmG.z x : Int) ≤ 1099511627776 := by omega
      have HK := hid hkk
      rw [← hkk]
      have PL := hid pl
      have HP := hid hp
      have HQ := hid hq
      have HBG := hid hg0
      have BW := HB
      have ZTH := hid ZT
      clear HW dp hkk hp hq LN tk ZT hx hgl0 hm0 hc0
      obtain ⟨x0, x1, x2, ⟨v3, l3⟩⟩ := x
      have FW : Hid (Flat wr B ((⟨75, 4, .slice (some ⟨g, 0, none⟩) xs.length c, xs.length, (p ++ (SmG.mk x0 x1 x2 ⟨v3, l3⟩) :: q).flatMap SmG.cells⟩ : Rw) :: (SmG.rows (SmG.mk x0 x1 x2 ⟨v3, l3⟩) ++ (p.flatMap SmG.rows ++ (q.flatMap SmG.rows ++ R))))) := hid F0
      have ZZ : ((SmG.z (SmG.mk x0 x1 x2 ⟨v3, l3⟩) : Nat) : Int) = 3 + (szL parZ l3 : Int) := by simp [SmG.z]; try omega
      rw [ZZ] at KB
      have k0 : 0 ≤ kk := KB.1
      have k1 : kk ≤ 1099511627776 := by omega
      have KBH := hid KB
      clear F0 KB
      obtain ⟨c0, z0, y0⟩ : wr.cell? ⟨g, a * 4, none⟩ = some (.int .i64 x0) ∧ wr.frozen? ⟨g, a * 4, none⟩ = false ∧ g < wr.heap.size := by
        have h := el_cell (c := SmG.cells) (sz := 4) (fun _ => rfl) FW.out a 0 PL.out (by decide)
        try simp only [Nat.add_zero, Nat.mul_one] at h
        exact h
      have F1 : Hid (Flat (wr.setCell ⟨g, a * 4, none⟩ (.int .i64 kk)) B ((⟨75, 4, .slice (some ⟨g, 0, none⟩) xs.length c, xs.length, (p ++ (SmG.mk kk x1 x2 ⟨v3, l3⟩) :: q).flatMap SmG.cells⟩ : Rw) :: (SmG.rows (SmG.mk kk x1 x2 ⟨v3, l3⟩) ++ (p.flatMap SmG.rows ++ (q.flatMap SmG.rows ++ R))))) := hid (by
        have h := el_set (c := SmG.cells) (sz := 4) (fun _ => rfl) FW.out a 0 (.int .i64 kk) (SmG.mk kk x1 x2 ⟨v3, l3⟩) PL.out (by decide) rfl
        try simp only [Nat.add_zero, Nat.mul_one] at h
        exact h)
      have BW2 := hid (BW.out.setCell (p := ⟨g, a * 4, none⟩) HBG.out (.int .i64 kk))
      go_upto_region 6 with fail
      obtain ⟨W1, hW⟩ : ∃ W, W = wr.setCell ⟨g, a * 4, none⟩ (.int .i64 kk) := ⟨_, rfl⟩
      rw [← hW] at F1 BW2 ⊢
      obtain ⟨kk1, hkk1⟩ : ∃ z, z = kk + 1 := ⟨_, rfl⟩
      rw [← hkk1]
      have HK1 := hid hkk1
      have kp1 : 0 ≤ kk1 := by omega
      have kq1 : kk1 ≤ 1099511627776 := by have := KBH.out; omega
      clear hW hkk1 FW BW c0 z0 y0
      have FW := F1
      have BW := BW2
      clear F1 BW2
      obtain ⟨c1, z1, y1⟩ : W1.cell? ⟨g, a * 4 + 1, none⟩ = some (.int .i64 x1) ∧ W1.frozen? ⟨g, a * 4 + 1, none⟩ = false ∧ g < W1.heap.size := by
        have h := el_cell (c := SmG.cells) (sz := 4) (fun _ => rfl) FW.out a 1 PL.out (by decide)
        try simp only [Nat.add_zero, Nat.mul_one] at h
        exact h
      have F1 : Hid (Flat (W1.setCell ⟨g, a * 4 + 1, none⟩ (.int .i64 kk1)) B ((⟨75, 4, .slice (some ⟨g, 0, none⟩) xs.length c, xs.length, (p ++ (SmG.mk kk kk1 x2 ⟨v3, l3⟩) :: q).flatMap SmG.cells⟩ : Rw) :: (SmG.rows (SmG.mk kk kk1 x2 ⟨v3, l3⟩) ++ (p.flatMap SmG.rows ++ (q.flatMap SmG.rows ++ R))))) := hid (by
        have h := el_set (c := SmG.cells) (sz := 4) (fun _ => rfl) FW.out a 1 (.int .i64 kk1) (SmG.mk kk kk1 x2 ⟨v3, l3⟩) PL.out (by decide) rfl
        try simp only [Nat.add_zero, Nat.mul_one] at h
        exact h)
      have BW2 := hid (BW.out.setCell (p := ⟨g, a * 4 + 1, none⟩) HBG.out (.int .i64 kk1))
      go_upto_region 8 with fail
      obtain ⟨W2, hW⟩ : ∃ W, W = W1.setCell ⟨g, a * 4 + 1, none⟩ (.int .i64 kk1) := ⟨_, rfl⟩
      rw [← hW] at F1 BW2 ⊢
      obtain ⟨kk2, hkk2⟩ : ∃ z, z = kk1 + 1 := ⟨_, rfl⟩
      rw [← hkk2]
      have HK2 := hid hkk2
      have kp2 : 0 ≤ kk2 := by omega
      have kq2 : kk2 ≤ 1099511627776 := by have := KBH.out; have := HK1.out; omega
      clear hW hkk2 FW BW c1 z1 y1
      have FW := F1
      have BW := BW2
      clear F1 BW2
      obtain ⟨c2, z2, y2⟩ : W2.cell? ⟨g, a * 4 + 2, none⟩ = some (.int .i64 x2) ∧ W2.frozen? ⟨g, a * 4 + 2, none⟩ = false ∧ g < W2.heap.size := by
        have h := el_cell (c := SmG.cells) (sz := 4) (fun _ => rfl) FW.out a 2 PL.out (by decide)
        try simp only [Nat.add_zero, Nat.mul_one] at h
        exact h
      have F1 : Hid (Flat (W2.setCell ⟨g, a * 4 + 2, none⟩ (.int .i64 kk2)) B ((⟨75, 4, .slice (some ⟨g, 0, none⟩) xs.length c, xs.length, (p ++ (SmG.mk kk kk1 kk2 ⟨v3, l3⟩) :: q).flatMap SmG.cells⟩ : Rw) :: (SmG.rows (SmG.mk kk kk1 kk2 ⟨v3, l3⟩) ++ (p.flatMap SmG.rows ++ (q.flatMap SmG.rows ++ R))))) := hid (by
        have h := el_set (c := SmG.cells) (sz := 4) (fun _ => rfl) FW.out a 2 (.int .i64 kk2) (SmG.mk kk kk1 kk2 ⟨v3, l3⟩) PL.out (by decide) rfl
        try simp only [Nat.add_zero, Nat.mul_one] at h
        exact h)
      have BW2 := hid (BW.out.setCell (p := ⟨g, a * 4 + 2, none⟩) HBG.out (.int .i64 kk2))
      go_upto_region 10 with fail
      obtain ⟨W3, hW⟩ : ∃ W, W = W2.setCell ⟨g, a * 4 + 2, none⟩ (.int .i64 kk2) := ⟨_, rfl⟩
      rw [← hW] at F1 BW2 ⊢
      obtain ⟨kk3, hkk3⟩ : ∃ z, z = kk2 + 1 := ⟨_, rfl⟩
      rw [← hkk3]
      have HK3 := hid hkk3
      have kp3 : 0 ≤ kk3 := by omega
      have kq3 : kk3 ≤ 1099511627776 := by have := KBH.out; have := HK1.out; have := HK2.out; omega
      clear hW hkk3 FW BW c2 z2 y2
      have FW := F1
      have BW := BW2
      clear F1 BW2
      obtain ⟨c3, z3, y3⟩ : W3.cell? ⟨g, a * 4 + 3, none⟩ = some v3 ∧ W3.frozen? ⟨g, a * 4 + 3, none⟩ = false ∧ g < W3.heap.size := by
        have h := el_cell (c := SmG.cells) (sz := 4) (fun _ => rfl) FW.out a 3 PL.out (by decide)
        try simp only [Nat.add_zero, Nat.mul_one] at h
        exact h
      have FN : Flat W3 B (RowG 96 2 parC noR v3 l3 ++ ((⟨75, 4, .slice (some ⟨g, 0, none⟩) xs.length c, xs.length, (p ++ (SmG.mk kk kk1 kk2 ⟨v3, l3⟩) :: q).flatMap SmG.cells⟩ : Rw) :: (([] : List Rw) ++ (p.flatMap SmG.rows ++ (q.flatMap SmG.rows ++ R))))) := FW.out.perm (by refine perm_count fun f g hf => ?_; simp only [RowG, List.flatMap_append, List.flatMap_cons, SmG.cells, StG.cells, TrG.cells, ObG.cells, SmG.rows, SmsG.rows, SmsG.row, StG.rows, StsG.rows, StsG.row, TrG.rows, TrsG.rows, TrsG.row, ObG.rows, InG.row, CdG.row, TmG.row, noR_flat, itC_fl, int_fl, List.cons_append, List.append_assoc, List.nil_append, List.append_nil, mkL_len, hf.c, hf.a, hf.z]; try omega)
      have CN := hid (markItem_flat v3 l3 kk3 W3 B _ (Nat.le_trans hB BW.out.size) (by omega) (by have := KBH.out; have := HK1.out; have := HK2.out; have := HK3.out; omega) FN)
      clear FN
      go_upto_region 3 with (go_at_call 64; with_reducible refine CN.out.mono ?_; rintro e W4 ⟨rfl, hf, hb⟩; have FX := hid hf; have BX := hid hb; clear hf hb)
      have F1 : Hid (Flat W4 B ((⟨75, 4, .slice (some ⟨g, 0, none⟩) xs.length c, xs.length, (p ++ (SmG.mk kk kk1 kk2 ⟨v3, mkL parM parZ kk3 l3⟩) :: q).flatMap SmG.cells⟩ : Rw) :: (SmG.rows (SmG.mk kk kk1 kk2 ⟨v3, mkL parM parZ kk3 l3⟩) ++ (p.flatMap SmG.rows ++ (q.flatMap SmG.rows ++ R))))) := hid (FX.out.perm (by refine perm_count fun f g hf => ?_; simp only [RowG, List.flatMap_append, List.flatMap_cons, SmG.cells, StG.cells, TrG.cells, ObG.cells, SmG.rows, SmsG.rows, SmsG.row, StG.rows, StsG.rows, StsG.row, TrG.rows, TrsG.rows, TrsG.row, ObG.rows, InG.row, CdG.row, TmG.row, noR_flat, itC_fl, int_fl, List.cons_append, List.append_assoc, List.nil_append, List.append_nil, mkL_len, hf.c, hf.a, hf.z]; try omega))
      have BW2 := hid (BW.out.trans BX.out)
      obtain ⟨kk4, hkk4⟩ : ∃ z, z = kk3 + (szL parZ l3 : Int) := ⟨_, rfl⟩
      rw [← hkk4]
      have HK4 := hid hkk4
      have kp4 : 0 ≤ kk4 := by omega
      have kq4 : kk4 ≤ 1099511627776 := by have := KBH.out; have := HK1.out; have := HK2.out; have := HK3.out; omega
      clear hkk4 FW BW FX BX CN c3 z3 y3
      have FW := F1
      have BW := BW2
      clear F1 BW2
      go_wp2
      go_roundw
      case rel =>
        have hk := HK.out
        have hk1 := HK1.out
        have hk2 := HK2.out
        have hk3 := HK3.out
        have hk4 := HK4.out
        have EM : (SmG.mk kk kk1 kk2 ⟨v3, mkL parM parZ kk3 l3⟩) = SmG.m (SmG.mk x0 x1 x2 ⟨v3, l3⟩) kk := by
          unfold SmG.m
          subst hk1 hk2 hk3 hk4
          rfl
        refine ⟨a + 1, by omega, by go_num, ?_, hid ?_, BW⟩
        · rw [HT.out, szL_app]
          have zz := ZZ
          simp only [szL, Nat.add_zero]
          congr 1
          omega
        · rw [HT.out, mkL_app, ← HP.out, ← HQ.out, ← hk, mkL, mkL, ← EM, List.append_assoc, List.singleton_append]
          exact rowg_back FW.out (by rw [HQ.out, List.length_append, List.length_cons, List.length_drop, PL.out]; omega)
      case measure => simp [intOf]; omega
    · have ek : a = xs.length := by omega
      subst ek
      rw [List.take_length, List.drop_length, List.append_nil] at HW
      rw [List.take_length]
      go_wp2
      go_ret
      exact ⟨rfl, HW.out, HB.out⟩
end Go.Proofs.YtbcjlpjohknljaaGreatDoor
namespace Go.Proofs.YtbcjlpjohknljaaGreatDoor
open Go.RowKit Go.Sort
set_option linter.unusedVariables false
set_option linter.unusedSimpArgs false
attribute [local go_sem ↓] Go.wp_at_zero Go.wp_at_succ

set_option maxRecDepth 100000 in
set_option maxHeartbeats 3200000 in
theorem markState_flat (v : Value) (xs : List StG) (k : Int) (w : World) (B : Nat) (R : List Rw) (hB : B ≤ w.heap.size) (h0 : 0 ≤ k) (h1 : k + szL StG.z xs ≤ 1099511627776) (h : Flat w B (RowG 68 4 StG.cells StG.rows v xs ++ R)) :
    Calls Tryz.prog 33 #[v, .int .i64 k] w fun e w' => e = .returned (.int .i64 (k + szL StG.z xs)) ∧ Flat w' B (RowG 68 4 StG.cells StG.rows v (mkL StG.m StG.z k xs) ++ R) ∧ Below B w w' := by
  obtain ⟨ao, c, hv, _⟩ := row_read StG.cells 4 (fun _ => rfl) (h.own (⟨68, 4, v, xs.length, xs.flatMap StG.cells⟩ : Rw) (by simp [RowG]))
  subst hv
  have HF := hid h
  clear h
  go_enter Tryz.func33, Tryz.ntmps33
  go_wp2
  go_loopw [1, 5] (fun kv i wr => ∃ a : Nat, a ≤ xs.length ∧ i = .int .i64 a ∧ kv = .int .i64 (k + szL StG.z (xs.take a)) ∧ Hid (Flat wr B (RowG 68 4 StG.cells StG.rows (.slice ao xs.length c) (mkL StG.m StG.z k (xs.take a) ++ xs.drop a) ++ R)) ∧ Hid (Below B w wr)) (fun _ i _ => xs.length - (intOf i).toNat)
  case atStart => exact ⟨0, Nat.zero_le _, rfl, by simp [szL], hid (by simpa [mkL] using HF.out), hid (Below.refl _ _)⟩
  case round =>
    obtain ⟨a, ha, rfl, rfl, HW, HB⟩ := hrel
    by_cases hlt : a < xs.length
    · have an : (a : Int) < (xs.length : Int) := by omega
      obtain ⟨x, hx⟩ : ∃ x, xs[a]? = some x := ⟨_, List.getElem?_eq_getElem hlt⟩
      obtain ⟨tk, dp⟩ := take_one hx
      have ZT := szL_take (z := StG.z) xs a
      rw [dp, szL] at ZT
      have HT := hid tk
      obtain ⟨p, hp⟩ : ∃ p, p = mkL StG.m StG.z k (xs.take a) := ⟨_, rfl⟩
      have pl : p.length = a := by rw [hp, mkL_len, List.length_take]; omega
      obtain ⟨q, hq⟩ : ∃ q, q = xs.drop (a + 1) := ⟨_, rfl⟩
      have LN : (p ++ x :: q).length = xs.length := by rw [hq, List.length_append, List.length_cons, List.length_drop, pl]; omega
      rw [dp, ← hp, ← hq] at HW
      have F0 := HW.out.perm (rowg_mid _ _ _ _ _ p x q R)
      rw [LN] at F0
      obtain ⟨g, cap0, hv0, hc0, hm0, hg0, hgl0⟩ := row_has F0.head (by show 0 < xs.length; omega)
      simp only [Value.slice.injEq] at hv0
      obtain ⟨rfl, _, hcc⟩ := hv0
      subst hcc
      obtain ⟨kk, hkk⟩ : ∃ kk, kk = k + (szL StG.z (xs.take a) : Int) := ⟨_, rfl⟩
      have KB : 0 ≤ kk ∧ kk + (StG.z x : Int) ≤ 1099511627776 := by omega
      have HK := hid hkk
      rw [← hkk]
      have PL := hid pl
      have HP := hid hp
      have HQ := hid hq
      have HBG := hid hg0
      have BW := HB
      have ZTH := hid ZT
      clear HW dp hkk hp hq LN tk ZT hx hgl0 hm0 hc0
      obtain ⟨x0, x1, ⟨v2, l2⟩, ⟨v3, l3⟩⟩ := x
      have FW : Hid (Flat wr B ((⟨68, 4, .slice (some ⟨g, 0, none⟩) xs.length c, xs.length, (p ++ (StG.mk x0 x1 ⟨v2, l2⟩ ⟨v3, l3⟩) :: q).flatMap StG.cells⟩ : Rw) :: (StG.rows (StG.mk x0 x1 ⟨v2, l2⟩ ⟨v3, l3⟩) ++ (p.flatMap StG.rows ++ (q.flatMap StG.rows ++ R))))) := hid F0
      have ZZ : ((StG.z (StG.mk x0 x1 ⟨v2, l2⟩ ⟨v3, l3⟩) : Nat) : Int) = 2 + (szL SmG.z l2 : Int) + (szL SmG.z l3 : Int) := by simp [StG.z]; try omega
      rw [ZZ] at KB
      have k0 : 0 ≤ kk := KB.1
      have k1 : kk ≤ 1099511627776 := by omega
      have KBH := hid KB
      clear F0 KB
      obtain ⟨c0, z0, y0⟩ : wr.cell? ⟨g, a * 4, none⟩ = some (.int .i64 x0) ∧ wr.frozen? ⟨g, a * 4, none⟩ = false ∧ g < wr.heap.size := by
        have h := el_cell (c := StG.cells) (sz := 4) (fun _ => rfl) FW.out a 0 PL.out (by decide)
        try simp only [Nat.add_zero, Nat.mul_one] at h
        exact h
      have F1 : Hid (Flat (wr.setCell ⟨g, a * 4, none⟩ (.int .i64 kk)) B ((⟨68, 4, .slice (some ⟨g, 0, none⟩) xs.length c, xs.length, (p ++ (StG.mk kk x1 ⟨v2, l2⟩ ⟨v3, l3⟩) :: q).flatMap StG.cells⟩ : Rw) :: (StG.rows (StG.mk kk x1 ⟨v2, l2⟩ ⟨v3, l3⟩) ++ (p.flatMap StG.rows ++ (q.flatMap StG.rows ++ R))))) := hid (by
        have h := el_set (c := StG.cells) (sz := 4) (fun _ => rfl) FW.out a 0 (.int .i64 kk) (StG.mk kk x1 ⟨v2, l2⟩ ⟨v3, l3⟩) PL.out (by decide) rfl
        try simp only [Nat.add_zero, Nat.mul_one] at h
        exact h)
      have BW2 := hid (BW.out.setCell (p := ⟨g, a * 4, none⟩) HBG.out (.int .i64 kk))
      go_upto_region 6 with fail
      obtain ⟨W1, hW⟩ : ∃ W, W = wr.setCell ⟨g, a * 4, none⟩ (.int .i64 kk) := ⟨_, rfl⟩
      rw [← hW] at F1 BW2 ⊢
      obtain ⟨kk1, hkk1⟩ : ∃ z, z = kk + 1 := ⟨_, rfl⟩
      rw [← hkk1]
      have HK1 := hid hkk1
      have kp1 : 0 ≤ kk1 := by omega
      have kq1 : kk1 ≤ 1099511627776 := by have := KBH.out; omega
      clear hW hkk1 FW BW c0 z0 y0
      have FW := F1
      have BW := BW2
      clear F1 BW2
      obtain ⟨c1, z1, y1⟩ : W1.cell? ⟨g, a * 4 + 1, none⟩ = some (.int .i64 x1) ∧ W1.frozen? ⟨g, a * 4 + 1, none⟩ = false ∧ g < W1.heap.size := by
        have h := el_cell (c := StG.cells) (sz := 4) (fun _ => rfl) FW.out a 1 PL.out (by decide)
        try simp only [Nat.add_zero, Nat.mul_one] at h
        exact h
      have F1 : Hid (Flat (W1.setCell ⟨g, a * 4 + 1, none⟩ (.int .i64 kk1)) B ((⟨68, 4, .slice (some ⟨g, 0, none⟩) xs.length c, xs.length, (p ++ (StG.mk kk kk1 ⟨v2, l2⟩ ⟨v3, l3⟩) :: q).flatMap StG.cells⟩ : Rw) :: (StG.rows (StG.mk kk kk1 ⟨v2, l2⟩ ⟨v3, l3⟩) ++ (p.flatMap StG.rows ++ (q.flatMap StG.rows ++ R))))) := hid (by
        have h := el_set (c := StG.cells) (sz := 4) (fun _ => rfl) FW.out a 1 (.int .i64 kk1) (StG.mk kk kk1 ⟨v2, l2⟩ ⟨v3, l3⟩) PL.out (by decide) rfl
        try simp only [Nat.add_zero, Nat.mul_one] at h
        exact h)
      have BW2 := hid (BW.out.setCell (p := ⟨g, a * 4 + 1, none⟩) HBG.out (.int .i64 kk1))
      go_upto_region 8 with fail
      obtain ⟨W2, hW⟩ : ∃ W, W = W1.setCell ⟨g, a * 4 + 1, none⟩ (.int .i64 kk1) := ⟨_, rfl⟩
      rw [← hW] at F1 BW2 ⊢
      obtain ⟨kk2, hkk2⟩ : ∃ z, z = kk1 + 1 := ⟨_, rfl⟩
      rw [← hkk2]
      have HK2 := hid hkk2
      have kp2 : 0 ≤ kk2 := by omega
      have kq2 : kk2 ≤ 1099511627776 := by have := KBH.out; have := HK1.out; omega
      clear hW hkk2 FW BW c1 z1 y1
      have FW := F1
      have BW := BW2
      clear F1 BW2
      obtain ⟨c2, z2, y2⟩ : W2.cell? ⟨g, a * 4 + 2, none⟩ = some v2 ∧ W2.frozen? ⟨g, a * 4 + 2, none⟩ = false ∧ g < W2.heap.size := by
        have h := el_cell (c := StG.cells) (sz := 4) (fun _ => rfl) FW.out a 2 PL.out (by decide)
        try simp only [Nat.add_zero, Nat.mul_one] at h
        exact h
      have FN : Flat W2 B (RowG 75 4 SmG.cells SmG.rows v2 l2 ++ ((⟨68, 4, .slice (some ⟨g, 0, none⟩) xs.length c, xs.length, (p ++ (StG.mk kk kk1 ⟨v2, l2⟩ ⟨v3, l3⟩) :: q).flatMap StG.cells⟩ : Rw) :: ((RowG 75 4 SmG.cells SmG.rows v3 (l3) ++ []) ++ (p.flatMap StG.rows ++ (q.flatMap StG.rows ++ R))))) := FW.out.perm (by refine perm_count fun f g hf => ?_; simp only [RowG, List.flatMap_append, List.flatMap_cons, SmG.cells, StG.cells, TrG.cells, ObG.cells, SmG.rows, SmsG.rows, SmsG.row, StG.rows, StsG.rows, StsG.row, TrG.rows, TrsG.rows, TrsG.row, ObG.rows, InG.row, CdG.row, TmG.row, noR_flat, itC_fl, int_fl, List.cons_append, List.append_assoc, List.nil_append, List.append_nil, mkL_len, hf.c, hf.a, hf.z]; try omega)
      have CN := hid (markStm_flat v2 l2 kk2 W2 B _ (Nat.le_trans hB BW.out.size) (by omega) (by have := KBH.out; have := HK1.out; have := HK2.out; omega) FN)
      clear FN
      go_upto_region 9 with (go_at_call 63; with_reducible refine CN.out.mono ?_; rintro e W3 ⟨rfl, hf, hb⟩; have FX := hid hf; have BX := hid hb; clear hf hb)
      have F1 : Hid (Flat W3 B ((⟨68, 4, .slice (some ⟨g, 0, none⟩) xs.length c, xs.length, (p ++ (StG.mk kk kk1 ⟨v2, mkL SmG.m SmG.z kk2 l2⟩ ⟨v3, l3⟩) :: q).flatMap StG.cells⟩ : Rw) :: (StG.rows (StG.mk kk kk1 ⟨v2, mkL SmG.m SmG.z kk2 l2⟩ ⟨v3, l3⟩) ++ (p.flatMap StG.rows ++ (q.flatMap StG.rows ++ R))))) := hid (FX.out.perm (by refine perm_count fun f g hf => ?_; simp only [RowG, List.flatMap_append, List.flatMap_cons, SmG.cells, StG.cells, TrG.cells, ObG.cells, SmG.rows, SmsG.rows, SmsG.row, StG.rows, StsG.rows, StsG.row, TrG.rows, TrsG.rows, TrsG.row, ObG.rows, InG.row, CdG.row, TmG.row, noR_flat, itC_fl, int_fl, List.cons_append, List.append_assoc, List.nil_append, List.append_nil, mkL_len, hf.c, hf.a, hf.z]; try omega))
      have BW2 := hid (BW.out.trans BX.out)
      obtain ⟨kk3, hkk3⟩ : ∃ z, z = kk2 + (szL SmG.z l2 : Int) := ⟨_, rfl⟩
      rw [← hkk3]
      have HK3 := hid hkk3
      have kp3 : 0 ≤ kk3 := by omega
      have kq3 : kk3 ≤ 1099511627776 := by have := KBH.out; have := HK1.out; have := HK2.out; omega
      clear hkk3 FW BW FX BX CN c2 z2 y2
      have FW := F1
      have BW := BW2
      clear F1 BW2
      obtain ⟨c3, z3, y3⟩ : W3.cell? ⟨g, a * 4 + 3, none⟩ = some v3 ∧ W3.frozen? ⟨g, a * 4 + 3, none⟩ = false ∧ g < W3.heap.size := by
        have h := el_cell (c := StG.cells) (sz := 4) (fun _ => rfl) FW.out a 3 PL.out (by decide)
        try simp only [Nat.add_zero, Nat.mul_one] at h
        exact h
      have FN : Flat W3 B (RowG 75 4 SmG.cells SmG.rows v3 l3 ++ ((⟨68, 4, .slice (some ⟨g, 0, none⟩) xs.length c, xs.length, (p ++ (StG.mk kk kk1 ⟨v2, mkL SmG.m SmG.z kk2 l2⟩ ⟨v3, l3⟩) :: q).flatMap StG.cells⟩ : Rw) :: ((RowG 75 4 SmG.cells SmG.rows v2 (mkL SmG.m SmG.z kk2 l2) ++ []) ++ (p.flatMap StG.rows ++ (q.flatMap StG.rows ++ R))))) := FW.out.perm (by refine perm_count fun f g hf => ?_; simp only [RowG, List.flatMap_append, List.flatMap_cons, SmG.cells, StG.cells, TrG.cells, ObG.cells, SmG.rows, SmsG.rows, SmsG.row, StG.rows, StsG.rows, StsG.row, TrG.rows, TrsG.rows, TrsG.row, ObG.rows, InG.row, CdG.row, TmG.row, noR_flat, itC_fl, int_fl, List.cons_append, List.append_assoc, List.nil_append, List.append_nil, mkL_len, hf.c, hf.a, hf.z]; try omega)
      have CN := hid (markStm_flat v3 l3 kk3 W3 B _ (Nat.le_trans hB BW.out.size) (by omega) (by have := KBH.out; have := HK1.out; have := HK2.out; have := HK3.out; omega) FN)
      clear FN
      go_upto_region 3 with (go_at_call 63; with_reducible refine CN.out.mono ?_; rintro e W4 ⟨rfl, hf, hb⟩; have FX := hid hf; have BX := hid hb; clear hf hb)
      have F1 : Hid (Flat W4 B ((⟨68, 4, .slice (some ⟨g, 0, none⟩) xs.length c, xs.length, (p ++ (StG.mk kk kk1 ⟨v2, mkL SmG.m SmG.z kk2 l2⟩ ⟨v3, mkL SmG.m SmG.z kk3 l3⟩) :: q).flatMap StG.cells⟩ : Rw) :: (StG.rows (StG.mk kk kk1 ⟨v2, mkL SmG.m SmG.z kk2 l2⟩ ⟨v3, mkL SmG.m SmG.z kk3 l3⟩) ++ (p.flatMap StG.rows ++ (q.flatMap StG.rows ++ R))))) := hid (FX.out.perm (by refine perm_count fun f g hf => ?_; simp only [RowG, List.flatMap_append, List.flatMap_cons, SmG.cells, StG.cells, TrG.cells, ObG.cells, SmG.rows, SmsG.rows, SmsG.row, StG.rows, StsG.rows, StsG.row, TrG.rows, TrsG.rows, TrsG.row, ObG.rows, InG.row, CdG.row, TmG.row, noR_flat, itC_fl, int_fl, List.cons_append, List.append_assoc, List.nil_append, List.append_nil, mkL_len, hf.c, hf.a, hf.z]; try omega))
      have BW2 := hid (BW.out.trans BX.out)
      obtain ⟨kk4, hkk4⟩ : ∃ z, z = kk3 + (szL SmG.z l3 : Int) := ⟨_, rfl⟩
      rw [← hkk4]
      have HK4 := hid hkk4
      have kp4 : 0 ≤ kk4 := by omega
      have kq4 : kk4 ≤ 1099511627776 := by have := KBH.out; have := HK1.out; have := HK2.out; have := HK3.out; omega
      clear hkk4 FW BW FX BX CN c3 z3 y3
      have FW := F1
      have BW := BW2
      clear F1 BW2
      go_wp2
      go_roundw
      case rel =>
        have hk := HK.out
        have hk1 := HK1.out
        have hk2 := HK2.out
        have hk3 := HK3.out
        have hk4 := HK4.out
        have EM : (StG.mk kk kk1 ⟨v2, mkL SmG.m SmG.z kk2 l2⟩ ⟨v3, mkL SmG.m SmG.z kk3 l3⟩) = StG.m (StG.mk x0 x1 ⟨v2, l2⟩ ⟨v3, l3⟩) kk := by
          unfold StG.m
          subst hk1 hk2 hk3 hk4
          rfl
        refine ⟨a + 1, by omega, by go_num, ?_, hid ?_, BW⟩
        · rw [HT.out, szL_app]
          have zz := ZZ
          simp only [szL, Nat.add_zero]
          congr 1
          omega
        · rw [HT.out, mkL_app, ← HP.out, ← HQ.out, ← hk, mkL, mkL, ← EM, List.append_assoc, List.singleton_append]
          exact rowg_back FW.out (by rw [HQ.out, List.length_append, List.length_cons, List.length_drop, PL.out]; omega)
      case measure => simp [intOf]; omega
    · have ek : a = xs.length := by omega
      subst ek
      rw [List.take_length, List.drop_length, List.append_nil] at HW
      rw [List.take_length]
      go_wp2
      go_ret
      exact ⟨rfl, HW.out, HB.out⟩
end Go.Proofs.YtbcjlpjohknljaaGreatDoor
namespace Go.Proofs.YtbcjlpjohknljaaGreatDoor
open Go.RowKit Go.Sort
set_option linter.unusedVariables false
set_option linter.unusedSimpArgs false
attribute [local go_sem ↓] Go.wp_at_zero Go.wp_at_succ

set_option maxRecDepth 100000 in
set_option maxHeartbeats 3200000 in
theorem markTrans_flat (v : Value) (xs : List TrG) (k : Int) (w : World) (B : Nat) (R : List Rw) (hB : B ≤ w.heap.size) (h0 : 0 ≤ k) (h1 : k + szL TrG.z xs ≤ 1099511627776) (h : Flat w B (RowG 73 5 TrG.cells TrG.rows v xs ++ R)) :
    Calls Tryz.prog 34 #[v, .int .i64 k] w fun e w' => e = .returned (.int .i64 (k + szL TrG.z xs)) ∧ Flat w' B (RowG 73 5 TrG.cells TrG.rows v (mkL TrG.m TrG.z k xs) ++ R) ∧ Below B w w' := by
  obtain ⟨ao, c, hv, _⟩ := row_read TrG.cells 5 (fun _ => rfl) (h.own (⟨73, 5, v, xs.length, xs.flatMap TrG.cells⟩ : Rw) (by simp [RowG]))
  subst hv
  have HF := hid h
  clear h
  go_enter Tryz.func34, Tryz.ntmps34
  go_wp2
  go_loopw [1, 5] (fun kv i wr => ∃ a : Nat, a ≤ xs.length ∧ i = .int .i64 a ∧ kv = .int .i64 (k + szL TrG.z (xs.take a)) ∧ Hid (Flat wr B (RowG 73 5 TrG.cells TrG.rows (.slice ao xs.length c) (mkL TrG.m TrG.z k (xs.take a) ++ xs.drop a) ++ R)) ∧ Hid (Below B w wr)) (fun _ i _ => xs.length - (intOf i).toNat)
  case atStart => exact ⟨0, Nat.zero_le _, rfl, by simp [szL], hid (by simpa [mkL] using HF.out), hid (Below.refl _ _)⟩
  case round =>
    obtain ⟨a, ha, rfl, rfl, HW, HB⟩ := hrel
    by_cases hlt : a < xs.length
    · have an : (a : Int) < (xs.length : Int) := by omega
      obtain ⟨x, hx⟩ : ∃ x, xs[a]? = some x := ⟨_, List.getElem?_eq_getElem hlt⟩
      obtain ⟨tk, dp⟩ := take_one hx
      have ZT := szL_take (z := TrG.z) xs a
      rw [dp, szL] at ZT
      have HT := hid tk
      obtain ⟨p, hp⟩ : ∃ p, p = mkL TrG.m TrG.z k (xs.take a) := ⟨_, rfl⟩
      have pl : p.length = a := by rw [hp, mkL_len, List.length_take]; omega
      obtain ⟨q, hq⟩ : ∃ q, q = xs.drop (a + 1) := ⟨_, rfl⟩
      have LN : (p ++ x :: q).length = xs.length := by rw [hq, List.length_append, List.length_cons, List.length_drop, pl]; omega
      rw [dp, ← hp, ← hq] at HW
      have F0 := HW.out.perm (rowg_mid _ _ _ _ _ p x q R)
      rw [LN] at F0
      obtain ⟨g, cap0, hv0, hc0, hm0, hg0, hgl0⟩ := row_has F0.head (by show 0 < xs.length; omega)
      simp only [Value.slice.injEq] at hv0
      obtain ⟨rfl, _, hcc⟩ := hv0
      subst hcc
      obtain ⟨kk, hkk⟩ : ∃ kk, kk = k + (szL TrG.z (xs.take a) : Int) := ⟨_, rfl⟩
      have KB : 0 ≤ kk ∧ kk + (TrG.z x : Int) ≤ 1099511627776 := by omega
      have HK := hid hkk
      rw [← hkk]
      have PL := hid pl
      have HP := hid hp
      have HQ := hid hq
      have HBG := hid hg0
      have BW := HB
      have ZTH := hid ZT
      clear HW dp hkk hp hq LN tk ZT hx hgl0 hm0 hc0
      obtain ⟨x0, x1, ⟨v2, l2⟩, x3, ⟨v4, l4⟩⟩ := x
      have FW : Hid (Flat wr B ((⟨73, 5, .slice (some ⟨g, 0, none⟩) xs.length c, xs.length, (p ++ (TrG.mk x0 x1 ⟨v2, l2⟩ x3 ⟨v4, l4⟩) :: q).flatMap TrG.cells⟩ : Rw) :: (TrG.rows (TrG.mk x0 x1 ⟨v2, l2⟩ x3 ⟨v4, l4⟩) ++ (p.flatMap TrG.rows ++ (q.flatMap TrG.rows ++ R))))) := hid F0
      have ZZ : ((TrG.z (TrG.mk x0 x1 ⟨v2, l2⟩ x3 ⟨v4, l4⟩) : Nat) : Int) = 3 + (szL parZ l2 : Int) + (szL SmG.z l4 : Int) := by simp [TrG.z]; try omega
      rw [ZZ] at KB
      have k0 : 0 ≤ kk := KB.1
      have k1 : kk ≤ 1099511627776 := by omega
      have KBH := hid KB
      clear F0 KB
      obtain ⟨c0, z0, y0⟩ : wr.cell? ⟨g, a * 5, none⟩ = some (.int .i64 x0) ∧ wr.frozen? ⟨g, a * 5, none⟩ = false ∧ g < wr.heap.size := by
        have h := el_cell (c := TrG.cells) (sz := 5) (fun _ => rfl) FW.out a 0 PL.out (by decide)
        try simp only [Nat.add_zero, Nat.mul_one] at h
        exact h
      have F1 : Hid (Flat (wr.setCell ⟨g, a * 5, none⟩ (.int .i64 kk)) B ((⟨73, 5, .slice (some ⟨g, 0, none⟩) xs.length c, xs.length, (p ++ (TrG.mk kk x1 ⟨v2, l2⟩ x3 ⟨v4, l4⟩) :: q).flatMap TrG.cells⟩ : Rw) :: (TrG.rows (TrG.mk kk x1 ⟨v2, l2⟩ x3 ⟨v4, l4⟩) ++ (p.flatMap TrG.rows ++ (q.flatMap TrG.rows ++ R))))) := hid (by
        have h := el_set (c := TrG.cells) (sz := 5) (fun _ => rfl) FW.out a 0 (.int .i64 kk) (TrG.mk kk x1 ⟨v2, l2⟩ x3 ⟨v4, l4⟩) PL.out (by decide) rfl
        try simp only [Nat.add_zero, Nat.mul_one] at h
        exact h)
      have BW2 := hid (BW.out.setCell (p := ⟨g, a * 5, none⟩) HBG.out (.int .i64 kk))
      go_upto_region 6 with fail
      obtain ⟨W1, hW⟩ : ∃ W, W = wr.setCell ⟨g, a * 5, none⟩ (.int .i64 kk) := ⟨_, rfl⟩
      rw [← hW] at F1 BW2 ⊢
      obtain ⟨kk1, hkk1⟩ : ∃ z, z = kk + 1 := ⟨_, rfl⟩
      rw [← hkk1]
      have HK1 := hid hkk1
      have kp1 : 0 ≤ kk1 := by omega
      have kq1 : kk1 ≤ 1099511627776 := by have := KBH.out; omega
      clear hW hkk1 FW BW c0 z0 y0
      have FW := F1
      have BW := BW2
      clear F1 BW2
      obtain ⟨c1, z1, y1⟩ : W1.cell? ⟨g, a * 5 + 1, none⟩ = some (.int .i64 x1) ∧ W1.frozen? ⟨g, a * 5 + 1, none⟩ = false ∧ g < W1.heap.size := by
        have h := el_cell (c := TrG.cells) (sz := 5) (fun _ => rfl) FW.out a 1 PL.out (by decide)
        try simp only [Nat.add_zero, Nat.mul_one] at h
        exact h
      have F1 : Hid (Flat (W1.setCell ⟨g, a * 5 + 1, none⟩ (.int .i64 kk1)) B ((⟨73, 5, .slice (some ⟨g, 0, none⟩) xs.length c, xs.length, (p ++ (TrG.mk kk kk1 ⟨v2, l2⟩ x3 ⟨v4, l4⟩) :: q).flatMap TrG.cells⟩ : Rw) :: (TrG.rows (TrG.mk kk kk1 ⟨v2, l2⟩ x3 ⟨v4, l4⟩) ++ (p.flatMap TrG.rows ++ (q.flatMap TrG.rows ++ R))))) := hid (by
        have h := el_set (c := TrG.cells) (sz := 5) (fun _ => rfl) FW.out a 1 (.int .i64 kk1) (TrG.mk kk kk1 ⟨v2, l2⟩ x3 ⟨v4, l4⟩) PL.out (by decide) rfl
        try simp only [Nat.add_zero, Nat.mul_one] at h
        exact h)
      have BW2 := hid (BW.out.setCell (p := ⟨g, a * 5 + 1, none⟩) HBG.out (.int .i64 kk1))
      go_upto_region 8 with fail
      obtain ⟨W2, hW⟩ : ∃ W, W = W1.setCell ⟨g, a * 5 + 1, none⟩ (.int .i64 kk1) := ⟨_, rfl⟩
      rw [← hW] at F1 BW2 ⊢
      obtain ⟨kk2, hkk2⟩ : ∃ z, z = kk1 + 1 := ⟨_, rfl⟩
      rw [← hkk2]
      have HK2 := hid hkk2
      have kp2 : 0 ≤ kk2 := by omega
      have kq2 : kk2 ≤ 1099511627776 := by have := KBH.out; have := HK1.out; omega
      clear hW hkk2 FW BW c1 z1 y1
      have FW := F1
      have BW := BW2
      clear F1 BW2
      obtain ⟨c2, z2, y2⟩ : W2.cell? ⟨g, a * 5 + 2, none⟩ = some v2 ∧ W2.frozen? ⟨g, a * 5 + 2, none⟩ = false ∧ g < W2.heap.size := by
        have h := el_cell (c := TrG.cells) (sz := 5) (fun _ => rfl) FW.out a 2 PL.out (by decide)
        try simp only [Nat.add_zero, Nat.mul_one] at h
        exact h
      have FN : Flat W2 B (RowG 96 2 parC noR v2 l2 ++ ((⟨73, 5, .slice (some ⟨g, 0, none⟩) xs.length c, xs.length, (p ++ (TrG.mk kk kk1 ⟨v2, l2⟩ x3 ⟨v4, l4⟩) :: q).flatMap TrG.cells⟩ : Rw) :: ((RowG 75 4 SmG.cells SmG.rows v4 (l4) ++ []) ++ (p.flatMap TrG.rows ++ (q.flatMap TrG.rows ++ R))))) := FW.out.perm (by refine perm_count fun f g hf => ?_; simp only [RowG, List.flatMap_append, List.flatMap_cons, SmG.cells, StG.cells, TrG.cells, ObG.cells, SmG.rows, SmsG.rows, SmsG.row, StG.rows, StsG.rows, StsG.row, TrG.rows, TrsG.rows, TrsG.row, ObG.rows, InG.row, CdG.row, TmG.row, noR_flat, itC_fl, int_fl, List.cons_append, List.append_assoc, List.nil_append, List.append_nil, mkL_len, hf.c, hf.a, hf.z]; try omega)
      have CN := hid (markItem_flat v2 l2 kk2 W2 B _ (Nat.le_trans hB BW.out.size) (by omega) (by have := KBH.out; have := HK1.out; have := HK2.out; omega) FN)
      clear FN
      go_upto_region 9 with (go_at_call 64; with_reducible refine CN.out.mono ?_; rintro e W3 ⟨rfl, hf, hb⟩; have FX := hid hf; have BX := hid hb; clear hf hb)
      have F1 : Hid (Flat W3 B ((⟨73, 5, .slice (some ⟨g, 0, none⟩) xs.length c, xs.length, (p ++ (TrG.mk kk kk1 ⟨v2, mkL parM parZ kk2 l2⟩ x3 ⟨v4, l4⟩) :: q).flatMap TrG.cells⟩ : Rw) :: (TrG.rows (TrG.mk kk kk1 ⟨v2, mkL parM parZ kk2 l2⟩ x3 ⟨v4, l4⟩) ++ (p.flatMap TrG.rows ++ (q.flatMap TrG.rows ++ R))))) := hid (FX.out.perm (by refine perm_count fun f g hf => ?_; simp only [RowG, List.flatMap_append, List.flatMap_cons, SmG.cells, StG.cells, TrG.cells, ObG.cells, SmG.rows, SmsG.rows, SmsG.row, StG.rows, StsG.rows, StsG.row, TrG.rows, TrsG.rows, TrsG.row, ObG.rows, InG.row, CdG.row, TmG.row, noR_flat, itC_fl, int_fl, List.cons_append, List.append_assoc, List.nil_append, List.append_nil, mkL_len, hf.c, hf.a, hf.z]; try omega))
      have BW2 := hid (BW.out.trans BX.out)
      obtain ⟨kk3, hkk3⟩ : ∃ z, z = kk2 + (szL parZ l2 : Int) := ⟨_, rfl⟩
      rw [← hkk3]
      have HK3 := hid hkk3
      have kp3 : 0 ≤ kk3 := by omega
      have kq3 : kk3 ≤ 1099511627776 := by have := KBH.out; have := HK1.out; have := HK2.out; omega
      clear hkk3 FW BW FX BX CN c2 z2 y2
      have FW := F1
      have BW := BW2
      clear F1 BW2
      obtain ⟨c3, z3, y3⟩ : W3.cell? ⟨g, a * 5 + 3, none⟩ = some (.int .i64 x3) ∧ W3.frozen? ⟨g, a * 5 + 3, none⟩ = false ∧ g < W3.heap.size := by
        have h := el_cell (c := TrG.cells) (sz := 5) (fun _ => rfl) FW.out a 3 PL.out (by decide)
        try simp only [Nat.add_zero, Nat.mul_one] at h
        exact h
      have F1 : Hid (Flat (W3.setCell ⟨g, a * 5 + 3, none⟩ (.int .i64 kk3)) B ((⟨73, 5, .slice (some ⟨g, 0, none⟩) xs.length c, xs.length, (p ++ (TrG.mk kk kk1 ⟨v2, mkL parM parZ kk2 l2⟩ kk3 ⟨v4, l4⟩) :: q).flatMap TrG.cells⟩ : Rw) :: (TrG.rows (TrG.mk kk kk1 ⟨v2, mkL parM parZ kk2 l2⟩ kk3 ⟨v4, l4⟩) ++ (p.flatMap TrG.rows ++ (q.flatMap TrG.rows ++ R))))) := hid (by
        have h := el_set (c := TrG.cells) (sz := 5) (fun _ => rfl) FW.out a 3 (.int .i64 kk3) (TrG.mk kk kk1 ⟨v2, mkL parM parZ kk2 l2⟩ kk3 ⟨v4, l4⟩) PL.out (by decide) rfl
        try simp only [Nat.add_zero, Nat.mul_one] at h
        exact h)
      have BW2 := hid (BW.out.setCell (p := ⟨g, a * 5 + 3, none⟩) HBG.out (.int .i64 kk3))
      go_upto_region 11 with fail
      obtain ⟨W4, hW⟩ : ∃ W, W = W3.setCell ⟨g, a * 5 + 3, none⟩ (.int .i64 kk3) := ⟨_, rfl⟩
      rw [← hW] at F1 BW2 ⊢
      obtain ⟨kk4, hkk4⟩ : ∃ z, z = kk3 + 1 := ⟨_, rfl⟩
      rw [← hkk4]
      have HK4 := hid hkk4
      have kp4 : 0 ≤ kk4 := by omega
      have kq4 : kk4 ≤ 1099511627776 := by have := KBH.out; have := HK1.out; have := HK2.out; have := HK3.out; omega
      clear hW hkk4 FW BW c3 z3 y3
      have FW := F1
      have BW := BW2
      clear F1 BW2
      obtain ⟨c4, z4, y4⟩ : W4.cell? ⟨g, a * 5 + 4, none⟩ = some v4 ∧ W4.frozen? ⟨g, a * 5 + 4, none⟩ = false ∧ g < W4.heap.size := by
        have h := el_cell (c := TrG.cells) (sz := 5) (fun _ => rfl) FW.out a 4 PL.out (by decide)
        try simp only [Nat.add_zero, Nat.mul_one] at h
        exact h
      have FN : Flat W4 B (RowG 75 4 SmG.cells SmG.rows v4 l4 ++ ((⟨73, 5, .slice (some ⟨g, 0, none⟩) xs.length c, xs.length, (p ++ (TrG.mk kk kk1 ⟨v2, mkL parM parZ kk2 l2⟩ kk3 ⟨v4, l4⟩) :: q).flatMap TrG.cells⟩ : Rw) :: ((RowG 96 2 parC noR v2 (mkL parM parZ kk2 l2) ++ []) ++ (p.flatMap TrG.rows ++ (q.flatMap TrG.rows ++ R))))) := FW.out.perm (by refine perm_count fun f g hf => ?_; simp only [RowG, List.flatMap_append, List.flatMap_cons, SmG.cells, StG.cells, TrG.cells, ObG.cells, SmG.rows, SmsG.rows, SmsG.row, StG.rows, StsG.rows, StsG.row, TrG.rows, TrsG.rows, TrsG.row, ObG.rows, InG.row, CdG.row, TmG.row, noR_flat, itC_fl, int_fl, List.cons_append, List.append_assoc, List.nil_append, List.append_nil, mkL_len, hf.c, hf.a, hf.z]; try omega)
      have CN := hid (markStm_flat v4 l4 kk4 W4 B _ (Nat.le_trans hB BW.out.size) (by omega) (by have := KBH.out; have := HK1.out; have := HK2.out; have := HK3.out; have := HK4.out; omega) FN)
      clear FN
      go_upto_region 3 with (go_at_call 63; with_reducible refine CN.out.mono ?_; rintro e W5 ⟨rfl, hf, hb⟩; have FX := hid hf; have BX := hid hb; clear hf hb)
      have F1 : Hid (Flat W5 B ((⟨73, 5, .slice (some ⟨g, 0, none⟩) xs.length c, xs.length, (p ++ (TrG.mk kk kk1 ⟨v2, mkL parM parZ kk2 l2⟩ kk3 ⟨v4, mkL SmG.m SmG.z kk4 l4⟩) :: q).flatMap TrG.cells⟩ : Rw) :: (TrG.rows (TrG.mk kk kk1 ⟨v2, mkL parM parZ kk2 l2⟩ kk3 ⟨v4, mkL SmG.m SmG.z kk4 l4⟩) ++ (p.flatMap TrG.rows ++ (q.flatMap TrG.rows ++ R))))) := hid (FX.out.perm (by refine perm_count fun f g hf => ?_; simp only [RowG, List.flatMap_append, List.flatMap_cons, SmG.cells, StG.cells, TrG.cells, ObG.cells, SmG.rows, SmsG.rows, SmsG.row, StG.rows, StsG.rows, StsG.row, TrG.rows, TrsG.rows, TrsG.row, ObG.rows, InG.row, CdG.row, TmG.row, noR_flat, itC_fl, int_fl, List.cons_append, List.append_assoc, List.nil_append, List.append_nil, mkL_len, hf.c, hf.a, hf.z]; try omega))
      have BW2 := hid (BW.out.trans BX.out)
      obtain ⟨kk5, hkk5⟩ : ∃ z, z = kk4 + (szL SmG.z l4 : Int) := ⟨_, rfl⟩
      rw [← hkk5]
      have HK5 := hid hkk5
      have kp5 : 0 ≤ kk5 := by omega
      have kq5 : kk5 ≤ 1099511627776 := by have := KBH.out; have := HK1.out; have := HK2.out; have := HK3.out; have := HK4.out; omega
      clear hkk5 FW BW FX BX CN c4 z4 y4
      have FW := F1
      have BW := BW2
      clear F1 BW2
      go_wp2
      go_roundw
      case rel =>
        have hk := HK.out
        have hk1 := HK1.out
        have hk2 := HK2.out
        have hk3 := HK3.out
        have hk4 := HK4.out
        have hk5 := HK5.out
        have EM : (TrG.mk kk kk1 ⟨v2, mkL parM parZ kk2 l2⟩ kk3 ⟨v4, mkL SmG.m SmG.z kk4 l4⟩) = TrG.m (TrG.mk x0 x1 ⟨v2, l2⟩ x3 ⟨v4, l4⟩) kk := by
          unfold TrG.m
          subst hk1 hk2 hk3 hk4 hk5
          rfl
        refine ⟨a + 1, by omega, by go_num, ?_, hid ?_, BW⟩
        · rw [HT.out, szL_app]
          have zz := ZZ
          simp only [szL, Nat.add_zero]
          congr 1
          omega
        · rw [HT.out, mkL_app, ← HP.out, ← HQ.out, ← hk, mkL, mkL, ← EM, List.append_assoc, List.singleton_append]
          exact rowg_back FW.out (by rw [HQ.out, List.length_append, List.length_cons, List.length_drop, PL.out]; omega)
      case measure => simp [intOf]; omega
    · have ek : a = xs.length := by omega
      subst ek
      rw [List.take_length, List.drop_length, List.append_nil] at HW
      rw [List.take_length]
      go_wp2
      go_ret
      exact ⟨rfl, HW.out, HB.out⟩
end Go.Proofs.YtbcjlpjohknljaaGreatDoor
