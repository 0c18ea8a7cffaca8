import Derived.Test.YtbcjlpjohknljaaGreatDoorMb
namespace Go.Proofs.YtbcjlpjohknljaaGreatDoor
open Go.RowKit Go.Sort
set_option linter.unusedVariables false
set_option linter.unusedSimpArgs false
attribute [local go_sem ↓] Go.wp_at_zero Go.wp_at_succ

set_option maxRecDepth 100000 in
set_option maxHeartbeats 3200000 in
theorem markObject_flat (v : Value) (xs : List ObG) (k : Int) (w : World) (B : Nat) (R : List Rw) (hB : B ≤ w.heap.size) (h0 : 0 ≤ k) (h1 : k + szL ObG.z xs ≤ 1099511627776) (h : Flat w B (RowG 57 8 ObG.cells ObG.rows v xs ++ R)) :
    Calls Tryz.prog 15 #[v, .int .i64 k] w fun e w' => e = .returned (.int .i64 (k + szL ObG.z xs)) ∧ Flat w' B (RowG 57 8 ObG.cells ObG.rows v (mkL ObG.m ObG.z k xs) ++ R) ∧ Below B w w' := by
  obtain ⟨ao, c, hv, _⟩ := row_read ObG.cells 8 (fun _ => rfl) (h.own (⟨57, 8, v, xs.length, xs.flatMap ObG.cells⟩ : Rw) (by simp [RowG]))
  subst hv
  have HF := hid h
  clear h
  go_enter Tryz.func15, Tryz.ntmps15
  go_wp2
  go_loopw [1, 5] (fun kv i wr => ∃ a : Nat, a ≤ xs.length ∧ i = .int .i64 a ∧ kv = .int .i64 (k + szL ObG.z (xs.take a)) ∧ Hid (Flat wr B (RowG 57 8 ObG.cells ObG.rows (.slice ao xs.length c) (mkL ObG.m ObG.z k (xs.take a) ++ xs.drop a) ++ R)) ∧ Hid (Below B w wr)) (fun _ i _ => xs.length - (intOf i).toNat)
  case atStart => exact ⟨0, Nat.zero_le _, rfl, by simp [szL], hid (by simpa [mkL] using HF.out), hid (Below.refl _ _)⟩
  case round =>
    obtain ⟨a, ha, rfl, rfl, HW, HB⟩ := hrel
    by_cases hlt : a < xs.length
    · have an : (a : Int) < (xs.length : Int) := by omega
      obtain ⟨x, hx⟩ : ∃ x, xs[a]? = some x := ⟨_, List.getElem?_eq_getElem hlt⟩
      obtain ⟨tk, dp⟩ := take_one hx
      have ZT := szL_take (z := ObG.z) xs a
      rw [dp, szL] at ZT
      have HT := hid tk
      obtain ⟨p, hp⟩ : ∃ p, p = mkL ObG.m ObG.z k (xs.take a) := ⟨_, rfl⟩
      have pl : p.length = a := by rw [hp, mkL_len, List.length_take]; omega
      obtain ⟨q, hq⟩ : ∃ q, q = xs.drop (a + 1) := ⟨_, rfl⟩
      have LN : (p ++ x :: q).length = xs.length := by rw [hq, List.length_append, List.length_cons, List.length_drop, pl]; omega
      rw [dp, ← hp, ← hq] at HW
      have F0 := HW.out.perm (rowg_mid _ _ _ _ _ p x q R)
      rw [LN] at F0
      obtain ⟨g, cap0, hv0, hc0, hm0, hg0, hgl0⟩ := row_has F0.head (by show 0 < xs.length; omega)
      simp only [Value.slice.injEq] at hv0
      obtain ⟨rfl, _, hcc⟩ := hv0
      subst hcc
      obtain ⟨kk, hkk⟩ : ∃ kk, kk = k + (szL ObG.z (xs.take a) : Int) := ⟨_, rfl⟩
      have KB : 0 ≤ kk ∧ kk + (ObG.z x : Int) ≤ 1099511627776 := by omega
      have HK := hid hkk
      rw [← hkk]
      have PL := hid pl
      have HP := hid hp
      have HQ := hid hq
      have HBG := hid hg0
      have BW := HB
      have ZTH := hid ZT
      clear HW dp hkk hp hq LN tk ZT hx hgl0 hm0 hc0
      obtain ⟨x0, x1, x2, ⟨v3, l3⟩, ⟨v4, l4⟩, ⟨v5, l5⟩, ⟨v6, l6⟩, ⟨v7, l7⟩⟩ := x
      have FW : Hid (Flat wr B ((⟨57, 8, .slice (some ⟨g, 0, none⟩) xs.length c, xs.length, (p ++ (ObG.mk x0 x1 x2 ⟨v3, l3⟩ ⟨v4, l4⟩ ⟨v5, l5⟩ ⟨v6, l6⟩ ⟨v7, l7⟩) :: q).flatMap ObG.cells⟩ : Rw) :: (ObG.rows (ObG.mk x0 x1 x2 ⟨v3, l3⟩ ⟨v4, l4⟩ ⟨v5, l5⟩ ⟨v6, l6⟩ ⟨v7, l7⟩) ++ (p.flatMap ObG.rows ++ (q.flatMap ObG.rows ++ R))))) := hid F0
      have ZZ : ((ObG.z (ObG.mk x0 x1 x2 ⟨v3, l3⟩ ⟨v4, l4⟩ ⟨v5, l5⟩ ⟨v6, l6⟩ ⟨v7, l7⟩) : Nat) : Int) = 3 + (szL intZ l3 : Int) + (szL intZ l4 : Int) + (szL intZ l5 : Int) + (szL StG.z l6 : Int) + (szL TrG.z l7 : Int) := by simp [ObG.z]; try omega
      rw [ZZ] at KB
      have k0 : 0 ≤ kk := KB.1
      have k1 : kk ≤ 1099511627776 := by omega
      have KBH := hid KB
      clear F0 KB
      obtain ⟨c0, z0, y0⟩ : wr.cell? ⟨g, a * 8, none⟩ = some (.int .i64 x0) ∧ wr.frozen? ⟨g, a * 8, none⟩ = false ∧ g < wr.heap.size := by
        have h := el_cell (c := ObG.cells) (sz := 8) (fun _ => rfl) FW.out a 0 PL.out (by decide)
        try simp only [Nat.add_zero, Nat.mul_one] at h
        exact h
      have F1 : Hid (Flat (wr.setCell ⟨g, a * 8, none⟩ (.int .i64 kk)) B ((⟨57, 8, .slice (some ⟨g, 0, none⟩) xs.length c, xs.length, (p ++ (ObG.mk kk x1 x2 ⟨v3, l3⟩ ⟨v4, l4⟩ ⟨v5, l5⟩ ⟨v6, l6⟩ ⟨v7, l7⟩) :: q).flatMap ObG.cells⟩ : Rw) :: (ObG.rows (ObG.mk kk x1 x2 ⟨v3, l3⟩ ⟨v4, l4⟩ ⟨v5, l5⟩ ⟨v6, l6⟩ ⟨v7, l7⟩) ++ (p.flatMap ObG.rows ++ (q.flatMap ObG.rows ++ R))))) := hid (by
        have h := el_set (c := ObG.cells) (sz := 8) (fun _ => rfl) FW.out a 0 (.int .i64 kk) (ObG.mk kk x1 x2 ⟨v3, l3⟩ ⟨v4, l4⟩ ⟨v5, l5⟩ ⟨v6, l6⟩ ⟨v7, l7⟩) PL.out (by decide) rfl
        try simp only [Nat.add_zero, Nat.mul_one] at h
        exact h)
      have BW2 := hid (BW.out.setCell (p := ⟨g, a * 8, none⟩) HBG.out (.int .i64 kk))
      go_upto_region 6 with fail
      obtain ⟨W1, hW⟩ : ∃ W, W = wr.setCell ⟨g, a * 8, none⟩ (.int .i64 kk) := ⟨_, rfl⟩
      rw [← hW] at F1 BW2 ⊢
      obtain ⟨kk1, hkk1⟩ : ∃ z, z = kk + 1 := ⟨_, rfl⟩
      rw [← hkk1]
      have HK1 := hid hkk1
      have kp1 : 0 ≤ kk1 := by omega
      have kq1 : kk1 ≤ 1099511627776 := by have := KBH.out; omega
      clear hW hkk1 FW BW c0 z0 y0
      have FW := F1
      have BW := BW2
      clear F1 BW2
      obtain ⟨c1, z1, y1⟩ : W1.cell? ⟨g, a * 8 + 1, none⟩ = some (.int .i64 x1) ∧ W1.frozen? ⟨g, a * 8 + 1, none⟩ = false ∧ g < W1.heap.size := by
        have h := el_cell (c := ObG.cells) (sz := 8) (fun _ => rfl) FW.out a 1 PL.out (by decide)
        try simp only [Nat.add_zero, Nat.mul_one] at h
        exact h
      have F1 : Hid (Flat (W1.setCell ⟨g, a * 8 + 1, none⟩ (.int .i64 kk1)) B ((⟨57, 8, .slice (some ⟨g, 0, none⟩) xs.length c, xs.length, (p ++ (ObG.mk kk kk1 x2 ⟨v3, l3⟩ ⟨v4, l4⟩ ⟨v5, l5⟩ ⟨v6, l6⟩ ⟨v7, l7⟩) :: q).flatMap ObG.cells⟩ : Rw) :: (ObG.rows (ObG.mk kk kk1 x2 ⟨v3, l3⟩ ⟨v4, l4⟩ ⟨v5, l5⟩ ⟨v6, l6⟩ ⟨v7, l7⟩) ++ (p.flatMap ObG.rows ++ (q.flatMap ObG.rows ++ R))))) := hid (by
        have h := el_set (c := ObG.cells) (sz := 8) (fun _ => rfl) FW.out a 1 (.int .i64 kk1) (ObG.mk kk kk1 x2 ⟨v3, l3⟩ ⟨v4, l4⟩ ⟨v5, l5⟩ ⟨v6, l6⟩ ⟨v7, l7⟩) PL.out (by decide) rfl
        try simp only [Nat.add_zero, Nat.mul_one] at h
        exact h)
      have BW2 := hid (BW.out.setCell (p := ⟨g, a * 8 + 1, none⟩) HBG.out (.int .i64 kk1))
      go_upto_region 8 with fail
      obtain ⟨W2, hW⟩ : ∃ W, W = W1.setCell ⟨g, a * 8 + 1, none⟩ (.int .i64 kk1) := ⟨_, rfl⟩
      rw [← hW] at F1 BW2 ⊢
      obtain ⟨kk2, hkk2⟩ : ∃ z, z = kk1 + 1 := ⟨_, rfl⟩
      rw [← hkk2]
      have HK2 := hid hkk2
      have kp2 : 0 ≤ kk2 := by omega
      have kq2 : kk2 ≤ 1099511627776 := by have := KBH.out; have := HK1.out; omega
      clear hW hkk2 FW BW c1 z1 y1
      have FW := F1
      have BW := BW2
      clear F1 BW2
      obtain ⟨c2, z2, y2⟩ : W2.cell? ⟨g, a * 8 + 2, none⟩ = some (.int .i64 x2) ∧ W2.frozen? ⟨g, a * 8 + 2, none⟩ = false ∧ g < W2.heap.size := by
        have h := el_cell (c := ObG.cells) (sz := 8) (fun _ => rfl) FW.out a 2 PL.out (by decide)
        try simp only [Nat.add_zero, Nat.mul_one] at h
        exact h
      have F1 : Hid (Flat (W2.setCell ⟨g, a * 8 + 2, none⟩ (.int .i64 kk2)) B ((⟨57, 8, .slice (some ⟨g, 0, none⟩) xs.length c, xs.length, (p ++ (ObG.mk kk kk1 kk2 ⟨v3, l3⟩ ⟨v4, l4⟩ ⟨v5, l5⟩ ⟨v6, l6⟩ ⟨v7, l7⟩) :: q).flatMap ObG.cells⟩ : Rw) :: (ObG.rows (ObG.mk kk kk1 kk2 ⟨v3, l3⟩ ⟨v4, l4⟩ ⟨v5, l5⟩ ⟨v6, l6⟩ ⟨v7, l7⟩) ++ (p.flatMap ObG.rows ++ (q.flatMap ObG.rows ++ R))))) := hid (by
        have h := el_set (c := ObG.cells) (sz := 8) (fun _ => rfl) FW.out a 2 (.int .i64 kk2) (ObG.mk kk kk1 kk2 ⟨v3, l3⟩ ⟨v4, l4⟩ ⟨v5, l5⟩ ⟨v6, l6⟩ ⟨v7, l7⟩) PL.out (by decide) rfl
        try simp only [Nat.add_zero, Nat.mul_one] at h
        exact h)
      have BW2 := hid (BW.out.setCell (p := ⟨g, a * 8 + 2, none⟩) HBG.out (.int .i64 kk2))
      go_upto_region 10 with fail
      obtain ⟨W3, hW⟩ : ∃ W, W = W2.setCell ⟨g, a * 8 + 2, none⟩ (.int .i64 kk2) := ⟨_, rfl⟩
      rw [← hW] at F1 BW2 ⊢
      obtain ⟨kk3, hkk3⟩ : ∃ z, z = kk2 + 1 := ⟨_, rfl⟩
      rw [← hkk3]
      have HK3 := hid hkk3
      have kp3 : 0 ≤ kk3 := by omega
      have kq3 : kk3 ≤ 1099511627776 := by have := KBH.out; have := HK1.out; have := HK2.out; omega
      clear hW hkk3 FW BW c2 z2 y2
      have FW := F1
      have BW := BW2
      clear F1 BW2
      obtain ⟨c3, z3, y3⟩ : W3.cell? ⟨g, a * 8 + 3, none⟩ = some v3 ∧ W3.frozen? ⟨g, a * 8 + 3, none⟩ = false ∧ g < W3.heap.size := by
        have h := el_cell (c := ObG.cells) (sz := 8) (fun _ => rfl) FW.out a 3 PL.out (by decide)
        try simp only [Nat.add_zero, Nat.mul_one] at h
        exact h
      have FN : Flat W3 B (RowG 3 1 intC noR v3 l3 ++ ((⟨57, 8, .slice (some ⟨g, 0, none⟩) xs.length c, xs.length, (p ++ (ObG.mk kk kk1 kk2 ⟨v3, l3⟩ ⟨v4, l4⟩ ⟨v5, l5⟩ ⟨v6, l6⟩ ⟨v7, l7⟩) :: q).flatMap ObG.cells⟩ : Rw) :: ((RowG 3 1 intC noR v4 (l4) ++ RowG 3 1 intC noR v5 (l5) ++ RowG 68 4 StG.cells StG.rows v6 (l6) ++ RowG 73 5 TrG.cells TrG.rows v7 (l7) ++ []) ++ (p.flatMap ObG.rows ++ (q.flatMap ObG.rows ++ R))))) := FW.out.perm (by refine perm_count fun f g hf => ?_; simp only [RowG, List.flatMap_append, List.flatMap_cons, SmG.cells, StG.cells, TrG.cells, ObG.cells, SmG.rows, SmsG.rows, SmsG.row, StG.rows, StsG.rows, StsG.row, TrG.rows, TrsG.rows, TrsG.row, ObG.rows, InG.row, CdG.row, TmG.row, noR_flat, itC_fl, int_fl, List.cons_append, List.append_assoc, List.nil_append, List.append_nil, mkL_len, hf.c, hf.a, hf.z]; try omega)
      have CN := hid (markInt_flat v3 l3 kk3 W3 B _ (Nat.le_trans hB BW.out.size) (by omega) (by have := KBH.out; have := HK1.out; have := HK2.out; have := HK3.out; omega) FN)
      clear FN
      go_upto_region 11 with (go_at_call 32; with_reducible refine CN.out.mono ?_; rintro e W4 ⟨rfl, hf, hb⟩; have FX := hid hf; have BX := hid hb; clear hf hb)
      have F1 : Hid (Flat W4 B ((⟨57, 8, .slice (some ⟨g, 0, none⟩) xs.length c, xs.length, (p ++ (ObG.mk kk kk1 kk2 ⟨v3, mkL intM intZ kk3 l3⟩ ⟨v4, l4⟩ ⟨v5, l5⟩ ⟨v6, l6⟩ ⟨v7, l7⟩) :: q).flatMap ObG.cells⟩ : Rw) :: (ObG.rows (ObG.mk kk kk1 kk2 ⟨v3, mkL intM intZ kk3 l3⟩ ⟨v4, l4⟩ ⟨v5, l5⟩ ⟨v6, l6⟩ ⟨v7, l7⟩) ++ (p.flatMap ObG.rows ++ (q.flatMap ObG.rows ++ R))))) := hid (FX.out.perm (by refine perm_count fun f g hf => ?_; simp only [RowG, List.flatMap_append, List.flatMap_cons, SmG.cells, StG.cells, TrG.cells, ObG.cells, SmG.rows, SmsG.rows, SmsG.row, StG.rows, StsG.rows, StsG.row, TrG.rows, TrsG.rows, TrsG.row, ObG.rows, InG.row, CdG.row, TmG.row, noR_flat, itC_fl, int_fl, List.cons_append, List.append_assoc, List.nil_append, List.append_nil, mkL_len, hf.c, hf.a, hf.z]; try omega))
      have BW2 := hid (BW.out.trans BX.out)
      obtain ⟨kk4, hkk4⟩ : ∃ z, z = kk3 + (szL intZ l3 : Int) := ⟨_, rfl⟩
      rw [← hkk4]
      have HK4 := hid hkk4
      have kp4 : 0 ≤ kk4 := by omega
      have kq4 : kk4 ≤ 1099511627776 := by have := KBH.out; have := HK1.out; have := HK2.out; have := HK3.out; omega
      clear hkk4 FW BW FX BX CN c3 z3 y3
      have FW := F1
      have BW := BW2
      clear F1 BW2
      obtain ⟨c4, z4, y4⟩ : W4.cell? ⟨g, a * 8 + 4, none⟩ = some v4 ∧ W4.frozen? ⟨g, a * 8 + 4, none⟩ = false ∧ g < W4.heap.size := by
        have h := el_cell (c := ObG.cells) (sz := 8) (fun _ => rfl) FW.out a 4 PL.out (by decide)
        try simp only [Nat.add_zero, Nat.mul_one] at h
        exact h
      have FN : Flat W4 B (RowG 3 1 intC noR v4 l4 ++ ((⟨57, 8, .slice (some ⟨g, 0, none⟩) xs.length c, xs.length, (p ++ (ObG.mk kk kk1 kk2 ⟨v3, mkL intM intZ kk3 l3⟩ ⟨v4, l4⟩ ⟨v5, l5⟩ ⟨v6, l6⟩ ⟨v7, l7⟩) :: q).flatMap ObG.cells⟩ : Rw) :: ((RowG 3 1 intC noR v3 (mkL intM intZ kk3 l3) ++ RowG 3 1 intC noR v5 (l5) ++ RowG 68 4 StG.cells StG.rows v6 (l6) ++ RowG 73 5 TrG.cells TrG.rows v7 (l7) ++ []) ++ (p.flatMap ObG.rows ++ (q.flatMap ObG.rows ++ R))))) := FW.out.perm (by refine perm_count fun f g hf => ?_; simp only [RowG, List.flatMap_append, List.flatMap_cons, SmG.cells, StG.cells, TrG.cells, ObG.cells, SmG.rows, SmsG.rows, SmsG.row, StG.rows, StsG.rows, StsG.row, TrG.rows, TrsG.rows, TrsG.row, ObG.rows, InG.row, CdG.row, TmG.row, noR_flat, itC_fl, int_fl, List.cons_append, List.append_assoc, List.nil_append, List.append_nil, mkL_len, hf.c, hf.a, hf.z]; try omega)
      have CN := hid (markInt_flat v4 l4 kk4 W4 B _ (Nat.le_trans hB BW.out.size) (by omega) (by have := KBH.out; have := HK1.out; have := HK2.out; have := HK3.out; have := HK4.out; omega) FN)
      clear FN
      go_upto_region 12 with (go_at_call 32; with_reducible refine CN.out.mono ?_; rintro e W5 ⟨rfl, hf, hb⟩; have FX := hid hf; have BX := hid hb; clear hf hb)
      have F1 : Hid (Flat W5 B ((⟨57, 8, .slice (some ⟨g, 0, none⟩) xs.length c, xs.length, (p ++ (ObG.mk kk kk1 kk2 ⟨v3, mkL intM intZ kk3 l3⟩ ⟨v4, mkL intM intZ kk4 l4⟩ ⟨v5, l5⟩ ⟨v6, l6⟩ ⟨v7, l7⟩) :: q).flatMap ObG.cells⟩ : Rw) :: (ObG.rows (ObG.mk kk kk1 kk2 ⟨v3, mkL intM intZ kk3 l3⟩ ⟨v4, mkL intM intZ kk4 l4⟩ ⟨v5, l5⟩ ⟨v6, l6⟩ ⟨v7, l7⟩) ++ (p.flatMap ObG.rows ++ (q.flatMap ObG.rows ++ R))))) := hid (FX.out.perm (by refine perm_count fun f g hf => ?_; simp only [RowG, List.flatMap_append, List.flatMap_cons, SmG.cells, StG.cells, TrG.cells, ObG.cells, SmG.rows, SmsG.rows, SmsG.row, StG.rows, StsG.rows, StsG.row, TrG.rows, TrsG.rows, TrsG.row, ObG.rows, InG.row, CdG.row, TmG.row, noR_flat, itC_fl, int_fl, List.cons_append, List.append_assoc, List.nil_append, List.append_nil, mkL_len, hf.c, hf.a, hf.z]; try omega))
      have BW2 := hid (BW.out.trans BX.out)
      obtain ⟨kk5, hkk5⟩ : ∃ z, z = kk4 + (szL intZ l4 : Int) := ⟨_, rfl⟩
      rw [← hkk5]
      have HK5 := hid hkk5
      have kp5 : 0 ≤ kk5 := by omega
      have kq5 : kk5 ≤ 1099511627776 := by have := KBH.out; have := HK1.out; have := HK2.out; have := HK3.out; have := HK4.out; omega
      clear hkk5 FW BW FX BX CN c4 z4 y4
      have FW := F1
      have BW := BW2
      clear F1 BW2
      obtain ⟨c5, z5, y5⟩ : W5.cell? ⟨g, a * 8 + 5, none⟩ = some v5 ∧ W5.frozen? ⟨g, a * 8 + 5, none⟩ = false ∧ g < W5.heap.size := by
        have h := el_cell (c := ObG.cells) (sz := 8) (fun _ => rfl) FW.out a 5 PL.out (by decide)
        try simp only [Nat.add_zero, Nat.mul_one] at h
        exact h
      have FN : Flat W5 B (RowG 3 1 intC noR v5 l5 ++ ((⟨57, 8, .slice (some ⟨g, 0, none⟩) xs.length c, xs.length, (p ++ (ObG.mk kk kk1 kk2 ⟨v3, mkL intM intZ kk3 l3⟩ ⟨v4, mkL intM intZ kk4 l4⟩ ⟨v5, l5⟩ ⟨v6, l6⟩ ⟨v7, l7⟩) :: q).flatMap ObG.cells⟩ : Rw) :: ((RowG 3 1 intC noR v3 (mkL intM intZ kk3 l3) ++ RowG 3 1 intC noR v4 (mkL intM intZ kk4 l4) ++ RowG 68 4 StG.cells StG.rows v6 (l6) ++ RowG 73 5 TrG.cells TrG.rows v7 (l7) ++ []) ++ (p.flatMap ObG.rows ++ (q.flatMap ObG.rows ++ R))))) := FW.out.perm (by refine perm_count fun f g hf => ?_; simp only [RowG, List.flatMap_append, List.flatMap_cons, SmG.cells, StG.cells, TrG.cells, ObG.cells, SmG.rows, SmsG.rows, SmsG.row, StG.rows, StsG.rows, StsG.row, TrG.rows, TrsG.rows, TrsG.row, ObG.rows, InG.row, CdG.row, TmG.row, noR_flat, itC_fl, int_fl, List.cons_append, List.append_assoc, List.nil_append, List.append_nil, mkL_len, hf.c, hf.a, hf.z]; try omega)
      have CN := hid (markInt_flat v5 l5 kk5 W5 B _ (Nat.le_trans hB BW.out.size) (by omega) (by have := KBH.out; have := HK1.out; have := HK2.out; have := HK3.out; have := HK4.out; have := HK5.out; omega) FN)
      clear FN
      go_upto_region 13 with (go_at_call 32; with_reducible refine CN.out.mono ?_; rintro e W6 ⟨rfl, hf, hb⟩; have FX := hid hf; have BX := hid hb; clear hf hb)
      have F1 : Hid (Flat W6 B ((⟨57, 8, .slice (some ⟨g, 0, none⟩) xs.length c, xs.length, (p ++ (ObG.mk kk kk1 kk2 ⟨v3, mkL intM intZ kk3 l3⟩ ⟨v4, mkL intM intZ kk4 l4⟩ ⟨v5, mkL intM intZ kk5 l5⟩ ⟨v6, l6⟩ ⟨v7, l7⟩) :: q).flatMap ObG.cells⟩ : Rw) :: (ObG.rows (ObG.mk kk kk1 kk2 ⟨v3, mkL intM intZ kk3 l3⟩ ⟨v4, mkL intM intZ kk4 l4⟩ ⟨v5, mkL intM intZ kk5 l5⟩ ⟨v6, l6⟩ ⟨v7, l7⟩) ++ (p.flatMap ObG.rows ++ (q.flatMap ObG.rows ++ R))))) := hid (FX.out.perm (by refine perm_count fun f g hf => ?_; simp only [RowG, List.flatMap_append, List.flatMap_cons, SmG.cells, StG.cells, TrG.cells, ObG.cells, SmG.rows, SmsG.rows, SmsG.row, StG.rows, StsG.rows, StsG.row, TrG.rows, TrsG.rows, TrsG.row, ObG.rows, InG.row, CdG.row, TmG.row, noR_flat, itC_fl, int_fl, List.cons_append, List.append_assoc, List.nil_append, List.append_nil, mkL_len, hf.c, hf.a, hf.z]; try omega))
      have BW2 := hid (BW.out.trans BX.out)
      obtain ⟨kk6, hkk6⟩ : ∃ z, z = kk5 + (szL intZ l5 : Int) := ⟨_, rfl⟩
      rw [← hkk6]
      have HK6 := hid hkk6
      have kp6 : 0 ≤ kk6 := by omega
      have kq6 : kk6 ≤ 1099511627776 := by have := KBH.out; have := HK1.out; have := HK2.out; have := HK3.out; have := HK4.out; have := HK5.out; omega
      clear hkk6 FW BW FX BX CN c5 z5 y5
      have FW := F1
      have BW := BW2
      clear F1 BW2
      obtain ⟨c6, z6, y6⟩ : W6.cell? ⟨g, a * 8 + 6, none⟩ = some v6 ∧ W6.frozen? ⟨g, a * 8 + 6, none⟩ = false ∧ g < W6.heap.size := by
        have h := el_cell (c := ObG.cells) (sz := 8) (fun _ => rfl) FW.out a 6 PL.out (by decide)
        try simp only [Nat.add_zero, Nat.mul_one] at h
        exact h
      have FN : Flat W6 B (RowG 68 4 StG.cells StG.rows v6 l6 ++ ((⟨57, 8, .slice (some ⟨g, 0, none⟩) xs.length c, xs.length, (p ++ (ObG.mk kk kk1 kk2 ⟨v3, mkL intM intZ kk3 l3⟩ ⟨v4, mkL intM intZ kk4 l4⟩ ⟨v5, mkL intM intZ kk5 l5⟩ ⟨v6, l6⟩ ⟨v7, l7⟩) :: q).flatMap ObG.cells⟩ : Rw) :: ((RowG 3 1 intC noR v3 (mkL intM intZ kk3 l3) ++ RowG 3 1 intC noR v4 (mkL intM intZ kk4 l4) ++ RowG 3 1 intC noR v5 (mkL intM intZ kk5 l5) ++ RowG 73 5 TrG.cells TrG.rows v7 (l7) ++ []) ++ (p.flatMap ObG.rows ++ (q.flatMap ObG.rows ++ R))))) := FW.out.perm (by refine perm_count fun f g hf => ?_; simp only [RowG, List.flatMap_append, List.flatMap_cons, SmG.cells, StG.cells, TrG.cells, ObG.cells, SmG.rows, SmsG.rows, SmsG.row, StG.rows, StsG.rows, StsG.row, TrG.rows, TrsG.rows, TrsG.row, ObG.rows, InG.row, CdG.row, TmG.row, noR_flat, itC_fl, int_fl, List.cons_append, List.append_assoc, List.nil_append, List.append_nil, mkL_len, hf.c, hf.a, hf.z]; try omega)
      have CN := hid (markState_flat v6 l6 kk6 W6 B _ (Nat.le_trans hB BW.out.size) (by omega) (by have := KBH.out; have := HK1.out; have := HK2.out; have := HK3.out; have := HK4.out; have := HK5.out; have := HK6.out; omega) FN)
      clear FN
      go_upto_region 14 with (go_at_call 33; with_reducible refine CN.out.mono ?_; rintro e W7 ⟨rfl, hf, hb⟩; have FX := hid hf; have BX := hid hb; clear hf hb)
      have F1 : Hid (Flat W7 B ((⟨57, 8, .slice (some ⟨g, 0, none⟩) xs.length c, xs.length, (p ++ (ObG.mk kk kk1 kk2 ⟨v3, mkL intM intZ kk3 l3⟩ ⟨v4, mkL intM intZ kk4 l4⟩ ⟨v5, mkL intM intZ kk5 l5⟩ ⟨v6, mkL StG.m StG.z kk6 l6⟩ ⟨v7, l7⟩) :: q).flatMap ObG.cells⟩ : Rw) :: (ObG.rows (ObG.mk kk kk1 kk2 ⟨v3, mkL intM intZ kk3 l3⟩ ⟨v4, mkL intM intZ kk4 l4⟩ ⟨v5, mkL intM intZ kk5 l5⟩ ⟨v6, mkL StG.m StG.z kk6 l6⟩ ⟨v7, l7⟩) ++ (p.flatMap ObG.rows ++ (q.flatMap ObG.rows ++ R))))) := hid (FX.out.perm (by refine perm_count fun f g hf => ?_; simp only [RowG, List.flatMap_append, List.flatMap_cons, SmG.cells, StG.cells, TrG.cells, ObG.cells, SmG.rows, SmsG.rows, SmsG.row, StG.rows, StsG.rows, StsG.row, TrG.rows, TrsG.rows, TrsG.row, ObG.rows, InG.row, CdG.row, TmG.row, noR_flat, itC_fl, int_fl, List.cons_append, List.append_assoc, List.nil_append, List.append_nil, mkL_len, hf.c, hf.a, hf.z]; try omega))
      have BW2 := hid (BW.out.trans BX.out)
      obtain ⟨kk7, hkk7⟩ : ∃ z, z = kk6 + (szL StG.z l6 : Int) := ⟨_, rfl⟩
      rw [← hkk7]
      have HK7 := hid hkk7
      have kp7 : 0 ≤ kk7 := by omega
      have kq7 : kk7 ≤ 1099511627776 := by have := KBH.out; have := HK1.out; have := HK2.out; have := HK3.out; have := HK4.out; have := HK5.out; have := HK6.out; omega
      clear hkk7 FW BW FX BX CN c6 z6 y6
      have FW := F1
      have BW := BW2
      clear F1 BW2
      obtain ⟨c7, z7, y7⟩ : W7.cell? ⟨g, a * 8 + 7, none⟩ = some v7 ∧ W7.frozen? ⟨g, a * 8 + 7, none⟩ = false ∧ g < W7.heap.size := by
        have h := el_cell (c := ObG.cells) (sz := 8) (fun _ => rfl) FW.out a 7 PL.out (by decide)
        try simp only [Nat.add_zero, Nat.mul_one] at h
        exact h
      have FN : Flat W7 B (RowG 73 5 TrG.cells TrG.rows v7 l7 ++ ((⟨57, 8, .slice (some ⟨g, 0, none⟩) xs.length c, xs.length, (p ++ (ObG.mk kk kk1 kk2 ⟨v3, mkL intM intZ kk3 l3⟩ ⟨v4, mkL intM intZ kk4 l4⟩ ⟨v5, mkL intM intZ kk5 l5⟩ ⟨v6, mkL StG.m StG.z kk6 l6⟩ ⟨v7, l7⟩) :: q).flatMap ObG.cells⟩ : Rw) :: ((RowG 3 1 intC noR v3 (mkL intM intZ kk3 l3) ++ RowG 3 1 intC noR v4 (mkL intM intZ kk4 l4) ++ RowG 3 1 intC noR v5 (mkL intM intZ kk5 l5) ++ RowG 68 4 StG.cells StG.rows v6 (mkL StG.m StG.z kk6 l6) ++ []) ++ (p.flatMap ObG.rows ++ (q.flatMap ObG.rows ++ R))))) := FW.out.perm (by refine perm_count fun f g hf => ?_; simp only [RowG, List.flatMap_append, List.flatMap_cons, SmG.cells, StG.cells, TrG.cells, ObG.cells, SmG.rows, SmsG.rows, SmsG.row, StG.rows, StsG.rows, StsG.row, TrG.rows, TrsG.rows, TrsG.row, ObG.rows, InG.row, CdG.row, TmG.row, noR_flat, itC_fl, int_fl, List.cons_append, List.append_assoc, List.nil_append, List.append_nil, mkL_len, hf.c, hf.a, hf.z]; try omega)
      have CN := hid (markTrans_flat v7 l7 kk7 W7 B _ (Nat.le_trans hB BW.out.size) (by omega) (by have := KBH.out; have := HK1.out; have := HK2.out; have := HK3.out; have := HK4.out; have := HK5.out; have := HK6.out; have := HK7.out; omega) FN)
      clear FN
      go_upto_region 3 with (go_at_call 34; with_reducible refine CN.out.mono ?_; rintro e W8 ⟨rfl, hf, hb⟩; have FX := hid hf; have BX := hid hb; clear hf hb)
      have F1 : Hid (Flat W8 B ((⟨57, 8, .slice (some ⟨g, 0, none⟩) xs.length c, xs.length, (p ++ (ObG.mk kk kk1 kk2 ⟨v3, mkL intM intZ kk3 l3⟩ ⟨v4, mkL intM intZ kk4 l4⟩ ⟨v5, mkL intM intZ kk5 l5⟩ ⟨v6, mkL StG.m StG.z kk6 l6⟩ ⟨v7, mkL TrG.m TrG.z kk7 l7⟩) :: q).flatMap ObG.cells⟩ : Rw) :: (ObG.rows (ObG.mk kk kk1 kk2 ⟨v3, mkL intM intZ kk3 l3⟩ ⟨v4, mkL intM intZ kk4 l4⟩ ⟨v5, mkL intM intZ kk5 l5⟩ ⟨v6, mkL StG.m StG.z kk6 l6⟩ ⟨v7, mkL TrG.m TrG.z kk7 l7⟩) ++ (p.flatMap ObG.rows ++ (q.flatMap ObG.rows ++ R))))) := hid (FX.out.perm (by refine perm_count fun f g hf => ?_; simp only [RowG, List.flatMap_append, List.flatMap_cons, SmG.cells, StG.cells, TrG.cells, ObG.cells, SmG.rows, SmsG.rows, SmsG.row, StG.rows, StsG.rows, StsG.row, TrG.rows, TrsG.rows, TrsG.row, ObG.rows, InG.row, CdG.row, TmG.row, noR_flat, itC_fl, int_fl, List.cons_append, List.append_assoc, List.nil_append, List.append_nil, mkL_len, hf.c, hf.a, hf.z]; try omega))
      have BW2 := hid (BW.out.trans BX.out)
      obtain ⟨kk8, hkk8⟩ : ∃ z, z = kk7 + (szL TrG.z l7 : Int) := ⟨_, rfl⟩
      rw [← hkk8]
      have HK8 := hid hkk8
      have kp8 : 0 ≤ kk8 := by omega
      have kq8 : kk8 ≤ 1099511627776 := by have := KBH.out; have := HK1.out; have := HK2.out; have := HK3.out; have := HK4.out; have := HK5.out; have := HK6.out; have := HK7.out; omega
      clear hkk8 FW BW FX BX CN c7 z7 y7
      have FW := F1
      have BW := BW2
      clear F1 BW2
      go_wp2
      go_roundw
      case rel =>
        have hk := HK.out
        have hk1 := HK1.out
        have hk2 := HK2.out
        have hk3 := HK3.out
        have hk4 := HK4.out
        have hk5 := HK5.out
        have hk6 := HK6.out
        have hk7 := HK7.out
        have hk8 := HK8.out
        have EM : (ObG.mk kk kk1 kk2 ⟨v3, mkL intM intZ kk3 l3⟩ ⟨v4, mkL intM intZ kk4 l4⟩ ⟨v5, mkL intM intZ kk5 l5⟩ ⟨v6, mkL StG.m StG.z kk6 l6⟩ ⟨v7, mkL TrG.m TrG.z kk7 l7⟩) = ObG.m (ObG.mk x0 x1 x2 ⟨v3, l3⟩ ⟨v4, l4⟩ ⟨v5, l5⟩ ⟨v6, l6⟩ ⟨v7, l7⟩) kk := by
          unfold ObG.m
          subst hk1 hk2 hk3 hk4 hk5 hk6 hk7 hk8
          rfl
        refine ⟨a + 1, by omega, by go_num, ?_, hid ?_, BW⟩
        · rw [HT.out, szL_app]
          have zz := ZZ
          simp only [szL, Nat.add_zero]
          congr 1
          omega
        · rw [HT.out, mkL_app, ← HP.out, ← HQ.out, ← hk, mkL, mkL, ← EM, List.append_assoc, List.singleton_append]
          exact rowg_back FW.out (by rw [HQ.out, List.length_append, List.length_cons, List.length_drop, PL.out]; omega)
      case measure => simp [intOf]; omega
    · have ek : a = xs.length := by omega
      subst ek
      rw [List.take_length, List.drop_length, List.append_nil] at HW
      rw [List.take_length]
      go_wp2
      go_ret
      exact ⟨rfl, HW.out, HB.out⟩
end Go.Proofs.YtbcjlpjohknljaaGreatDoor
