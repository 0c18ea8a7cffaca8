import Derived.Test.YtbcjlpjohknljaaGreatDoorMd
import Derived.Test.YtbcjlpjohknljaaGreatDoorMk6
import Derived.Test.YtbcjlpjohknljaaGreatDoorLa
namespace Go.Proofs.YtbcjlpjohknljaaGreatDoor
open Go.RowKit Go.Sort
set_option linter.unusedVariables false
set_option linter.unusedSimpArgs false
attribute [local go_sem ↓] Go.wp_at_zero Go.wp_at_succ

set_option maxRecDepth 100000 in
set_option maxHeartbeats 3200000 in
theorem heldObject_flat (v : Value) (xs : List ObG) (k : Int) (w : World) (B : Nat) (R : List Rw) (h0 : 0 ≤ k) (h1 : k + szL ObG.z xs ≤ 1099511627776) (h : Flat w B (RowG 57 8 ObG.cells ObG.rows v (mkL ObG.m ObG.z k xs) ++ R)) :
    Calls Tryz.prog 17 #[v, .int .i64 k] w fun e w' => e = .returned (.int .i64 (k + szL ObG.z xs)) ∧ w' = w := by
  obtain ⟨ao, c, hv, hle, _⟩ := row_read ObG.cells 8 (fun _ => rfl) (h.own (⟨57, 8, v, (mkL ObG.m ObG.z k xs).length, (mkL ObG.m ObG.z k xs).flatMap ObG.cells⟩ : Rw) (by simp [RowG]))
  rw [mkL_len] at hv hle
  subst hv
  have HF := hid h
  clear h
  go_enter Tryz.func17, Tryz.ntmps17
  go_wp2
  go_loopw [1, 5] (fun kv i wr => ∃ a : Nat, a ≤ xs.length ∧ i = .int .i64 a ∧ kv = .int .i64 (k + szL ObG.z (xs.take a)) ∧ Hid (wr = w)) (fun _ i _ => xs.length - (intOf i).toNat)
  case atStart => exact ⟨0, Nat.zero_le _, rfl, by simp [szL], hid rfl⟩
  case round =>
    obtain ⟨a, ha, rfl, rfl, hw⟩ := hrel
    obtain rfl := hw.out.symm
    clear hw
    by_cases hlt : a < xs.length
    · have an : (a : Int) < (xs.length : Int) := by omega
      obtain ⟨x, hx⟩ : ∃ x, xs[a]? = some x := ⟨_, List.getElem?_eq_getElem hlt⟩
      obtain ⟨tk, dp⟩ := take_one hx
      have ZT := szL_take (z := ObG.z) xs a
      rw [dp, szL] at ZT
      have HT := hid tk
      have SPL : xs = xs.take a ++ x :: xs.drop (a + 1) := by rw [← dp, List.take_append_drop]
      have MX : mkL ObG.m ObG.z k xs = mkL ObG.m ObG.z k (xs.take a) ++ ObG.m x (k + szL ObG.z (xs.take a)) :: mkL ObG.m ObG.z (k + szL ObG.z (xs.take a) + ObG.z x) (xs.drop (a + 1)) := (congrArg (mkL ObG.m ObG.z k) SPL).trans (mkL_app _ _ _)
      obtain ⟨kk, hkk⟩ : ∃ kk, kk = k + (szL ObG.z (xs.take a) : Int) := ⟨_, rfl⟩
      rw [← hkk] at MX
      obtain ⟨p, hp⟩ : ∃ p, p = mkL ObG.m ObG.z k (xs.take a) := ⟨_, rfl⟩
      have pl : p.length = a := by rw [hp, mkL_len, List.length_take]; omega
      obtain ⟨q, hq⟩ : ∃ q, q = mkL ObG.m ObG.z (kk + ObG.z x) (xs.drop (a + 1)) := ⟨_, rfl⟩
      rw [← hp, ← hq] at MX
      have LN : (p ++ ObG.m x kk :: q).length = xs.length := by rw [← MX, mkL_len]
      have FH := HF.out
      rw [MX] at FH
      have F0 := FH.perm (rowg_mid _ _ _ _ _ p (ObG.m x kk) q R)
      rw [LN] at F0
      obtain ⟨g, cap0, hv0, hc0, hm0, hg0, hgl0⟩ := row_has F0.head (by show 0 < xs.length; omega)
      simp only [Value.slice.injEq] at hv0
      obtain ⟨rfl, _, hcc⟩ := hv0
      subst hcc
      have KB : 0 ≤ kk ∧ kk + (ObG.z x : Int) ≤ 1099511627776 := by omega
      have HK := hid hkk
      rw [← hkk]
      have PL := hid pl
      clear dp hkk hp hq LN tk ZT hx hgl0 hm0 hc0 MX SPL FH
      obtain ⟨x0, x1, x2, ⟨v3, l3⟩, ⟨v4, l4⟩, ⟨v5, l5⟩, ⟨v6, l6⟩, ⟨v7, l7⟩⟩ := x
      have ZZ : ((ObG.z (ObG.mk x0 x1 x2 ⟨v3, l3⟩ ⟨v4, l4⟩ ⟨v5, l5⟩ ⟨v6, l6⟩ ⟨v7, l7⟩) : Nat) : Int) = 3 + (szL intZ l3 : Int) + (szL intZ l4 : Int) + (szL intZ l5 : Int) + (szL StG.z l6 : Int) + (szL TrG.z l7 : Int) := by simp [ObG.z]; try omega
      rw [ZZ] at KB
      have k0 : 0 ≤ kk := KB.1
      have k1 : kk ≤ 1099511627776 := by omega
      obtain ⟨kk1, hkk1⟩ : ∃ z, z = kk + 1 := ⟨_, rfl⟩
      obtain ⟨kk2, hkk2⟩ : ∃ z, z = kk1 + 1 := ⟨_, rfl⟩
      obtain ⟨kk3, hkk3⟩ : ∃ z, z = kk2 + 1 := ⟨_, rfl⟩
      obtain ⟨kk4, hkk4⟩ : ∃ z, z = kk3 + (szL intZ l3 : Int) := ⟨_, rfl⟩
      obtain ⟨kk5, hkk5⟩ : ∃ z, z = kk4 + (szL intZ l4 : Int) := ⟨_, rfl⟩
      obtain ⟨kk6, hkk6⟩ : ∃ z, z = kk5 + (szL intZ l5 : Int) := ⟨_, rfl⟩
      obtain ⟨kk7, hkk7⟩ : ∃ z, z = kk6 + (szL StG.z l6 : Int) := ⟨_, rfl⟩
      obtain ⟨kk8, hkk8⟩ : ∃ z, z = kk7 + (szL TrG.z l7 : Int) := ⟨_, rfl⟩
      have kp1 : 0 ≤ kk1 := by omega
      have kq1 : kk1 ≤ 1099511627776 := by omega
      have kp2 : 0 ≤ kk2 := by omega
      have kq2 : kk2 ≤ 1099511627776 := by omega
      have kp3 : 0 ≤ kk3 := by omega
      have kq3 : kk3 ≤ 1099511627776 := by omega
      have kp4 : 0 ≤ kk4 := by omega
      have kq4 : kk4 ≤ 1099511627776 := by omega
      have kp5 : 0 ≤ kk5 := by omega
      have kq5 : kk5 ≤ 1099511627776 := by omega
      have kp6 : 0 ≤ kk6 := by omega
      have kq6 : kk6 ≤ 1099511627776 := by omega
      have kp7 : 0 ≤ kk7 := by omega
      have kq7 : kk7 ≤ 1099511627776 := by omega
      have kp8 : 0 ≤ kk8 := by omega
      have kq8 : kk8 ≤ 1099511627776 := by omega
      have EM : ObG.m (ObG.mk x0 x1 x2 ⟨v3, l3⟩ ⟨v4, l4⟩ ⟨v5, l5⟩ ⟨v6, l6⟩ ⟨v7, l7⟩) kk = (ObG.mk kk kk1 kk2 ⟨v3, mkL intM intZ kk3 l3⟩ ⟨v4, mkL intM intZ kk4 l4⟩ ⟨v5, mkL intM intZ kk5 l5⟩ ⟨v6, mkL StG.m StG.z kk6 l6⟩ ⟨v7, mkL TrG.m TrG.z kk7 l7⟩) := by
        unfold ObG.m
        subst hkk1 hkk2 hkk3 hkk4 hkk5 hkk6 hkk7 hkk8
        rfl
      rw [EM] at F0
      have FW : Hid (Flat w B ((⟨57, 8, .slice (some ⟨g, 0, none⟩) xs.length c, xs.length, (p ++ (ObG.mk kk kk1 kk2 ⟨v3, mkL intM intZ kk3 l3⟩ ⟨v4, mkL intM intZ kk4 l4⟩ ⟨v5, mkL intM intZ kk5 l5⟩ ⟨v6, mkL StG.m StG.z kk6 l6⟩ ⟨v7, mkL TrG.m TrG.z kk7 l7⟩) :: q).flatMap ObG.cells⟩ : Rw) :: (ObG.rows (ObG.mk kk kk1 kk2 ⟨v3, mkL intM intZ kk3 l3⟩ ⟨v4, mkL intM intZ kk4 l4⟩ ⟨v5, mkL intM intZ kk5 l5⟩ ⟨v6, mkL StG.m StG.z kk6 l6⟩ ⟨v7, mkL TrG.m TrG.z kk7 l7⟩) ++ (p.flatMap ObG.rows ++ (q.flatMap ObG.rows ++ R))))) := hid F0
      have HK1 := hid hkk1
      have HK2 := hid hkk2
      have HK3 := hid hkk3
      have HK4 := hid hkk4
      have HK5 := hid hkk5
      have HK6 := hid hkk6
      have HK7 := hid hkk7
      have HK8 := hid hkk8
      have KBH := hid KB
      clear F0 EM KB hkk1 hkk2 hkk3 hkk4 hkk5 hkk6 hkk7 hkk8
      obtain ⟨c0, z0, y0⟩ : w.cell? ⟨g, a * 8, none⟩ = some (.int .i64 kk) ∧ w.frozen? ⟨g, a * 8, none⟩ = false ∧ g < w.heap.size := by
        have h := el_cell (c := ObG.cells) (sz := 8) (fun _ => rfl) FW.out a 0 PL.out (by decide)
        try simp only [Nat.add_zero, Nat.mul_one] at h
        exact h
      go_upto_region 7 with fail
      rw [← HK1.out]
      clear c0 z0 y0
      obtain ⟨c1, z1, y1⟩ : w.cell? ⟨g, a * 8 + 1, none⟩ = some (.int .i64 kk1) ∧ w.frozen? ⟨g, a * 8 + 1, none⟩ = false ∧ g < w.heap.size := by
        have h := el_cell (c := ObG.cells) (sz := 8) (fun _ => rfl) FW.out a 1 PL.out (by decide)
        try simp only [Nat.add_zero, Nat.mul_one] at h
        exact h
      go_upto_region 10 with fail
      rw [← HK2.out]
      clear c1 z1 y1
      obtain ⟨c2, z2, y2⟩ : w.cell? ⟨g, a * 8 + 2, none⟩ = some (.int .i64 kk2) ∧ w.frozen? ⟨g, a * 8 + 2, none⟩ = false ∧ g < w.heap.size := by
        have h := el_cell (c := ObG.cells) (sz := 8) (fun _ => rfl) FW.out a 2 PL.out (by decide)
        try simp only [Nat.add_zero, Nat.mul_one] at h
        exact h
      go_upto_region 13 with fail
      rw [← HK3.out]
      clear c2 z2 y2
      obtain ⟨c3, z3, y3⟩ : w.cell? ⟨g, a * 8 + 3, none⟩ = some v3 ∧ w.frozen? ⟨g, a * 8 + 3, none⟩ = false ∧ g < w.heap.size := by
        have h := el_cell (c := ObG.cells) (sz := 8) (fun _ => rfl) FW.out a 3 PL.out (by decide)
        try simp only [Nat.add_zero, Nat.mul_one] at h
        exact h
      have FN : Flat w B (RowG 3 1 intC noR v3 (mkL intM intZ kk3 l3) ++ ((⟨57, 8, .slice (some ⟨g, 0, none⟩) xs.length c, xs.length, (p ++ (ObG.mk kk kk1 kk2 ⟨v3, mkL intM intZ kk3 l3⟩ ⟨v4, mkL intM intZ kk4 l4⟩ ⟨v5, mkL intM intZ kk5 l5⟩ ⟨v6, mkL StG.m StG.z kk6 l6⟩ ⟨v7, mkL TrG.m TrG.z kk7 l7⟩) :: q).flatMap ObG.cells⟩ : Rw) :: ((RowG 3 1 intC noR v4 (mkL intM intZ kk4 l4) ++ RowG 3 1 intC noR v5 (mkL intM intZ kk5 l5) ++ RowG 68 4 StG.cells StG.rows v6 (mkL StG.m StG.z kk6 l6) ++ RowG 73 5 TrG.cells TrG.rows v7 (mkL TrG.m TrG.z kk7 l7) ++ []) ++ (p.flatMap ObG.rows ++ (q.flatMap ObG.rows ++ R))))) := FW.out.perm (by refine perm_count fun f g hf => ?_; simp only [RowG, List.flatMap_append, List.flatMap_cons, SmG.cells, StG.cells, TrG.cells, ObG.cells, SmG.rows, SmsG.rows, SmsG.row, StG.rows, StsG.rows, StsG.row, TrG.rows, TrsG.rows, TrsG.row, ObG.rows, InG.row, CdG.row, TmG.row, noR_flat, itC_fl, int_fl, List.cons_append, List.append_assoc, List.nil_append, List.append_nil, mkL_len, hf.c, hf.a, hf.z]; try omega)
      have CN := hid (heldInt_flat v3 l3 kk3 w B _ (by omega) (by have := HK4.out; omega) FN)
      rw [← HK4.out] at CN
      clear FN
      go_upto_region 16 with (go_at_call 35; with_reducible refine CN.out.mono ?_; rintro e W9 ⟨rfl, hw9⟩; obtain rfl := hw9.symm)
      clear CN c3 z3 y3
      obtain ⟨c4, z4, y4⟩ : w.cell? ⟨g, a * 8 + 4, none⟩ = some v4 ∧ w.frozen? ⟨g, a * 8 + 4, none⟩ = false ∧ g < w.heap.size := by
        have h := el_cell (c := ObG.cells) (sz := 8) (fun _ => rfl) FW.out a 4 PL.out (by decide)
        try simp only [Nat.add_zero, Nat.mul_one] at h
        exact h
      have FN : Flat w B (RowG 3 1 intC noR v4 (mkL intM intZ kk4 l4) ++ ((⟨57, 8, .slice (some ⟨g, 0, none⟩) xs.length c, xs.length, (p ++ (ObG.mk kk kk1 kk2 ⟨v3, mkL intM intZ kk3 l3⟩ ⟨v4, mkL intM intZ kk4 l4⟩ ⟨v5, mkL intM intZ kk5 l5⟩ ⟨v6, mkL StG.m StG.z kk6 l6⟩ ⟨v7, mkL TrG.m TrG.z kk7 l7⟩) :: q).flatMap ObG.cells⟩ : Rw) :: ((RowG 3 1 intC noR v3 (mkL intM intZ kk3 l3) ++ RowG 3 1 intC noR v5 (mkL intM intZ kk5 l5) ++ RowG 68 4 StG.cells StG.rows v6 (mkL StG.m StG.z kk6 l6) ++ RowG 73 5 TrG.cells TrG.rows v7 (mkL TrG.m TrG.z kk7 l7) ++ []) ++ (p.flatMap ObG.rows ++ (q.flatMap ObG.rows ++ R))))) := FW.out.perm (by refine perm_count fun f g hf => ?_; simp only [RowG, List.flatMap_append, List.flatMap_cons, SmG.cells, StG.cells, TrG.cells, ObG.cells, SmG.rows, SmsG.rows, SmsG.row, StG.rows, StsG.rows, StsG.row, TrG.rows, TrsG.rows, TrsG.row, ObG.rows, InG.row, CdG.row, TmG.row, noR_flat, itC_fl, int_fl, List.cons_append, List.append_assoc, List.nil_append, List.append_nil, mkL_len, hf.c, hf.a, hf.z]; try omega)
      have CN := hid (heldInt_flat v4 l4 kk4 w B _ (by omega) (by have := HK5.out; omega) FN)
      rw [← HK5.out] at CN
      clear FN
      go_upto_region 19 with (go_at_call 35; with_reducible refine CN.out.mono ?_; rintro e W9 ⟨rfl, hw9⟩; obtain rfl := hw9.symm)
      clear CN c4 z4 y4
      obtain ⟨c5, z5, y5⟩ : w.cell? ⟨g, a * 8 + 5, none⟩ = some v5 ∧ w.frozen? ⟨g, a * 8 + 5, none⟩ = false ∧ g < w.heap.size := by
        have h := el_cell (c := ObG.cells) (sz := 8) (fun _ => rfl) FW.out a 5 PL.out (by decide)
        try simp only [Nat.add_zero, Nat.mul_one] at h
        exact h
      have FN : Flat w B (RowG 3 1 intC noR v5 (mkL intM intZ kk5 l5) ++ ((⟨57, 8, .slice (some ⟨g, 0, none⟩) xs.length c, xs.length, (p ++ (ObG.mk kk kk1 kk2 ⟨v3, mkL intM intZ kk3 l3⟩ ⟨v4, mkL intM intZ kk4 l4⟩ ⟨v5, mkL intM intZ kk5 l5⟩ ⟨v6, mkL StG.m StG.z kk6 l6⟩ ⟨v7, mkL TrG.m TrG.z kk7 l7⟩) :: q).flatMap ObG.cells⟩ : Rw) :: ((RowG 3 1 intC noR v3 (mkL intM intZ kk3 l3) ++ RowG 3 1 intC noR v4 (mkL intM intZ kk4 l4) ++ RowG 68 4 StG.cells StG.rows v6 (mkL StG.m StG.z kk6 l6) ++ RowG 73 5 TrG.cells TrG.rows v7 (mkL TrG.m TrG.z kk7 l7) ++ []) ++ (p.flatMap ObG.rows ++ (q.flatMap ObG.rows ++ R))))) := FW.out.perm (by refine perm_count fun f g hf => ?_; simp only [RowG, List.flatMap_append, List.flatMap_cons, SmG.cells, StG.cells, TrG.cells, ObG.cells, SmG.rows, SmsG.rows, SmsG.row, StG.rows, StsG.rows, StsG.row, TrG.rows, TrsG.rows, TrsG.row, ObG.rows, InG.row, CdG.row, TmG.row, noR_flat, itC_fl, int_fl, List.cons_append, List.append_assoc, List.nil_append, List.append_nil, mkL_len, hf.c, hf.a, hf.z]; try omega)
      have CN := hid (heldInt_flat v5 l5 kk5 w B _ (by omega) (by have := HK6.out; omega) FN)
      rw [← HK6.out] at CN
      clear FN
      go_upto_region 22 with (go_at_call 35; with_reducible refine CN.out.mono ?_; rintro e W9 ⟨rfl, hw9⟩; obtain rfl := hw9.symm)
      clear CN c5 z5 y5
      obtain ⟨c6, z6, y6⟩ : w.cell? ⟨g, a * 8 + 6, none⟩ = some v6 ∧ w.frozen? ⟨g, a * 8 + 6, none⟩ = false ∧ g < w.heap.size := by
        have h := el_cell (c := ObG.cells) (sz := 8) (fun _ => rfl) FW.out a 6 PL.out (by decide)
        try simp only [Nat.add_zero, Nat.mul_one] at h
        exact h
      have FN : Flat w B (RowG 68 4 StG.cells StG.rows v6 (mkL StG.m StG.z kk6 l6) ++ ((⟨57, 8, .slice (some ⟨g, 0, none⟩) xs.length c, xs.length, (p ++ (ObG.mk kk kk1 kk2 ⟨v3, mkL intM intZ kk3 l3⟩ ⟨v4, mkL intM intZ kk4 l4⟩ ⟨v5, mkL intM intZ kk5 l5⟩ ⟨v6, mkL StG.m StG.z kk6 l6⟩ ⟨v7, mkL TrG.m TrG.z kk7 l7⟩) :: q).flatMap ObG.cells⟩ : Rw) :: ((RowG 3 1 intC noR v3 (mkL intM intZ kk3 l3) ++ RowG 3 1 intC noR v4 (mkL intM intZ kk4 l4) ++ RowG 3 1 intC noR v5 (mkL intM intZ kk5 l5) ++ RowG 73 5 TrG.cells TrG.rows v7 (mkL TrG.m TrG.z kk7 l7) ++ []) ++ (p.flatMap ObG.rows ++ (q.flatMap ObG.rows ++ R))))) := FW.out.perm (by refine perm_count fun f g hf => ?_; simp only [RowG, List.flatMap_append, List.flatMap_cons, SmG.cells, StG.cells, TrG.cells, ObG.cells, SmG.rows, SmsG.rows, SmsG.row, StG.rows, StsG.rows, StsG.row, TrG.rows, TrsG.rows, TrsG.row, ObG.rows, InG.row, CdG.row, TmG.row, noR_flat, itC_fl, int_fl, List.cons_append, List.append_assoc, List.nil_append, List.append_nil, mkL_len, hf.c, hf.a, hf.z]; try omega)
      have CN := hid (heldState_flat v6 l6 kk6 w B _ (by omega) (by have := HK7.out; omega) FN)
      rw [← HK7.out] at CN
      clear FN
      go_upto_region 25 with (go_at_call 36; with_reducible refine CN.out.mono ?_; rintro e W9 ⟨rfl, hw9⟩; obtain rfl := hw9.symm)
      clear CN c6 z6 y6
      obtain ⟨c7, z7, y7⟩ : w.cell? ⟨g, a * 8 + 7, none⟩ = some v7 ∧ w.frozen? ⟨g, a * 8 + 7, none⟩ = false ∧ g < w.heap.size := by
        have h := el_cell (c := ObG.cells) (sz := 8) (fun _ => rfl) FW.out a 7 PL.out (by decide)
        try simp only [Nat.add_zero, Nat.mul_one] at h
        exact h
      have FN : Flat w B (RowG 73 5 TrG.cells TrG.rows v7 (mkL TrG.m TrG.z kk7 l7) ++ ((⟨57, 8, .slice (some ⟨g, 0, none⟩) xs.length c, xs.length, (p ++ (ObG.mk kk kk1 kk2 ⟨v3, mkL intM intZ kk3 l3⟩ ⟨v4, mkL intM intZ kk4 l4⟩ ⟨v5, mkL intM intZ kk5 l5⟩ ⟨v6, mkL StG.m StG.z kk6 l6⟩ ⟨v7, mkL TrG.m TrG.z kk7 l7⟩) :: q).flatMap ObG.cells⟩ : Rw) :: ((RowG 3 1 intC noR v3 (mkL intM intZ kk3 l3) ++ RowG 3 1 intC noR v4 (mkL intM intZ kk4 l4) ++ RowG 3 1 intC noR v5 (mkL intM intZ kk5 l5) ++ RowG 68 4 StG.cells StG.rows v6 (mkL StG.m StG.z kk6 l6) ++ []) ++ (p.flatMap ObG.rows ++ (q.flatMap ObG.rows ++ R))))) := FW.out.perm (by refine perm_count fun f g hf => ?_; simp only [RowG, List.flatMap_append, List.flatMap_cons, SmG.cells, StG.cells, TrG.cells, ObG.cells, SmG.rows, SmsG.rows, SmsG.row, StG.rows, StsG.rows, StsG.row, TrG.rows, TrsG.rows, TrsG.row, ObG.rows, InG.row, CdG.row, TmG.row, noR_flat, itC_fl, int_fl, List.cons_append, List.append_assoc, List.nil_append, List.append_nil, mkL_len, hf.c, hf.a, hf.z]; try omega)
      have CN := hid (heldTrans_flat v7 l7 kk7 w B _ (by omega) (by have := HK8.out; omega) FN)
      rw [← HK8.out] at CN
      clear FN
      go_upto_region 3 with (go_at_call 37; with_reducible refine CN.out.mono ?_; rintro e W9 ⟨rfl, hw9⟩; obtain rfl := hw9.symm)
      clear CN c7 z7 y7
      go_wp2
      go_roundw
      case rel =>
        have hk := HK.out
        have hk1 := HK1.out
        have hk2 := HK2.out
        have hk3 := HK3.out
        have hk4 := HK4.out
        have hk5 := HK5.out
        have hk6 := HK6.out
        have hk7 := HK7.out
        have hk8 := HK8.out
        refine ⟨a + 1, by omega, by go_num, ?_, hid (by first | rfl | trivial)⟩
        rw [HT.out, szL_app]
        have zz := ZZ
        simp only [szL, Nat.add_zero]
        congr 1
        omega
      case measure => simp [intOf]; omega
    · have ek : a = xs.length := by omega
      subst ek
      rw [List.take_length]
      go_wp2
      go_ret
      exact ⟨rfl, rfl⟩
end Go.Proofs.YtbcjlpjohknljaaGreatDoor
namespace Go.Proofs.YtbcjlpjohknljaaGreatDoor
open Go.RowKit Go.Sort
set_option linter.unusedVariables false
set_option linter.unusedSimpArgs false
attribute [local go_sem ↓] Go.wp_at_zero Go.wp_at_succ

theorem sy_rowg (sg : Int) (ov : Value) (os : List ObG) (tv : Value) (ts : List (Int × Int)) (r : Rw) (R : List Rw) : (r :: ((SyG.mk sg ⟨ov, os⟩ ⟨tv, ts⟩).rows ++ R)).Perm (RowG 57 8 ObG.cells ObG.rows ov os ++ (RowG 59 2 parC noR tv ts ++ (r :: R))) := by
  refine perm_count fun f g hf => ?_
  simp only [SyG.rows, ObsG.rows, ObsG.row, TmG.row, RowG, noR_flat, itC_fl, List.cons_append, List.nil_append, List.append_assoc, hf.c, hf.a, hf.z]
  try omega
theorem sy_rowg2 (ov : Value) (os : List ObG) (tv : Value) (ts : List (Int × Int)) (R : List Rw) : (RowG 57 8 ObG.cells ObG.rows ov os ++ (RowG 59 2 parC noR tv ts ++ R)).Perm (RowG 59 2 parC noR tv ts ++ (RowG 57 8 ObG.cells ObG.rows ov os ++ R)) := by
  refine perm_count fun f g hf => ?_
  simp only [hf.a]
  omega

set_option maxRecDepth 100000 in
set_option maxHeartbeats 1600000 in
theorem markSystem_flat (G : SyG) (k : Int) (w : World) (B : Nat) (R : List Rw) (hB : B ≤ w.heap.size) (h0 : 0 ≤ k) (h1 : k + G.z ≤ 1099511627776) (h : Flat w B (G.rows ++ R)) :
    Calls Tryz.prog 7 #[G.val, .int .i64 k] w fun e w' => e = .returned (.int .i64 (k + G.z)) ∧ Flat w' B ((G.m k).rows ++ R) ∧ Below B w w' := by
  obtain ⟨eo, ec, xo, xc, hev, hxv⟩ := SyG.form h
  obtain ⟨sg, ⟨ov, os⟩, ⟨tv, ts⟩⟩ := G
  simp only at hev hxv
  subst hev hxv
  have ZZ : ((SyG.z (SyG.mk sg ⟨.slice eo os.length ec, os⟩ ⟨.slice xo ts.length xc, ts⟩) : Nat) : Int) = (szL ObG.z os : Int) + (szL parZ ts : Int) := by simp [SyG.z]
  rw [ZZ] at h1 ⊢
  obtain ⟨W0, hW0⟩ : ∃ W, W = w.alloc (.cells #[.int .i64 sg, .slice eo os.length ec, .slice xo ts.length xc] 25) := ⟨_, rfl⟩
  have F0 : Flat W0 B (sysB w.heap.size (.int .i64 sg) (.slice eo os.length ec) (.slice xo ts.length xc) :: ((SyG.mk sg ⟨.slice eo os.length ec, os⟩ ⟨.slice xo ts.length xc, ts⟩).rows ++ R)) := by rw [hW0]; exact h.box hB 25 [.int .i64 sg, .slice eo os.length ec, .slice xo ts.length xc]
  have BW : Below w.heap.size w W0 := by rw [hW0]; exact below1 _ _
  have F1 := F0.perm (sy_rowg _ _ _ _ _ _ _)
  have C1 := hid (markObject_flat _ os k W0 B _ (Nat.le_trans hB BW.size) h0 (by omega) F1)
  have BH := hid (BW.mono hB)
  have SB := hid (Nat.le_trans hB BW.size)
  have HW0 := hid hW0
  obtain ⟨⟨b0, b1, b2⟩, z0, z1, z2, bl0⟩ := three_cc (F0.mem_box (t := 25) (H := w.heap.size) (xs := [.int .i64 sg, .slice eo os.length ec, .slice xo ts.length xc]) (by simp))
  obtain ⟨k1, hk1⟩ : ∃ k1, k1 = k + (szL ObG.z os : Int) := ⟨_, rfl⟩
  rw [← hk1] at C1
  have HK1 := hid hk1
  have kp : 0 ≤ k1 := by omega
  have kq : k1 + (szL parZ ts : Int) ≤ 1099511627776 := by omega
  clear h F0 F1 BW hW0 hk1
  simp only [SyG.val]
  go_enter Tryz.func7, Tryz.ntmps7
  go_upto_region 1 with fail
  rw [← HW0.out]
  obtain ⟨H, hH⟩ : ∃ H, H = w.heap.size := ⟨_, rfl⟩
  rw [← hH] at C1 b0 b1 b2 z0 z1 z2 bl0 ⊢
  have HH := hid hH
  clear HW0 hH
  go_upto_region 2 with (go_at_call 15; with_reducible refine C1.out.mono ?_; rintro e w1 ⟨rfl, hf, hb⟩; have F2 := hid hf; have B2 := hid hb; clear hf hb)
  obtain ⟨⟨d0, d1, d2⟩, y0, y1, y2, yl⟩ := three_cc (F2.out.mem_box (t := 25) (H := H) (xs := [.int .i64 sg, .slice eo os.length ec, .slice xo ts.length xc]) (by simp))
  have C2 := hid (markTimer_flat _ ts k1 w1 B _ (Nat.le_trans SB.out B2.out.size) kp kq (F2.out.perm (sy_rowg2 _ _ _ _ _)))
  clear b0 b1 b2 z0 z1 z2 bl0 C1
  go_wp2_with (go_at_call 16; with_reducible refine C2.out.mono ?_; rintro e w2 ⟨rfl, hf, hb⟩; have F3 := hid hf; have B3 := hid hb; clear hf hb)
  go_ret
  have e1 := HK1.out
  refine ⟨by rw [e1, Int.add_assoc]; rfl, ?_, (BH.out.trans B2.out).trans B3.out⟩
  have f3 := (F3.out.perm (sy_rowg2 _ _ _ _ _).symm).perm (sy_rowg sg _ _ _ _ _ _).symm
  simp only [SyG.m]
  rw [← e1]
  exact f3.tail

set_option maxRecDepth 100000 in
set_option maxHeartbeats 1600000 in
theorem heldSystem_flat (G : SyG) (k : Int) (w : World) (B : Nat) (R : List Rw) (hB : B ≤ w.heap.size) (h0 : 0 ≤ k) (h1 : k + G.z ≤ 1099511627776) (h : Flat w B ((G.m k).rows ++ R)) :
    Calls Tryz.prog 8 #[G.val, .int .i64 k] w fun e w' => e = .returned (.int .i64 (k + G.z)) ∧ Below w.heap.size w w' := by
  obtain ⟨eo, ec, xo, xc, hev, hxv⟩ := SyG.form h
  obtain ⟨sg, ⟨ov, os⟩, ⟨tv, ts⟩⟩ := G
  simp only [SyG.m, mkL_len] at hev hxv
  subst hev hxv
  have ZZ : ((SyG.z (SyG.mk sg ⟨.slice eo os.length ec, os⟩ ⟨.slice xo ts.length xc, ts⟩) : Nat) : Int) = (szL ObG.z os : Int) + (szL parZ ts : Int) := by simp [SyG.z]
  rw [ZZ] at h1 ⊢
  simp only [SyG.m] at h
  obtain ⟨W0, hW0⟩ : ∃ W, W = w.alloc (.cells #[.int .i64 sg, .slice eo os.length ec, .slice xo ts.length xc] 25) := ⟨_, rfl⟩
  have F0 : Flat W0 B (sysB w.heap.size (.int .i64 sg) (.slice eo os.length ec) (.slice xo ts.length xc) :: ((SyG.mk sg ⟨.slice eo os.length ec, mkL ObG.m ObG.z k os⟩ ⟨.slice xo ts.length xc, mkL parM parZ (k + szL ObG.z os) ts⟩).rows ++ R)) := by rw [hW0]; exact h.box hB 25 [.int .i64 sg, .slice eo os.length ec, .slice xo ts.length xc]
  have BW : Below w.heap.size w W0 := by rw [hW0]; exact below1 _ _
  have F1 := F0.perm (sy_rowg _ _ _ _ _ _ _)
  have C1 := hid (heldObject_flat _ os k W0 B _ h0 (by omega) F1)
  have C2 := hid (heldTimer_flat _ ts (k + szL ObG.z os) W0 B _ (by omega) (by omega) (F1.perm (sy_rowg2 _ _ _ _ _)))
  have BH := hid BW
  have HW0 := hid hW0
  obtain ⟨⟨b0, b1, b2⟩, z0, z1, z2, bl0⟩ := three_cc (F0.mem_box (t := 25) (H := w.heap.size) (xs := [.int .i64 sg, .slice eo os.length ec, .slice xo ts.length xc]) (by simp))
  obtain ⟨k1, hk1⟩ : ∃ k1, k1 = k + (szL ObG.z os : Int) := ⟨_, rfl⟩
  rw [← hk1] at C1 C2
  obtain ⟨k2, hk2⟩ : ∃ k2, k2 = k1 + (szL parZ ts : Int) := ⟨_, rfl⟩
  rw [← hk2] at C2
  have HK1 := hid hk1
  have HK2 := hid hk2
  have kp : 0 ≤ k1 := by omega
  have kq : 0 ≤ k2 := by omega
  clear h F0 F1 BW hW0 hk1 hk2
  simp only [SyG.val]
  go_enter Tryz.func8, Tryz.ntmps8
  go_upto_region 1 with fail
  rw [← HW0.out]
  obtain ⟨H, hH⟩ : ∃ H, H = w.heap.size := ⟨_, rfl⟩
  rw [← hH] at b0 b1 b2 z0 z1 z2 bl0 ⊢
  have HH := hid hH
  clear HW0 hH
  go_wp2_with (first
    | (go_at_call 17; with_reducible refine C1.out.mono ?_; rintro e w1 ⟨rfl, hw1⟩; obtain rfl := hw1.symm)
    | (go_at_call 18; with_reducible refine C2.out.mono ?_; rintro e w2 ⟨rfl, hw2⟩; obtain rfl := hw2.symm))
  go_ret
  have e1 := HK1.out
  have e2 := HK2.out
  exact ⟨by rw [e2, e1, Int.add_assoc]; rfl, BH.out⟩
end Go.Proofs.YtbcjlpjohknljaaGreatDoor
