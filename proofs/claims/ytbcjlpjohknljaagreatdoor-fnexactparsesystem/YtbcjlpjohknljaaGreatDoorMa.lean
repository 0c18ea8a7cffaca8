import Derived.Test.YtbcjlpjohknljaaGreatDoorLc
namespace Go.Proofs.YtbcjlpjohknljaaGreatDoor
open Go.RowKit Go.Sort
set_option linter.unusedVariables false

/-! Marks of a tree: numbers that go up from k. -/
def mkL {α : Type} (m : α → Int → α) (z : α → Nat) : Int → List α → List α
  | _, [] => []
  | k, x :: r => m x k :: mkL m z (k + z x) r
def szL {α : Type} (z : α → Nat) : List α → Nat
  | [] => 0
  | x :: r => z x + szL z r
section
variable {α : Type} {m : α → Int → α} {z : α → Nat}
theorem mkL_len : ∀ (k : Int) (l : List α), (mkL m z k l).length = l.length
  | _, [] => rfl
  | k, x :: r => by simp [mkL, mkL_len (k + z x) r]
theorem szL_app : ∀ (a b : List α), szL z (a ++ b) = szL z a + szL z b
  | [], b => by simp [szL]
  | x :: r, b => by simp [szL, szL_app r b]; omega
theorem mkL_app : ∀ (k : Int) (a b : List α), mkL m z k (a ++ b) = mkL m z k a ++ mkL m z (k + szL z a) b
  | k, [], b => by simp [mkL, szL]
  | k, x :: r, b => by
    simp only [List.cons_append, mkL, szL, mkL_app (k + z x) r b]
    congr 3
    push_cast; omega
theorem take_one {l : List α} {a : Nat} {x : α} (h : l[a]? = some x) : l.take (a + 1) = l.take a ++ [x] ∧ l.drop a = x :: l.drop (a + 1) := by
  have hl : a < l.length := by
    rcases Nat.lt_or_ge a l.length with h2 | h2
    · exact h2
    · rw [List.getElem?_eq_none h2] at h; cases h
  rw [List.getElem?_eq_getElem hl] at h
  injection h with h
  exact ⟨by rw [List.take_succ_eq_append_getElem hl, h], by rw [List.drop_eq_getElem_cons hl, h]⟩
theorem szL_take (l : List α) (a : Nat) : szL z (l.take a) + szL z (l.drop a) = szL z l := by rw [← szL_app, List.take_append_drop]
end
/-- A list with all that it reaches, as rows. -/
def RowG {α : Type} (t : TypeId) (sz : Nat) (c : α → List Value) (rw : α → List Rw) (v : Value) (l : List α) : List Rw := ⟨t, sz, v, l.length, l.flatMap c⟩ :: l.flatMap rw
def intC (z : Int) : List Value := [.int .i64 z]
def parC (p : Int × Int) : List Value := [.int .i64 p.1, .int .i64 p.2]
def noR {α : Type} (_ : α) : List Rw := []
theorem noR_flat {α : Type} (l : List α) : l.flatMap (noR : α → List Rw) = [] := by simp [noR]
theorem itC_fl : ∀ l : List (Int × Int), itC l = l.flatMap parC
  | [] => rfl
  | p :: r => by simp [itC, parC, itC_fl r]
theorem int_fl (l : List Int) : l.map (Value.int .i64) = l.flatMap intC := by induction l with | nil => rfl | cons z r ih => simp [intC, ih]
def intM (_ : Int) (k : Int) : Int := k
def intZ (_ : Int) : Nat := 1
def parM (_ : Int × Int) (k : Int) : Int × Int := (k, k + 1)
def parZ (_ : Int × Int) : Nat := 2
def SmG.m (x : SmG) (k : Int) : SmG := ⟨k, k + 1, k + 1 + 1, ⟨x.c.v, mkL parM parZ (k + 1 + 1 + 1) x.c.its⟩⟩
def SmG.z (x : SmG) : Nat := 3 + szL parZ x.c.its
def StG.m (x : StG) (k : Int) : StG := ⟨k, k + 1, ⟨x.en.v, mkL SmG.m SmG.z (k + 1 + 1) x.en.xs⟩, ⟨x.ex.v, mkL SmG.m SmG.z (k + 1 + 1 + szL SmG.z x.en.xs) x.ex.xs⟩⟩
def StG.z (x : StG) : Nat := 2 + szL SmG.z x.en.xs + szL SmG.z x.ex.xs
def TrG.m (x : TrG) (k : Int) : TrG := ⟨k, k + 1, ⟨x.gd.v, mkL parM parZ (k + 1 + 1) x.gd.its⟩, k + 1 + 1 + szL parZ x.gd.its, ⟨x.ac.v, mkL SmG.m SmG.z (k + 1 + 1 + szL parZ x.gd.its + 1) x.ac.xs⟩⟩
def TrG.z (x : TrG) : Nat := 3 + szL parZ x.gd.its + szL SmG.z x.ac.xs
def ObG.m (x : ObG) (k : Int) : ObG := ⟨k, k + 1, k + 1 + 1, ⟨x.ki.v, mkL intM intZ (k + 1 + 1 + 1) x.ki.zs⟩, ⟨x.va.v, mkL intM intZ (k + 1 + 1 + 1 + szL intZ x.ki.zs) x.va.zs⟩, ⟨x.su.v, mkL intM intZ (k + 1 + 1 + 1 + szL intZ x.ki.zs + szL intZ x.va.zs) x.su.zs⟩, ⟨x.st.v, mkL StG.m StG.z (k + 1 + 1 + 1 + szL intZ x.ki.zs + szL intZ x.va.zs + szL intZ x.su.zs) x.st.xs⟩, ⟨x.tr.v, mkL TrG.m TrG.z (k + 1 + 1 + 1 + szL intZ x.ki.zs + szL intZ x.va.zs + szL intZ x.su.zs + szL StG.z x.st.xs) x.tr.xs⟩⟩
def ObG.z (x : ObG) : Nat := 3 + szL intZ x.ki.zs + szL intZ x.va.zs + szL intZ x.su.zs + szL StG.z x.st.xs + szL TrG.z x.tr.xs
def SyG.m (x : SyG) (k : Int) : SyG := ⟨x.sg, ⟨x.ob.v, mkL ObG.m ObG.z k x.ob.xs⟩, ⟨x.tm.v, mkL parM parZ (k + szL ObG.z x.ob.xs) x.tm.xs⟩⟩
def SyG.z (x : SyG) : Nat := szL ObG.z x.ob.xs + szL parZ x.tm.xs
/-- One element of a row by itself: its cells, and a cell set. -/
theorem el_cell {α : Type} {c : α → List Value} {sz : Nat} (hc : ∀ x, (c x).length = sz) {w : World} {B : Nat} {R : List Rw} {t : TypeId} {g n cap : Nat} {p : List α} {x : α} {q : List α} (h : Flat w B (⟨t, sz, .slice (some ⟨g, 0, none⟩) n cap, n, (p ++ x :: q).flatMap c⟩ :: R)) (a j : Nat) (hp : p.length = a) (hj : j < sz) : w.cell? ⟨g, a * sz + j, none⟩ = (c x)[j]? ∧ w.frozen? ⟨g, a * sz + j, none⟩ = false ∧ g < w.heap.size := by
  subst hp
  exact ⟨mid_cell c sz hc h.head j hj, h.head.frozenAt _, (h.head.lt g rfl).2⟩
theorem el_set {α : Type} {c : α → List Value} {sz : Nat} (hc : ∀ x, (c x).length = sz) {w : World} {B : Nat} {R : List Rw} {t : TypeId} {g n cap : Nat} {p : List α} {x : α} {q : List α} (h : Flat w B (⟨t, sz, .slice (some ⟨g, 0, none⟩) n cap, n, (p ++ x :: q).flatMap c⟩ :: R)) (a j : Nat) (u : Value) (x' : α) (hp : p.length = a) (hj : j < sz) (hx : (c x).set j u = c x') : Flat (w.setCell ⟨g, a * sz + j, none⟩ u) B (⟨t, sz, .slice (some ⟨g, 0, none⟩) n cap, n, (p ++ x' :: q).flatMap c⟩ :: R) := by
  subst hp
  exact Flat.setEl c sz hc (m := 0) h j u hj hx
/-- An element out of its list, and back. -/
theorem rowg_mid {α : Type} (t : TypeId) (sz : Nat) (c : α → List Value) (rw : α → List Rw) (v : Value) (p : List α) (x : α) (q : List α) (R : List Rw) : (RowG t sz c rw v (p ++ x :: q) ++ R).Perm (⟨t, sz, v, (p ++ x :: q).length, (p ++ x :: q).flatMap c⟩ :: (rw x ++ (p.flatMap rw ++ (q.flatMap rw ++ R)))) := by
  refine perm_count fun f g hf => ?_
  simp only [RowG, List.flatMap_append, List.flatMap_cons, List.cons_append, hf.c, hf.a]
  omega
theorem rowg_back {α : Type} {t : TypeId} {sz : Nat} {c : α → List Value} {rw : α → List Rw} {v : Value} {p : List α} {x : α} {q : List α} {R : List Rw} {w : World} {B n : Nat} (h : Flat w B (⟨t, sz, v, n, (p ++ x :: q).flatMap c⟩ :: (rw x ++ (p.flatMap rw ++ (q.flatMap rw ++ R))))) (hn : (p ++ x :: q).length = n) : Flat w B (RowG t sz c rw v (p ++ x :: q) ++ R) := by
  subst hn
  exact h.perm (rowg_mid t sz c rw v p x q R).symm
end Go.Proofs.YtbcjlpjohknljaaGreatDoor
namespace Go.Proofs.YtbcjlpjohknljaaGreatDoor
open Go.RowKit Go.Sort
set_option linter.unusedVariables false
set_option linter.unusedSimpArgs false
attribute [local go_sem ↓] Go.wp_at_zero Go.wp_at_succ

set_option maxRecDepth 100000 in
set_option maxHeartbeats 3200000 in
theorem markInt_flat (v : Value) (xs : List Int) (k : Int) (w : World) (B : Nat) (R : List Rw) (hB : B ≤ w.heap.size) (h0 : 0 ≤ k) (h1 : k + szL intZ xs ≤ 1099511627776) (h : Flat w B (RowG 3 1 intC noR v xs ++ R)) :
    Calls Tryz.prog 32 #[v, .int .i64 k] w fun e w' => e = .returned (.int .i64 (k + szL intZ xs)) ∧ Flat w' B (RowG 3 1 intC noR v (mkL intM intZ k xs) ++ R) ∧ Below B w w' := by
  obtain ⟨ao, c, hv, _⟩ := row_read intC 1 (fun _ => rfl) (h.own (⟨3, 1, v, xs.length, xs.flatMap intC⟩ : Rw) (by simp [RowG]))
  subst hv
  have HF := hid h
  clear h
  go_enter Tryz.func32, Tryz.ntmps32
  go_wp2
  go_loopw [1, 5] (fun kv i wr => ∃ a : Nat, a ≤ xs.length ∧ i = .int .i64 a ∧ kv = .int .i64 (k + szL intZ (xs.take a)) ∧ Hid (Flat wr B (RowG 3 1 intC noR (.slice ao xs.length c) (mkL intM intZ k (xs.take a) ++ xs.drop a) ++ R)) ∧ Hid (Below B w wr)) (fun _ i _ => xs.length - (intOf i).toNat)
  case atStart => exact ⟨0, Nat.zero_le _, rfl, by simp [szL], hid (by simpa [mkL] using HF.out), hid (Below.refl _ _)⟩
  case round =>
    obtain ⟨a, ha, rfl, rfl, HW, HB⟩ := hrel
    by_cases hlt : a < xs.length
    · have an : (a : Int) < (xs.length : Int) := by omega
      obtain ⟨x, hx⟩ : ∃ x, xs[a]? = some x := ⟨_, List.getElem?_eq_getElem hlt⟩
      obtain ⟨tk, dp⟩ := take_one hx
      have ZT := szL_take (z := intZ) xs a
      rw [dp, szL] at ZT
      have HT := hid tk
      obtain ⟨p, hp⟩ : ∃ p, p = mkL intM intZ k (xs.take a) := ⟨_, rfl⟩
      have pl : p.length = a := by rw [hp, mkL_len, List.length_take]; omega
      obtain ⟨q, hq⟩ : ∃ q, q = xs.drop (a + 1) := ⟨_, rfl⟩
      have LN : (p ++ x :: q).length = xs.length := by rw [hq, List.length_append, List.length_cons, List.length_drop, pl]; omega
      rw [dp, ← hp, ← hq] at HW
      have F0 := HW.out.perm (rowg_mid _ _ _ _ _ p x q R)
      rw [LN] at F0
      obtain ⟨g, cap0, hv0, hc0, hm0, hg0, hgl0⟩ := row_has F0.head (by show 0 < xs.length; omega)
      simp only [Value.slice.injEq] at hv0
      obtain ⟨rfl, _, hcc⟩ := hv0
      subst hcc
      obtain ⟨kk, hkk⟩ : ∃ kk, kk = k + (szL intZ (xs.take a) : Int) := ⟨_, rfl⟩
      have KB : 0 ≤ kk ∧ kk + (intZ x : Int) ≤ 1099511627776 := by omega
      have HK := hid hkk
      rw [← hkk]
      have PL := hid pl
      have HP := hid hp
      have HQ := hid hq
      have HBG := hid hg0
      have BW := HB
      have ZTH := hid ZT
      clear HW dp hkk hp hq LN tk ZT hx hgl0 hm0 hc0
      obtain ⟨x0, hx0⟩ : ∃ x0, x0 = x := ⟨_, rfl⟩
      subst hx0
      have FW : Hid (Flat wr B ((⟨3, 1, .slice (some ⟨g, 0, none⟩) xs.length c, xs.length, (p ++ x0 :: q).flatMap intC⟩ : Rw) :: (noR x0 ++ (p.flatMap noR ++ (q.flatMap noR ++ R))))) := hid F0
      have ZZ : ((intZ x0 : Nat) : Int) = 1 := by simp [intZ]; try omega
      rw [ZZ] at KB
      have k0 : 0 ≤ kk := KB.1
      have k1 : kk ≤ 1099511627776 := by omega
      have KBH := hid KB
      clear F0 KB
      obtain ⟨c0, z0, y0⟩ : wr.cell? ⟨g, a, none⟩ = some (.int .i64 x0) ∧ wr.frozen? ⟨g, a, none⟩ = false ∧ g < wr.heap.size := by
        have h := el_cell (c := intC) (sz := 1) (fun _ => rfl) FW.out a 0 PL.out (by decide)
        try simp only [Nat.add_zero, Nat.mul_one] at h
        exact h
      have F1 : Hid (Flat (wr.setCell ⟨g, a, none⟩ (.int .i64 kk)) B ((⟨3, 1, .slice (some ⟨g, 0, none⟩) xs.length c, xs.length, (p ++ kk :: q).flatMap intC⟩ : Rw) :: (noR kk ++ (p.flatMap noR ++ (q.flatMap noR ++ R))))) := hid (by
        have h := el_set (c := intC) (sz := 1) (fun _ => rfl) FW.out a 0 (.int .i64 kk) kk PL.out (by decide) rfl
        try simp only [Nat.add_zero, Nat.mul_one] at h
        exact h)
      have BW2 := hid (BW.out.setCell (p := ⟨g, a, none⟩) HBG.out (.int .i64 kk))
      go_wp2
      go_roundw
      case rel =>
        have hk := HK.out
        have EM : kk = intM x0 kk := rfl
        refine ⟨a + 1, by omega, by go_num, ?_, hid ?_, BW2⟩
        · rw [HT.out, szL_app]
          have zz := ZZ
          simp only [szL, Nat.add_zero]
          congr 1
          omega
        · rw [HT.out, mkL_app, ← HP.out, ← HQ.out, ← hk, mkL, mkL, ← EM, List.append_assoc, List.singleton_append]
          exact rowg_back F1.out (by rw [HQ.out, List.length_append, List.length_cons, List.length_drop, PL.out]; omega)
      case measure => simp [intOf]; omega
    · have ek : a = xs.length := by omega
      subst ek
      rw [List.take_length, List.drop_length, List.append_nil] at HW
      rw [List.take_length]
      go_wp2
      go_ret
      exact ⟨rfl, HW.out, HB.out⟩
set_option maxRecDepth 100000 in
set_option maxHeartbeats 3200000 in
theorem markItem_flat (v : Value) (xs : List (Int × Int)) (k : Int) (w : World) (B : Nat) (R : List Rw) (hB : B ≤ w.heap.size) (h0 : 0 ≤ k) (h1 : k + szL parZ xs ≤ 1099511627776) (h : Flat w B (RowG 96 2 parC noR v xs ++ R)) :
    Calls Tryz.prog 64 #[v, .int .i64 k] w fun e w' => e = .returned (.int .i64 (k + szL parZ xs)) ∧ Flat w' B (RowG 96 2 parC noR v (mkL parM parZ k xs) ++ R) ∧ Below B w w' := by
  obtain ⟨ao, c, hv, _⟩ := row_read parC 2 (fun _ => rfl) (h.own (⟨96, 2, v, xs.length, xs.flatMap parC⟩ : Rw) (by simp [RowG]))
  subst hv
  have HF := hid h
  clear h
  go_enter Tryz.func64, Tryz.ntmps64
  go_wp2
  go_loopw [1, 5] (fun kv i wr => ∃ a : Nat, a ≤ xs.length ∧ i = .int .i64 a ∧ kv = .int .i64 (k + szL parZ (xs.take a)) ∧ Hid (Flat wr B (RowG 96 2 parC noR (.slice ao xs.length c) (mkL parM parZ k (xs.take a) ++ xs.drop a) ++ R)) ∧ Hid (Below B w wr)) (fun _ i _ => xs.length - (intOf i).toNat)
  case atStart => exact ⟨0, Nat.zero_le _, rfl, by simp [szL], hid (by simpa [mkL] using HF.out), hid (Below.refl _ _)⟩
  case round =>
    obtain ⟨a, ha, rfl, rfl, HW, HB⟩ := hrel
    by_cases hlt : a < xs.length
    · have an : (a : Int) < (xs.length : Int) := by omega
      obtain ⟨x, hx⟩ : ∃ x, xs[a]? = some x := ⟨_, List.getElem?_eq_getElem hlt⟩
      obtain ⟨tk, dp⟩ := take_one hx
      have ZT := szL_take (z := parZ) xs a
      rw [dp, szL] at ZT
      have HT := hid tk
      obtain ⟨p, hp⟩ : ∃ p, p = mkL parM parZ k (xs.take a) := ⟨_, rfl⟩
      have pl : p.length = a := by rw [hp, mkL_len, List.length_take]; omega
      obtain ⟨q, hq⟩ : ∃ q, q = xs.drop (a + 1) := ⟨_, rfl⟩
      have LN : (p ++ x :: q).length = xs.length := by rw [hq, List.length_append, List.length_cons, List.length_drop, pl]; omega
      rw [dp, ← hp, ← hq] at HW
      have F0 := HW.out.perm (rowg_mid _ _ _ _ _ p x q R)
      rw [LN] at F0
      obtain ⟨g, cap0, hv0, hc0, hm0, hg0, hgl0⟩ := row_has F0.head (by show 0 < xs.length; omega)
      simp only [Value.slice.injEq] at hv0
      obtain ⟨rfl, _, hcc⟩ := hv0
      subst hcc
      obtain ⟨kk, hkk⟩ : ∃ kk, kk = k + (szL parZ (xs.take a) : Int) := ⟨_, rfl⟩
      have KB : 0 ≤ kk ∧ kk + (parZ x : Int) ≤ 1099511627776 := by omega
      have HK := hid hkk
      rw [← hkk]
      have PL := hid pl
      have HP := hid hp
      have HQ := hid hq
      have HBG := hid hg0
      have BW := HB
      have ZTH := hid ZT
      clear HW dp hkk hp hq LN tk ZT hx hgl0 hm0 hc0
      obtain ⟨x0, x1⟩ := x
      have FW : Hid (Flat wr B ((⟨96, 2, .slice (some ⟨g, 0, none⟩) xs.length c, xs.length, (p ++ (x0, x1) :: q).flatMap parC⟩ : Rw) :: (noR (x0, x1) ++ (p.flatMap noR ++ (q.flatMap noR ++ R))))) := hid F0
      have ZZ : ((parZ (x0, x1) : Nat) : Int) = 2 := by simp [parZ]; try omega
      rw [ZZ] at KB
      have k0 : 0 ≤ kk := KB.1
      have k1 : kk ≤ 1099511627776 := by omega
      have KBH := hid KB
      clear F0 KB
      obtain ⟨c0, z0, y0⟩ : wr.cell? ⟨g, a * 2, none⟩ = some (.int .i64 x0) ∧ wr.frozen? ⟨g, a * 2, none⟩ = false ∧ g < wr.heap.size := by
        have h := el_cell (c := parC) (sz := 2) (fun _ => rfl) FW.out a 0 PL.out (by decide)
        try simp only [Nat.add_zero, Nat.mul_one] at h
        exact h
      have F1 : Hid (Flat (wr.setCell ⟨g, a * 2, none⟩ (.int .i64 kk)) B ((⟨96, 2, .slice (some ⟨g, 0, none⟩) xs.length c, xs.length, (p ++ (kk, x1) :: q).flatMap parC⟩ : Rw) :: (noR (kk, x1) ++ (p.flatMap noR ++ (q.flatMap noR ++ R))))) := hid (by
        have h := el_set (c := parC) (sz := 2) (fun _ => rfl) FW.out a 0 (.int .i64 kk) (kk, x1) PL.out (by decide) rfl
        try simp only [Nat.add_zero, Nat.mul_one] at h
        exact h)
      have BW2 := hid (BW.out.setCell (p := ⟨g, a * 2, none⟩) HBG.out (.int .i64 kk))
      go_upto_region 6 with fail
      obtain ⟨W1, hW⟩ : ∃ W, W = wr.setCell ⟨g, a * 2, none⟩ (.int .i64 kk) := ⟨_, rfl⟩
      rw [← hW] at F1 BW2 ⊢
      obtain ⟨kk1, hkk1⟩ : ∃ z, z = kk + 1 := ⟨_, rfl⟩
      rw [← hkk1]
      have HK1 := hid hkk1
      have kp1 : 0 ≤ kk1 := by omega
      have kq1 : kk1 ≤ 1099511627776 := by have := KBH.out; omega
      clear hW hkk1 FW BW c0 z0 y0
      have FW := F1
      have BW := BW2
      clear F1 BW2
      obtain ⟨c1, z1, y1⟩ : W1.cell? ⟨g, a * 2 + 1, none⟩ = some (.int .i64 x1) ∧ W1.frozen? ⟨g, a * 2 + 1, none⟩ = false ∧ g < W1.heap.size := by
        have h := el_cell (c := parC) (sz := 2) (fun _ => rfl) FW.out a 1 PL.out (by decide)
        try simp only [Nat.add_zero, Nat.mul_one] at h
        exact h
      have F1 : Hid (Flat (W1.setCell ⟨g, a * 2 + 1, none⟩ (.int .i64 kk1)) B ((⟨96, 2, .slice (some ⟨g, 0, none⟩) xs.length c, xs.length, (p ++ (kk, kk1) :: q).flatMap parC⟩ : Rw) :: (noR (kk, kk1) ++ (p.flatMap noR ++ (q.flatMap noR ++ R))))) := hid (by
        have h := el_set (c := parC) (sz := 2) (fun _ => rfl) FW.out a 1 (.int .i64 kk1) (kk, kk1) PL.out (by decide) rfl
        try simp only [Nat.add_zero, Nat.mul_one] at h
        exact h)
      have BW2 := hid (BW.out.setCell (p := ⟨g, a * 2 + 1, none⟩) HBG.out (.int .i64 kk1))
      go_wp2
      go_roundw
      case rel =>
        have hk := HK.out
        have hk1 := HK1.out
        have EM : (kk, kk1) = parM (x0, x1) kk := by
          unfold parM
          subst hk1
          rfl
        refine ⟨a + 1, by omega, by go_num, ?_, hid ?_, BW2⟩
        · rw [HT.out, szL_app]
          have zz := ZZ
          simp only [szL, Nat.add_zero]
          congr 1
          omega
        · rw [HT.out, mkL_app, ← HP.out, ← HQ.out, ← hk, mkL, mkL, ← EM, List.append_assoc, List.singleton_append]
          exact rowg_back F1.out (by rw [HQ.out, List.length_append, List.length_cons, List.length_drop, PL.out]; omega)
      case measure => simp [intOf]; omega
    · have ek : a = xs.length := by omega
      subst ek
      rw [List.take_length, List.drop_length, List.append_nil] at HW
      rw [List.take_length]
      go_wp2
      go_ret
      exact ⟨rfl, HW.out, HB.out⟩
set_option maxRecDepth 100000 in
set_option maxHeartbeats 3200000 in
theorem markTimer_flat (v : Value) (xs : List (Int × Int)) (k : Int) (w : World) (B : Nat) (R : List Rw) (hB : B ≤ w.heap.size) (h0 : 0 ≤ k) (h1 : k + szL parZ xs ≤ 1099511627776) (h : Flat w B (RowG 59 2 parC noR v xs ++ R)) :
    Calls Tryz.prog 16 #[v, .int .i64 k] w fun e w' => e = .returned (.int .i64 (k + szL parZ xs)) ∧ Flat w' B (RowG 59 2 parC noR v (mkL parM parZ k xs) ++ R) ∧ Below B w w' := by
  obtain ⟨ao, c, hv, _⟩ := row_read parC 2 (fun _ => rfl) (h.own (⟨59, 2, v, xs.length, xs.flatMap parC⟩ : Rw) (by simp [RowG]))
  subst hv
  have HF := hid h
  clear h
  go_enter Tryz.func16, Tryz.ntmps16
  go_wp2
  go_loopw [1, 5] (fun kv i wr => ∃ a : Nat, a ≤ xs.length ∧ i = .int .i64 a ∧ kv = .int .i64 (k + szL parZ (xs.take a)) ∧ Hid (Flat wr B (RowG 59 2 parC noR (.slice ao xs.length c) (mkL parM parZ k (xs.take a) ++ xs.drop a) ++ R)) ∧ Hid (Below B w wr)) (fun _ i _ => xs.length - (intOf i).toNat)
  case atStart => exact ⟨0, Nat.zero_le _, rfl, by simp [szL], hid (by simpa [mkL] using HF.out), hid (Below.refl _ _)⟩
  case round =>
    obtain ⟨a, ha, rfl, rfl, HW, HB⟩ := hrel
    by_cases hlt : a < xs.length
    · have an : (a : Int) < (xs.length : Int) := by omega
      obtain ⟨x, hx⟩ : ∃ x, xs[a]? = some x := ⟨_, List.getElem?_eq_getElem hlt⟩
      obtain ⟨tk, dp⟩ := take_one hx
      have ZT := szL_take (z := parZ) xs a
      rw [dp, szL] at ZT
      have HT := hid tk
      obtain ⟨p, hp⟩ : ∃ p, p = mkL parM parZ k (xs.take a) := ⟨_, rfl⟩
      have pl : p.length = a := by rw [hp, mkL_len, List.length_take]; omega
      obtain ⟨q, hq⟩ : ∃ q, q = xs.drop (a + 1) := ⟨_, rfl⟩
      have LN : (p ++ x :: q).length = xs.length := by rw [hq, List.length_append, List.length_cons, List.length_drop, pl]; omega
      rw [dp, ← hp, ← hq] at HW
      have F0 := HW.out.perm (rowg_mid _ _ _ _ _ p x q R)
      rw [LN] at F0
      obtain ⟨g, cap0, hv0, hc0, hm0, hg0, hgl0⟩ := row_has F0.head (by show 0 < xs.length; omega)
      simp only [Value.slice.injEq] at hv0
      obtain ⟨rfl, _, hcc⟩ := hv0
      subst hcc
      obtain ⟨kk, hkk⟩ : ∃ kk, kk = k + (szL parZ (xs.take a) : Int) := ⟨_, rfl⟩
      have KB : 0 ≤ kk ∧ kk + (parZ x : Int) ≤ 1099511627776 := by omega
      have HK := hid hkk
      rw [← hkk]
      have PL := hid pl
      have HP := hid hp
      have HQ := hid hq
      have HBG := hid hg0
      have BW := HB
      have ZTH := hid ZT
      clear HW dp hkk hp hq LN tk ZT hx hgl0 hm0 hc0
      obtain ⟨x0, x1⟩ := x
      have FW : Hid (Flat wr B ((⟨59, 2, .slice (some ⟨g, 0, none⟩) xs.length c, xs.length, (p ++ (x0, x1) :: q).flatMap parC⟩ : Rw) :: (noR (x0, x1) ++ (p.flatMap noR ++ (q.flatMap noR ++ R))))) := hid F0
      have ZZ : ((parZ (x0, x1) : Nat) : Int) = 2 := by simp [parZ]; try omega
      rw [ZZ] at KB
      have k0 : 0 ≤ kk := KB.1
      have k1 : kk ≤ 1099511627776 := by omega
      have KBH := hid KB
      clear F0 KB
      obtain ⟨c0, z0, y0⟩ : wr.cell? ⟨g, a * 2, none⟩ = some (.int .i64 x0) ∧ wr.frozen? ⟨g, a * 2, none⟩ = false ∧ g < wr.heap.size := by
        have h := el_cell (c := parC) (sz := 2) (fun _ => rfl) FW.out a 0 PL.out (by decide)
        try simp only [Nat.add_zero, Nat.mul_one] at h
        exact h
      have F1 : Hid (Flat (wr.setCell ⟨g, a * 2, none⟩ (.int .i64 kk)) B ((⟨59, 2, .slice (some ⟨g, 0, none⟩) xs.length c, xs.length, (p ++ (kk, x1) :: q).flatMap parC⟩ : Rw) :: (noR (kk, x1) ++ (p.flatMap noR ++ (q.flatMap noR ++ R))))) := hid (by
        have h := el_set (c := parC) (sz := 2) (fun _ => rfl) FW.out a 0 (.int .i64 kk) (kk, x1) PL.out (by decide) rfl
        try simp only [Nat.add_zero, Nat.mul_one] at h
        exact h)
      have BW2 := hid (BW.out.setCell (p := ⟨g, a * 2, none⟩) HBG.out (.int .i64 kk))
      go_upto_region 6 with fail
      obtain ⟨W1, hW⟩ : ∃ W, W = wr.setCell ⟨g, a * 2, none⟩ (.int .i64 kk) := ⟨_, rfl⟩
      rw [← hW] at F1 BW2 ⊢
      obtain ⟨kk1, hkk1⟩ : ∃ z, z = kk + 1 := ⟨_, rfl⟩
      rw [← hkk1]
      have HK1 := hid hkk1
      have kp1 : 0 ≤ kk1 := by omega
      have kq1 : kk1 ≤ 1099511627776 := by have := KBH.out; omega
      clear hW hkk1 FW BW c0 z0 y0
      have FW := F1
      have BW := BW2
      clear F1 BW2
      obtain ⟨c1, z1, y1⟩ : W1.cell? ⟨g, a * 2 + 1, none⟩ = some (.int .i64 x1) ∧ W1.frozen? ⟨g, a * 2 + 1, none⟩ = false ∧ g < W1.heap.size := by
        have h := el_cell (c := parC) (sz := 2) (fun _ => rfl) FW.out a 1 PL.out (by decide)
        try simp only [Nat.add_zero, Nat.mul_one] at h
        exact h
      have F1 : Hid (Flat (W1.setCell ⟨g, a * 2 + 1, none⟩ (.int .i64 kk1)) B ((⟨59, 2, .slice (some ⟨g, 0, none⟩) xs.length c, xs.length, (p ++ (kk, kk1) :: q).flatMap parC⟩ : Rw) :: (noR (kk, kk1) ++ (p.flatMap noR ++ (q.flatMap noR ++ R))))) := hid (by
        have h := el_set (c := parC) (sz := 2) (fun _ => rfl) FW.out a 1 (.int .i64 kk1) (kk, kk1) PL.out (by decide) rfl
        try simp only [Nat.add_zero, Nat.mul_one] at h
        exact h)
      have BW2 := hid (BW.out.setCell (p := ⟨g, a * 2 + 1, none⟩) HBG.out (.int .i64 kk1))
      go_wp2
      go_roundw
      case rel =>
        have hk := HK.out
        have hk1 := HK1.out
        have EM : (kk, kk1) = parM (x0, x1) kk := by
          unfold parM
          subst hk1
          rfl
        refine ⟨a + 1, by omega, by go_num, ?_, hid ?_, BW2⟩
        · rw [HT.out, szL_app]
          have zz := ZZ
          simp only [szL, Nat.add_zero]
          congr 1
          omega
        · rw [HT.out, mkL_app, ← HP.out, ← HQ.out, ← hk, mkL, mkL, ← EM, List.append_assoc, List.singleton_append]
          exact rowg_back F1.out (by rw [HQ.out, List.length_append, List.length_cons, List.length_drop, PL.out]; omega)
      case measure => simp [intOf]; omega
    · have ek : a = xs.length := by omega
      subst ek
      rw [List.take_length, List.drop_length, List.append_nil] at HW
      rw [List.take_length]
      go_wp2
      go_ret
      exact ⟨rfl, HW.out, HB.out⟩
end Go.Proofs.YtbcjlpjohknljaaGreatDoor
