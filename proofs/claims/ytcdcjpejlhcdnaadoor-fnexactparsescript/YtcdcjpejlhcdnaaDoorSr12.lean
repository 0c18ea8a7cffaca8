import Derived.Test.YtcdcjpejlhcdnaaDoorSr11
namespace Go.Proofs.YtcdcjpejlhcdnaaDoor
open Go.RowKit Go.Sort
set_option linter.unusedVariables false
attribute [local go_sem ↓] Go.wp_at_zero Go.wp_at_succ

set_option maxHeartbeats 400000 in
theorem between_low (n lo hi : Int) (b : Bool) (h : b = decide (lo ≤ n ∧ n ≤ hi)) (w : World) : Calls Tryd.prog 41 #[.int .i64 n, .int .i64 lo, .int .i64 hi] w fun e w' => e = .returned (.bool b) ∧ w' = w := by
  rw [h]
  by_cases h1 : lo ≤ n <;> by_cases h7 : n ≤ hi
  all_goals
    go_enter Tryd.func41, Tryd.ntmps41
    go_wp2
    go_ret
    exact ⟨ret_bool (by simp; omega), rfl⟩
/-- What a reader does: an item is added, the fields are taken, faults are told. -/
def ReadsTo (f : Nat) (B R F : Nat) (v : Value) (xs : List ScI) (fs : List (List UInt8)) (w : World) (it : ScI) (rest : List (List UInt8)) (bad : Bool) : Prop :=
  Calls Tryd.prog f #[.pointer (some ⟨R, 0, none⟩), .pointer (some ⟨F, 0, none⟩)] w fun e w' => e = .returned (.tuple #[]) ∧ FAt w' F rest (bad || !decide (xs.length < 4000)) ∧ (∃ v', RAt w' B R v' (xs ++ [it])) ∧ Tn (RdS F R v) w w'
theorem own_lt {w : World} {B : Nat} {e : TypeId} {size : Nat} {v : Value} {n : Nat} {xs : List Value} (h : w.ownsRow B e size v n xs) {H : Nat} (hH : w.heap.size ≤ H) : v.ownBlock ≠ some H := by
  intro e2
  have := (h.lt H e2).2
  omega

set_option maxRecDepth 100000 in
set_option maxHeartbeats 1600000 in
theorem readPost_any (F R B : Nat) (fs : List (List UInt8)) (v : Value) (xs : List ScI) (w : World) (hv : Vars w) (hF : 12 < F) (hB : B ≤ w.heap.size) (hl : xs.length ≤ 4000) (hfl : ∀ f ∈ fs, f.length ≤ 1048576) (hf : FAt w F fs false) (hr : RAt w B R v xs) :
    ReadsTo 24 B R F v xs fs w ⟨1, rdN fs, rdN fs.tail, rdN fs.tail.tail⟩ (restAll [1, 2, 3] fs) (badAll false [1, 2, 3] fs) := by
  unfold ReadsTo
  have hFl := hf.lt
  obtain ⟨W0, hW0⟩ : ∃ W, W = (w.alloc (.cells #[.int .i64 1, .int .i64 0, .int .i64 0, .int .i64 0] 31)).alloc (.cells #[.pointer (some ⟨w.heap.size, 1, none⟩), .pointer (some ⟨w.heap.size, 2, none⟩), .pointer (some ⟨w.heap.size, 3, none⟩)] 89) := ⟨_, rfl⟩
  have BW0 := hid (show Below w.heap.size w W0 by rw [hW0]; exact below2 _ _ _)
  have I0 : W0.heap[w.heap.size]? = some (.cells #[.int .i64 1, .int .i64 0, .int .i64 0, .int .i64 0] 31 (0, 0)) := by rw [hW0]; exact block_below (heap_alloc_new w _) (below1 _ _)
  have P0 : W0.heap[w.heap.size + 1]? = some (.cells #[.pointer (some ⟨w.heap.size, 1, none⟩), .pointer (some ⟨w.heap.size, 2, none⟩), .pointer (some ⟨w.heap.size, 3, none⟩)] 89 (0, 0)) := by
    rw [hW0]; simpa using heap_alloc_new (w.alloc (.cells #[.int .i64 1, .int .i64 0, .int .i64 0, .int .i64 0] 31)) (.cells #[.pointer (some ⟨w.heap.size, 1, none⟩), .pointer (some ⟨w.heap.size, 2, none⟩), .pointer (some ⟨w.heap.size, 3, none⟩)] 89)
  have C := hid (numbers_any F (w.heap.size + 1) w.heap.size [1, 2, 3] 3 _ _ fs false W0 (hv.below BW0.out (by omega) (Nat.le_refl _)) hF (by omega) (by omega) (by omega) (by omega) (lt_of_block P0) (by decide) hfl (hf.below BW0.out) I0 (by decide)
    (by intro j hj; have : j = 0 ∨ j = 1 ∨ j = 2 := by simp at hj; omega
        rcases this with rfl | rfl | rfl <;> decide)
    (by intro j hj; have : j = 0 ∨ j = 1 ∨ j = 2 := by simp at hj; omega
        rw [Lib.cell_of_heap P0]
        rcases this with rfl | rfl | rfl <;> rfl))
  obtain ⟨it, hit⟩ : ∃ it : ScI, it = ⟨1, rdN fs, rdN fs.tail, rdN fs.tail.tail⟩ := ⟨_, rfl⟩
  have PA : putAll #[.int .i64 1, .int .i64 0, .int .i64 0, .int .i64 0] [1, 2, 3] fs = #[.int .i64 it.k, .int .i64 it.o, .int .i64 it.s, .int .i64 it.v] := by rw [hit]; simp [putAll]
  rw [PA] at C
  have C' : Hid (Calls Tryd.prog 37 #[.pointer (some ⟨F, 0, none⟩), .slice (some ⟨w.heap.size + 1, 0, none⟩) 3 3] W0 fun e w' => e = .returned (.tuple #[]) ∧ FAt w' F (restAll [1, 2, 3] fs) (badAll false [1, 2, 3] fs) ∧ w'.heap[w.heap.size]? = some (.cells #[.int .i64 it.k, .int .i64 it.o, .int .i64 it.s, .int .i64 it.v] 31 (0, 0)) ∧ Tn (fun b => b = F ∨ b = w.heap.size) W0 w') := hid C.out
  rw [← hit]
  obtain ⟨rst, hrst⟩ : ∃ r, r = restAll [1, 2, 3] fs := ⟨_, rfl⟩
  obtain ⟨bd, hbd⟩ : ∃ r, r = badAll false [1, 2, 3] fs := ⟨_, rfl⟩
  rw [← hrst] at C' ⊢
  rw [← hbd] at C' ⊢
  have HW0 := hid hW0
  have HV := hid hv
  have HR := hid hr
  have NE := hid (hr.ne hf)
  have OL := hid (fun H (h : w.heap.size ≤ H) => own_lt hr.row h)
  have RL := hid (lt_of_block hr.blk)
  clear hv hf hr I0 P0 hW0 C PA hit hrst hbd
  go_enter Tryd.func24, Tryd.ntmps24
  go_wp2_with fail
  rw [← HW0.out]
  clear HW0
  with_reducible refine C'.out.mono ?_
  rintro e w1 ⟨rfl, h1, k1, t1⟩
  have H1 := hid h1
  have T1 := hid t1
  obtain ⟨q0, q1, q2, q3⟩ := quad_cells k1
  have ql := lt_of_block k1
  have TT : Hid (Tn (fun b => b = F) w w1) := hid ⟨t1.os.trans BW0.out.os, t1.tape.trans BW0.out.tape, t1.output.trans BW0.out.output, Nat.le_trans BW0.out.size t1.size, fun b hb hs => (t1.block b (Nat.lt_of_lt_of_le hb BW0.out.size) (fun e => by rcases e with e | e; exact hs e; omega)).trans (BW0.out.block b hb)⟩
  have V1 := hid (HV.out.tn TT.out (fun g hg e => by omega))
  have R1 := hid (HR.out.tn TT.out (fun e => NE.out.1 e.symm) (fun b hb => by rw [hb]; exact NE.out.2.1))
  have Z1 := hid (show B ≤ w1.heap.size by have := TT.out.size; omega)
  have A := hid (add_any F R B rst bd v xs it w1 V1.out hF Z1.out hl H1.out R1.out)
  clear h1 k1 t1
  go_wp2_with (go_at_call 38; with_reducible refine A.out.mono ?_)
  rintro e w2 ⟨rfl, h2, r2, t2⟩
  have H2 := hid h2
  have R2 := hid r2
  have T2 := hid t2
  clear h2 r2 t2
  go_wp2
  go_end0
  exact ⟨rfl, H2.out, R2.out, (TT.out.mono (fun i _ h => .inl h)).trans T2.out⟩

set_option maxRecDepth 100000 in
set_option maxHeartbeats 1600000 in
theorem readPublish_any (F R B : Nat) (fs : List (List UInt8)) (v : Value) (xs : List ScI) (w : World) (hv : Vars w) (hF : 12 < F) (hB : B ≤ w.heap.size) (hl : xs.length ≤ 4000) (hfl : ∀ f ∈ fs, f.length ≤ 1048576) (hf : FAt w F fs false) (hr : RAt w B R v xs) :
    ReadsTo 25 B R F v xs fs w ⟨2, 0, rdN fs, rdN fs.tail⟩ (restAll [2, 3] fs) (badAll false [2, 3] fs) := by
  unfold ReadsTo
  have hFl := hf.lt
  obtain ⟨W0, hW0⟩ : ∃ W, W = (w.alloc (.cells #[.int .i64 2, .int .i64 0, .int .i64 0, .int .i64 0] 31)).alloc (.cells #[.pointer (some ⟨w.heap.size, 2, none⟩), .pointer (some ⟨w.heap.size, 3, none⟩)] 89) := ⟨_, rfl⟩
  have BW0 := hid (show Below w.heap.size w W0 by rw [hW0]; exact below2 _ _ _)
  have I0 : W0.heap[w.heap.size]? = some (.cells #[.int .i64 2, .int .i64 0, .int .i64 0, .int .i64 0] 31 (0, 0)) := by rw [hW0]; exact block_below (heap_alloc_new w _) (below1 _ _)
  have P0 : W0.heap[w.heap.size + 1]? = some (.cells #[.pointer (some ⟨w.heap.size, 2, none⟩), .pointer (some ⟨w.heap.size, 3, none⟩)] 89 (0, 0)) := by
    rw [hW0]; simpa using heap_alloc_new (w.alloc (.cells #[.int .i64 2, .int .i64 0, .int .i64 0, .int .i64 0] 31)) (.cells #[.pointer (some ⟨w.heap.size, 2, none⟩), .pointer (some ⟨w.heap.size, 3, none⟩)] 89)
  have C := hid (numbers_any F (w.heap.size + 1) w.heap.size [2, 3] 2 _ _ fs false W0 (hv.below BW0.out (by omega) (Nat.le_refl _)) hF (by omega) (by omega) (by omega) (by omega) (lt_of_block P0) (by decide) hfl (hf.below BW0.out) I0 (by decide)
    (by intro j hj; have : j = 0 ∨ j = 1 := by simp at hj; omega
        rcases this with rfl | rfl <;> decide)
    (by intro j hj; have : j = 0 ∨ j = 1 := by simp at hj; omega
        rw [Lib.cell_of_heap P0]
        rcases this with rfl | rfl <;> rfl))
  obtain ⟨it, hit⟩ : ∃ it : ScI, it = ⟨2, 0, rdN fs, rdN fs.tail⟩ := ⟨_, rfl⟩
  have PA : putAll #[.int .i64 2, .int .i64 0, .int .i64 0, .int .i64 0] [2, 3] fs = #[.int .i64 it.k, .int .i64 it.o, .int .i64 it.s, .int .i64 it.v] := by rw [hit]; simp [putAll]
  rw [PA] at C
  have C' : Hid (Calls Tryd.prog 37 #[.pointer (some ⟨F, 0, none⟩), .slice (some ⟨w.heap.size + 1, 0, none⟩) 2 2] W0 fun e w' => e = .returned (.tuple #[]) ∧ FAt w' F (restAll [2, 3] fs) (badAll false [2, 3] fs) ∧ w'.heap[w.heap.size]? = some (.cells #[.int .i64 it.k, .int .i64 it.o, .int .i64 it.s, .int .i64 it.v] 31 (0, 0)) ∧ Tn (fun b => b = F ∨ b = w.heap.size) W0 w') := hid C.out
  rw [← hit]
  obtain ⟨rst, hrst⟩ : ∃ r, r = restAll [2, 3] fs := ⟨_, rfl⟩
  obtain ⟨bd, hbd⟩ : ∃ r, r = badAll false [2, 3] fs := ⟨_, rfl⟩
  rw [← hrst] at C' ⊢
  rw [← hbd] at C' ⊢
  have HW0 := hid hW0
  have HV := hid hv
  have HR := hid hr
  have NE := hid (hr.ne hf)
  have OL := hid (fun H (h : w.heap.size ≤ H) => own_lt hr.row h)
  have RL := hid (lt_of_block hr.blk)
  clear hv hf hr I0 P0 hW0 C PA hit hrst hbd
  go_enter Tryd.func25, Tryd.ntmps25
  go_wp2_with fail
  rw [← HW0.out]
  clear HW0
  with_reducible refine C'.out.mono ?_
  rintro e w1 ⟨rfl, h1, k1, t1⟩
  have H1 := hid h1
  have T1 := hid t1
  obtain ⟨q0, q1, q2, q3⟩ := quad_cells k1
  have ql := lt_of_block k1
  have TT : Hid (Tn (fun b => b = F) w w1) := hid ⟨t1.os.trans BW0.out.os, t1.tape.trans BW0.out.tape, t1.output.trans BW0.out.output, Nat.le_trans BW0.out.size t1.size, fun b hb hs => (t1.block b (Nat.lt_of_lt_of_le hb BW0.out.size) (fun e => by rcases e with e | e; exact hs e; omega)).trans (BW0.out.block b hb)⟩
  have V1 := hid (HV.out.tn TT.out (fun g hg e => by omega))
  have R1 := hid (HR.out.tn TT.out (fun e => NE.out.1 e.symm) (fun b hb => by rw [hb]; exact NE.out.2.1))
  have Z1 := hid (show B ≤ w1.heap.size by have := TT.out.size; omega)
  have A := hid (add_any F R B rst bd v xs it w1 V1.out hF Z1.out hl H1.out R1.out)
  clear h1 k1 t1
  go_wp2_with (go_at_call 38; with_reducible refine A.out.mono ?_)
  rintro e w2 ⟨rfl, h2, r2, t2⟩
  have H2 := hid h2
  have R2 := hid r2
  have T2 := hid t2
  clear h2 r2 t2
  go_wp2
  go_end0
  exact ⟨rfl, H2.out, R2.out, (TT.out.mono (fun i _ h => .inl h)).trans T2.out⟩

set_option maxRecDepth 100000 in
set_option maxHeartbeats 1600000 in
theorem readTick_any (F R B : Nat) (fs : List (List UInt8)) (v : Value) (xs : List ScI) (w : World) (hv : Vars w) (hF : 12 < F) (hB : B ≤ w.heap.size) (hl : xs.length ≤ 4000) (hfl : ∀ f ∈ fs, f.length ≤ 1048576) (hf : FAt w F fs false) (hr : RAt w B R v xs) :
    ReadsTo 26 B R F v xs fs w ⟨3, 0, 0, rdN fs⟩ fs.tail ((false || !okN fs) || !decide (1 ≤ rdN fs ∧ rdN fs ≤ 100)) := by
  unfold ReadsTo
  have hFl := hf.lt
  have C := hid (number_any F fs false w hv hF hfl hf)
  obtain ⟨z, hz⟩ : ∃ z, z = rdN fs := ⟨_, rfl⟩
  rw [← hz] at C ⊢
  obtain ⟨b0, hb0⟩ : ∃ z, z = (false || !okN fs) := ⟨_, rfl⟩
  rw [← hb0] at C ⊢
  obtain ⟨bb, hbb⟩ : ∃ bb : Bool, bb = decide (1 ≤ z ∧ z ≤ 100) := ⟨_, rfl⟩
  rw [← hbb]
  have LB := hid (between_low z 1 100 bb hbb)
  obtain ⟨it, hit⟩ : ∃ it : ScI, it = ⟨3, 0, 0, z⟩ := ⟨_, rfl⟩
  rw [← hit]
  have HIT : Hid (it.k = 3 ∧ it.o = 0 ∧ it.s = 0 ∧ it.v = z) := hid (by rw [hit]; exact ⟨rfl, rfl, rfl, rfl⟩)
  have HV := hid hv
  have HR := hid hr
  have NE := hid (hr.ne hf)
  obtain ⟨te, pe, hfe⟩ := hv.field
  have HFE := hid hfe
  clear hv hf hr hz hb0 hbb hit hfe
  go_enter Tryd.func26, Tryd.ntmps26
  go_wp2_with (go_at_call 39; with_reducible refine C.out.mono ?_)
  rintro e w1 ⟨rfl, h1, t1⟩
  have T1 := hid t1
  obtain ⟨W, hW⟩ : ∃ W, W = w1.alloc (.cells #[.int .i64 3, .int .i64 0, .int .i64 0, .int .i64 z] 31) := ⟨_, rfl⟩
  have BW : Hid (Below w1.heap.size w1 W) := hid (by rw [hW]; exact below1 _ _)
  have I0 := hid (show W.heap[w1.heap.size]? = some (.cells #[.int .i64 3, .int .i64 0, .int .i64 0, .int .i64 z] 31 (0, 0)) by rw [hW]; exact heap_alloc_new _ _)
  obtain ⟨p0, p1, p2, p3⟩ := quad_cells I0.out
  have pl := lt_of_block I0.out
  have TT := hid (t1.trans (Tn.of_below BW.out))
  have H1 := hid (h1.below BW.out)
  have V1 := hid (HV.out.tn TT.out (fun g hg e => by omega))
  have hfe1 : W.cell? ⟨4, 0, none⟩ = some (.iface te pe) := (cell_same (TT.out.block 4 (Lib.lt_of_cell HFE.out) (fun e => by omega)) 0).trans HFE.out
  have gl := Lib.lt_of_cell hfe1
  have HW := hid hW
  clear h1 t1 hW
  go_wp2_with fail
  rw [← HW.out]
  clear HW
  go_region_with (first
    | (go_at_call 41; with_reducible refine (LB.out _).mono ?_; rintro e w4 ⟨rfl, hw4⟩; obtain rfl := hw4.symm)
    | (go_at_call 40; with_reducible refine (need_any F fs.tail b0 bb te pe _ H1.out.drew).mono ?_; rintro e w3 ⟨rfl, h3, t3⟩; have H3 := hid h3; have T3 := hid ((Tn.of_below (S := (· = F)) ((Below.refl W.heap.size W).drew)).trans t3); clear h3 t3))
  all_goals
    have I3 := hid (T3.out.at I0.out (fun e => by have := T1.out.size; omega))
    obtain ⟨q0, q1, q2, q3⟩ := quad_cells I3.out
    have ql := lt_of_block I3.out
    have T03 := hid (TT.out.trans T3.out)
    have V3 := hid (HV.out.tn T03.out (fun g hg e => by omega))
    have R3 := hid (HR.out.tn T03.out (fun e => NE.out.1 e.symm) (fun b hb => by rw [hb]; exact NE.out.2.1))
    have Z3 := hid (show B ≤ w3.heap.size by have := T03.out.size; omega)
    have A0 := add_any F R B fs.tail (b0 || !bb) v xs it w3 V3.out hF Z3.out hl H3.out R3.out
    rw [HIT.out.1, HIT.out.2.1, HIT.out.2.2.1, HIT.out.2.2.2] at A0
    have A := hid A0
    clear A0
    go_wp2_with (go_at_call 38; with_reducible refine A.out.mono ?_)
    rintro e w5 ⟨rfl, h2, r2, t2⟩
    have H2 := hid h2
    have R2 := hid r2
    have T2 := hid t2
    clear h2 r2 t2
    go_wp2
    go_end0
    exact ⟨rfl, H2.out, R2.out, (T03.out.mono (fun i _ h => .inl h)).trans T2.out⟩

set_option maxRecDepth 100000 in
set_option maxHeartbeats 1600000 in
theorem readRun_any (F R B : Nat) (fs : List (List UInt8)) (v : Value) (xs : List ScI) (w : World) (hv : Vars w) (hF : 12 < F) (hB : B ≤ w.heap.size) (hl : xs.length ≤ 4000) (hfl : ∀ f ∈ fs, f.length ≤ 1048576) (hf : FAt w F fs false) (hr : RAt w B R v xs) :
    ReadsTo 27 B R F v xs fs w ⟨4, 0, 0, rdN fs⟩ fs.tail ((false || !okN fs) || !decide (0 ≤ rdN fs ∧ rdN fs ≤ 10000)) := by
  unfold ReadsTo
  have hFl := hf.lt
  have C := hid (number_any F fs false w hv hF hfl hf)
  obtain ⟨z, hz⟩ : ∃ z, z = rdN fs := ⟨_, rfl⟩
  rw [← hz] at C ⊢
  obtain ⟨b0, hb0⟩ : ∃ z, z = (false || !okN fs) := ⟨_, rfl⟩
  rw [← hb0] at C ⊢
  obtain ⟨bb, hbb⟩ : ∃ bb : Bool, bb = decide (0 ≤ z ∧ z ≤ 10000) := ⟨_, rfl⟩
  rw [← hbb]
  have LB := hid (between_low z 0 10000 bb hbb)
  obtain ⟨it, hit⟩ : ∃ it : ScI, it = ⟨4, 0, 0, z⟩ := ⟨_, rfl⟩
  rw [← hit]
  have HIT : Hid (it.k = 4 ∧ it.o = 0 ∧ it.s = 0 ∧ it.v = z) := hid (by rw [hit]; exact ⟨rfl, rfl, rfl, rfl⟩)
  have HV := hid hv
  have HR := hid hr
  have NE := hid (hr.ne hf)
  obtain ⟨te, pe, hfe⟩ := hv.field
  have HFE := hid hfe
  clear hv hf hr hz hb0 hbb hit hfe
  go_enter Tryd.func27, Tryd.ntmps27
  go_wp2_with (go_at_call 39; with_reducible refine C.out.mono ?_)
  rintro e w1 ⟨rfl, h1, t1⟩
  have T1 := hid t1
  obtain ⟨W, hW⟩ : ∃ W, W = w1.alloc (.cells #[.int .i64 4, .int .i64 0, .int .i64 0, .int .i64 z] 31) := ⟨_, rfl⟩
  have BW : Hid (Below w1.heap.size w1 W) := hid (by rw [hW]; exact below1 _ _)
  have I0 := hid (show W.heap[w1.heap.size]? = some (.cells #[.int .i64 4, .int .i64 0, .int .i64 0, .int .i64 z] 31 (0, 0)) by rw [hW]; exact heap_alloc_new _ _)
  obtain ⟨p0, p1, p2, p3⟩ := quad_cells I0.out
  have pl := lt_of_block I0.out
  have TT := hid (t1.trans (Tn.of_below BW.out))
  have H1 := hid (h1.below BW.out)
  have V1 := hid (HV.out.tn TT.out (fun g hg e => by omega))
  have hfe1 : W.cell? ⟨4, 0, none⟩ = some (.iface te pe) := (cell_same (TT.out.block 4 (Lib.lt_of_cell HFE.out) (fun e => by omega)) 0).trans HFE.out
  have gl := Lib.lt_of_cell hfe1
  have HW := hid hW
  clear h1 t1 hW
  go_wp2_with fail
  rw [← HW.out]
  clear HW
  go_region_with (first
    | (go_at_call 41; with_reducible refine (LB.out _).mono ?_; rintro e w4 ⟨rfl, hw4⟩; obtain rfl := hw4.symm)
    | (go_at_call 40; with_reducible refine (need_any F fs.tail b0 bb te pe _ H1.out.drew).mono ?_; rintro e w3 ⟨rfl, h3, t3⟩; have H3 := hid h3; have T3 := hid ((Tn.of_below (S := (· = F)) ((Below.refl W.heap.size W).drew)).trans t3); clear h3 t3))
  all_goals
    have I3 := hid (T3.out.at I0.out (fun e => by have := T1.out.size; omega))
    obtain ⟨q0, q1, q2, q3⟩ := quad_cells I3.out
    have ql := lt_of_block I3.out
    have T03 := hid (TT.out.trans T3.out)
    have V3 := hid (HV.out.tn T03.out (fun g hg e => by omega))
    have R3 := hid (HR.out.tn T03.out (fun e => NE.out.1 e.symm) (fun b hb => by rw [hb]; exact NE.out.2.1))
    have Z3 := hid (show B ≤ w3.heap.size by have := T03.out.size; omega)
    have A0 := add_any F R B fs.tail (b0 || !bb) v xs it w3 V3.out hF Z3.out hl H3.out R3.out
    rw [HIT.out.1, HIT.out.2.1, HIT.out.2.2.1, HIT.out.2.2.2] at A0
    have A := hid A0
    clear A0
    go_wp2_with (go_at_call 38; with_reducible refine A.out.mono ?_)
    rintro e w5 ⟨rfl, h2, r2, t2⟩
    have H2 := hid h2
    have R2 := hid r2
    have T2 := hid t2
    clear h2 r2 t2
    go_wp2
    go_end0
    exact ⟨rfl, H2.out, R2.out, (T03.out.mono (fun i _ h => .inl h)).trans T2.out⟩

end Go.Proofs.YtcdcjpejlhcdnaaDoor
