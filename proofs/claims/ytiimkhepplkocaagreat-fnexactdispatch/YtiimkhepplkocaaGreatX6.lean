import Derived.Test.YtiimkhepplkocaaGreatX5
namespace Go.Proofs.YtiimkhepplkocaaGreat
open Go.RowKit Go.Sort

set_option linter.unusedVariables false

theorem truthI_I64 (b : Bool) : I64 (truthI b) := by cases b <;> simp [truthI, I64]

theorem conv_I64 {k x : Int} (hx : I64 x) : I64 (conv k x) := by
  unfold I64 at *
  unfold conv
  split
  · omega
  split
  · omega
  split
  · omega
  split
  · omega
  split
  · omega
  split
  · omega
  split <;> omega

theorem joinV_I64 (N : Nat) : I64 (joinV N 64) := by
  have h2 := Nat.mod_lt N (y := 2 ^ 63) (Nat.pow_pos (by omega))
  have e : (2 : Nat) ^ 63 = 9223372036854775808 := by decide
  unfold joinV I64
  rw [if_neg (by omega)]
  split <;> omega

theorem tmod_I64 {x y : Int} (hx : I64 x) (hy : y ≠ 0) : I64 (x.tmod y) := by
  have h1 : (x.tmod y).natAbs ≤ x.natAbs := by
    rw [Int.natAbs_tmod]
    exact Nat.mod_le _ _
  unfold I64 at *
  rcases Int.le_total 0 x with h | h
  · have := Int.tmod_nonneg y h
    omega
  · have h2 : 0 ≤ (-x).tmod y := Int.tmod_nonneg y (by omega)
    rw [Int.neg_tmod] at h2
    omega

theorem binV_I64 {op x y : Int} (h : binOk op) (hx : I64 x) (hy : I64 y) : I64 (binV op x y) := by
  have hk : op = 4 ∨ op = 5 ∨ op = 6 ∨ op = 7 ∨ op = 8 ∨ op = 9 ∨ op = 10 ∨ op = 11 ∨ op = 12 ∨ op = 14 ∨ op = 15 ∨ op = 16 ∨ op = 17 ∨ op = 18 := by unfold binOk at h; omega
  have z : I64 0 := by unfold I64; omega
  rcases hk with rfl | rfl | rfl | rfl | rfl | rfl | rfl | rfl | rfl | rfl | rfl | rfl | rfl | rfl
  · exact wrap64_I64 _
  · exact wrap64_I64 _
  · exact wrap64_I64 _
  · show I64 (if y = 0 then 0 else wrap64 (x.tdiv y))
    split
    · exact z
    · exact wrap64_I64 _
  · show I64 (if y = 0 then 0 else x.tmod y)
    split
    · exact z
    · exact tmod_I64 hx (by assumption)
  · exact truthI_I64 _
  · exact truthI_I64 _
  · exact truthI_I64 _
  · exact truthI_I64 _
  · have e : binV 14 x y = joinV (joinN 14 x y) 64 := by simp only [binV]; simp; exact bits_join 14 .and x y (by simp)
    rw [e]; exact joinV_I64 _
  · have e : binV 15 x y = joinV (joinN 15 x y) 64 := by simp only [binV]; simp; exact bits_join 15 .or x y (by simp)
    rw [e]; exact joinV_I64 _
  · have e : binV 16 x y = joinV (joinN 16 x y) 64 := by simp only [binV]; simp; exact bits_join 16 .xor x y (by simp)
    rw [e]; exact joinV_I64 _
  · show I64 (if cntS y then wrap64 (x * 2 ^ y.toNat) else 0)
    split
    · exact wrap64_I64 _
    · exact z
  · show I64 (if cntS y then x / 2 ^ y.toNat else x / 9223372036854775808)
    split
    · exact ediv_bd hx _
    · unfold I64 at *; omega

/-- What l1Value gives at e is the value of the tree there. -/
def ValAt (w : World) (ao : Option Addr) (n c : Nat) (vo : Option Addr) (vn vc : Nat) (vs : List Int) (arg : Int) (e : Nat) (t : Tree) : Prop :=
  I64 (evalT vs arg t) ∧ ∀ w', Below w.heap.size w w' → Calls Tryz.prog 112 #[.slice ao n c, .int .i64 e, .slice vo vn vc, .int .i64 arg] w' fun r w'' => r = .returned (.int .i64 (evalT vs arg t)) ∧ Below w'.heap.size w' w''

section
variable {w : World} {ao : Option Addr} {n c : Nat} {its : List (Int × Int)} {vo : Option Addr} {vn vc : Nat} {vs : List Int} {arg : Int}

set_option maxHeartbeats 800000 in
theorem val_num (hs : ItemsOf w ao n its) (hn : n ≤ 1048576) {e : Nat} (he : e < n) {x : Int} (hit : its.getD e (0, 0) = (1, x)) (hx : I64 x) : ValAt w ao n c vo vn vc vs arg (e + 1) (.num x) := by
  refine ⟨hx, fun w' hb => ?_⟩
  obtain ⟨b, off, rfl, hbl, hc⟩ := (hs.below hb).2 (by omega)
  have k1 := (hc e he).1
  have k2 := (hc e he).2
  rw [hit] at k1 k2
  simp only at k1 k2
  show Calls _ _ _ _ fun r w'' => r = .returned (.int .i64 x) ∧ _
  clear hc hs hb hit
  have hlt : (e : Int) < (n : Int) := by omega
  go_enter Tryz.func112, Tryz.ntmps112
  go_wp2
  go_ret
  exact ⟨rfl, below1 _ _⟩

set_option maxHeartbeats 800000 in
theorem val_arg (hs : ItemsOf w ao n its) (hn : n ≤ 1048576) {e : Nat} (he : e < n) {x : Int} (hit : its.getD e (0, 0) = (3, x)) (hx : I64 arg) : ValAt w ao n c vo vn vc vs arg (e + 1) .arg := by
  refine ⟨hx, fun w' hb => ?_⟩
  obtain ⟨b, off, rfl, hbl, hc⟩ := (hs.below hb).2 (by omega)
  have k1 := (hc e he).1
  have k2 := (hc e he).2
  rw [hit] at k1 k2
  simp only at k1 k2
  show Calls _ _ _ _ fun r w'' => r = .returned (.int .i64 arg) ∧ _
  clear hc hs hb hit
  have hlt : (e : Int) < (n : Int) := by omega
  go_enter Tryz.func112, Tryz.ntmps112
  go_wp2
  go_ret
  exact ⟨rfl, below1 _ _⟩

set_option maxHeartbeats 800000 in
theorem val_var (hs : ItemsOf w ao n its) (hv : SliceOf w vo vn vs) (hn : n ≤ 1048576) {e : Nat} (he : e < n) {k : Nat} (hk : k < vn) (hit : its.getD e (0, 0) = (2, (k : Int))) (hx : ∀ i, I64 (vs.getD i 0)) : ValAt w ao n c vo vn vc vs arg (e + 1) (.var k) := by
  have ev : evalT vs arg (.var k) = vs.getD k 0 := by simp [evalT]
  refine ⟨by rw [ev]; exact hx k, fun w' hb => ?_⟩
  rw [ev]
  obtain ⟨b, off, rfl, hbl, hc⟩ := (hs.below hb).2 (by omega)
  obtain ⟨b2, off2, rfl, hbl2, hc2⟩ := (hv.below hb).2 (by omega)
  have k1 := (hc e he).1
  have k2 := (hc e he).2
  have k3 := hc2 k hk
  rw [hit] at k1 k2
  simp only at k1 k2
  obtain ⟨z, hz⟩ : ∃ z, z = vs.getD k 0 := ⟨_, rfl⟩
  rw [← hz] at k3 ⊢
  clear hc hc2 hs hv hb hit ev hz hx
  have hlt : (e : Int) < (n : Int) := by omega
  have hlt2 : (k : Int) < (vn : Int) := by omega
  go_enter Tryz.func112, Tryz.ntmps112
  go_wp2
  go_ret
  exact ⟨rfl, below1 _ _⟩

set_option maxHeartbeats 800000 in
theorem val_no (hs : ItemsOf w ao n its) (hn : n ≤ 1048576) {e : Nat} (he : e < n) {x : Int} {t : Tree} (hit : its.getD e (0, 0) = (13, x)) (ht : ValAt w ao n c vo vn vc vs arg e t) : ValAt w ao n c vo vn vc vs arg (e + 1) (.no t) := by
  refine ⟨truthI_I64 _, fun w' hb => ?_⟩
  show Calls _ _ _ _ fun r w'' => r = .returned (.int .i64 (truthI (evalT vs arg t == 0))) ∧ _
  obtain ⟨b, off, rfl, hbl, hc⟩ := (hs.below hb).2 (by omega)
  have k1 := (hc e he).1
  have k2 := (hc e he).2
  rw [hit] at k1 k2
  simp only at k1 k2
  have C := hid (fun w'' h => ht.2 w'' (hb.trans (Below.mono h hb.size)))
  have T := hid bit_any
  obtain ⟨q, hq⟩ : ∃ q, q = evalT vs arg t := ⟨_, rfl⟩
  rw [← hq] at C ⊢
  clear hc hs hb hit ht hq
  have hlt : (e : Int) < (n : Int) := by omega
  go_enter Tryz.func112, Tryz.ntmps112
  go_wp2_with (first | (go_at_call 112; refine (C.out _ (below1 _ _)).mono ?_; rintro r w1 ⟨rfl, hb⟩; have B := hid hb; clear hb) | (go_at_call 150; refine (T.out _ _).mono ?_; rintro r w2 ⟨rfl, hw⟩; obtain rfl := hw.symm))
  go_ret
  exact ⟨rfl, (below1 _ _).trans (B.out.mono (by simp))⟩

set_option maxHeartbeats 1600000 in
theorem val_bin (hs : ItemsOf w ao n its) (hn : n ≤ 1048576) {e : Nat} (he : e < n) {op x : Int} {l r : Tree} (hop : binOk op) (hit : its.getD e (0, 0) = (op, x)) (hr : ValAt w ao n c vo vn vc vs arg e r) (h0 : 0 ≤ bgn its e) (hl : ValAt w ao n c vo vn vc vs arg (bgn its e).toNat l) : ValAt w ao n c vo vn vc vs arg (e + 1) (.bin op l r) := by
  refine ⟨binV_I64 hop hl.1 hr.1, fun w' hb => ?_⟩
  show Calls _ _ _ _ fun q w'' => q = .returned (.int .i64 (binV op (evalT vs arg l) (evalT vs arg r))) ∧ _
  have A := hid (fun w => apply_any op (evalT vs arg l) (evalT vs arg r) w hop hl.1 hr.1)
  have G := hid (fun w'' (h : Below w'.heap.size w' w'') => l1Begin_any ao n c its hn e w'' (by omega) ((hs.below hb).below h))
  obtain ⟨b, off, rfl, hbl, hc⟩ := (hs.below hb).2 (by omega)
  have k1 := (hc e he).1
  have k2 := (hc e he).2
  rw [hit] at k1 k2
  simp only at k1 k2
  have CR := hid (fun w'' h => hr.2 w'' (hb.trans (Below.mono h hb.size)))
  have CL := hid (fun w'' h => hl.2 w'' (hb.trans (Below.mono h hb.size)))
  obtain ⟨m, hm⟩ : ∃ m : Nat, bgn its e = m := ⟨(bgn its e).toNat, by omega⟩
  rw [hm] at CL G
  have em : ((m : Int)).toNat = m := by omega
  rw [em] at CL
  obtain ⟨ql, hql⟩ : ∃ q, q = evalT vs arg l := ⟨_, rfl⟩
  obtain ⟨qr, hqr⟩ : ∃ q, q = evalT vs arg r := ⟨_, rfl⟩
  rw [← hql] at CL A ⊢
  rw [← hqr] at CR A ⊢
  have e1 : (op == 1) = false := by unfold binOk at hop; simp; omega
  have e2 : (op == 2) = false := by unfold binOk at hop; simp; omega
  have e3 : (op == 3) = false := by unfold binOk at hop; simp; omega
  have e13 : (op == 13) = false := by unfold binOk at hop; simp; omega
  have e19 : (op == 19) = false := by unfold binOk at hop; simp; omega
  have R1 := hid (heap_alloc_new w' (.cells #[.int .i64 op, .int .i64 x] 205))
  clear hc hs hb hit hl hr hql hqr hop h0 hm em
  have hlt : (e : Int) < (n : Int) := by omega
  go_enter Tryz.func112, Tryz.ntmps112
  go_wp2_with (go_at_call 112; refine (CR.out _ (below1 _ _)).mono ?_; rintro q w1 ⟨rfl, hb⟩; have B := hid ((below1 _ _).trans (hb.mono (by simp))); have R2 := hid (block_below R1.out hb); clear hb)
  go_wp2_with (go_at_call 149; refine (G.out _ B.out).mono ?_; rintro q w2 ⟨rfl, hw⟩; obtain rfl := hw.symm)
  go_wp2_with (go_at_call 112; refine (CL.out _ B.out).mono ?_; rintro q w3 ⟨rfl, hb⟩; have B3 := hid (B.out.trans (hb.mono B.out.size)); obtain ⟨r0, r1, _, _⟩ := pair_cells (block_below R2.out hb); clear hb)
  go_wp2_with (go_at_call 151; refine (A.out _).mono ?_; rintro q w4 ⟨rfl, hw⟩; obtain rfl := hw.symm)
  go_ret
  exact ⟨rfl, B3.out⟩
end

end Go.Proofs.YtiimkhepplkocaaGreat
