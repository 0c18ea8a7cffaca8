import Derived.Test.YtcdcjpejlhcdnaaDoorSr2
namespace Go.Proofs.YtcdcjpejlhcdnaaDoor
open Go.RowKit Go.Sort
set_option linter.unusedVariables false
attribute [local go_sem ↓] Go.wp_at_zero Go.wp_at_succ

theorem nDigits_lt : ∀ (k u : Nat), u < 10 ^ (k + 1) → Lib.nDigits u ≤ k + 1
  | 0, u, h => by rw [Lib.nDigits_small (by simpa using h)]; omega
  | k + 1, u, h => by
    by_cases h2 : u < 10
    · rw [Lib.nDigits_small h2]; omega
    · rw [Lib.nDigits_big h2]
      have := nDigits_lt k (u / 10) (by rw [Nat.pow_succ] at h; omega)
      omega
theorem itoa_len20 {n : Int} (h0 : -9223372036854775808 ≤ n) (h1 : n ≤ 9223372036854775807) : 1 ≤ (Lib.itoa n).length ∧ (Lib.itoa n).length ≤ 20 := by
  unfold Lib.itoa
  split
  · have := nDigits_lt 18 n.natAbs (by omega)
    have h2 := Lib.decDigits_length n.natAbs
    simp; omega
  · have := nDigits_lt 18 n.toNat (by omega)
    have h2 := Lib.decDigits_length n.toNat
    have h3 := Lib.nDigits_pos n.toNat
    omega
/-- What has been reckoned of a number behind k signs. -/
def numW (l : List UInt8) (k : Nat) : Int := if l.getD 0 0 = 45 then ((l.take k).drop 1).foldl (stepW true) 0 else (l.take k).foldl (stepW false) 0
theorem stepW_I64 (b : Bool) (n : Int) (c : UInt8) : -9223372036854775808 ≤ stepW b n c ∧ stepW b n c ≤ 9223372036854775807 := by
  unfold stepW
  split <;> (unfold wrap64; constructor <;> omega)
theorem foldW_I64 (b : Bool) : ∀ (l : List UInt8) (n : Int), (-9223372036854775808 ≤ n ∧ n ≤ 9223372036854775807) → -9223372036854775808 ≤ l.foldl (stepW b) n ∧ l.foldl (stepW b) n ≤ 9223372036854775807
  | [], n, h => h
  | c :: r, n, h => foldW_I64 b r _ (stepW_I64 b n c)
theorem numW_I64 (l : List UInt8) (k : Nat) : -9223372036854775808 ≤ numW l k ∧ numW l k ≤ 9223372036854775807 := by
  unfold numW
  split
  · exact foldW_I64 _ _ _ (by omega)
  · exact foldW_I64 _ _ _ (by omega)
theorem take_snoc2 (l : List UInt8) (k : Nat) (h : k < l.length) : l.take (k + 1) = l.take k ++ [l.getD k 0] := by
  rw [List.take_add_one]
  simp [List.getD_eq_getElem?_getD, h]
theorem numW_sign (l : List UInt8) (h : 0 < l.length) (h0 : l.getD 0 0 = 45) : numW l (0 + 1) = numW l 0 := by
  unfold numW
  rw [if_pos h0, if_pos h0, take_snoc2 l 0 h]
  simp
theorem numW_neg (l : List UInt8) (k : Nat) (h : k < l.length) (h0 : l.getD 0 0 = 45) (hk : ¬ l.getD k 0 = 45) : numW l (k + 1) = wrap64 (wrap64 (numW l k * 10) - (((l.getD k 0).toNat : Int) - 48)) := by
  have h1 : k ≠ 0 := by rintro rfl; exact hk h0
  unfold numW
  rw [if_pos h0, if_pos h0, take_snoc2 l k h, List.drop_append_of_le_length (by simp; omega), List.foldl_append]
  rfl
theorem numW_pos (l : List UInt8) (k : Nat) (h : k < l.length) (h0 : ¬ l.getD 0 0 = 45) : numW l (k + 1) = wrap64 (wrap64 (numW l k * 10) + (((l.getD k 0).toNat : Int) - 48)) := by
  unfold numW
  rw [if_neg h0, if_neg h0, take_snoc2 l k h, List.foldl_append]
  rfl
theorem numW_itoa (v : Int) (h0 : -9223372036854775808 ≤ v) (h1 : v ≤ 9223372036854775807) : numW (Lib.itoa v) (Lib.itoa v).length = v := by
  unfold numW Lib.itoa
  by_cases hn : v < 0
  · rw [if_pos hn, if_pos (by rfl), List.take_length]
    simp only [List.drop_succ_cons, List.drop_zero]
    rw [foldW_neg _ (by omega)]
    omega
  · rw [if_neg hn]
    have hd : ¬ (Lib.decDigits v.toNat).getD 0 0 = 45 := by
      have h2 := dec_digits v.toNat
      cases hx : Lib.decDigits v.toNat with
      | nil => exact absurd hx (dec_ne _)
      | cons c r =>
        rw [hx] at h2
        have := h2 c (by simp)
        simp
        rintro rfl
        revert this
        decide
    rw [if_neg hd, List.take_length, foldW_pos _ (by omega)]
    omega
theorem num_is (l : List UInt8) : num? l = if Lib.itoa (numW l l.length) = l then some (numW l l.length) else none := by
  split
  · rename_i h
    have hb := numW_I64 l l.length
    have := num_itoa _ hb.1 hb.2
    rw [h] at this
    exact this
  · rename_i h
    cases hx : num? l with
    | none => rfl
    | some v =>
      obtain ⟨h1, h2, h3⟩ := num_some hx
      have := numW_itoa v h2 h3
      rw [h1] at this
      rw [this] at h
      exact absurd h1 h
theorem num_digits {l : List UInt8} {v : Int} (h : num? l = some v) (k : Nat) (hk : k < l.length) : (k = 0 ∧ l.getD k 0 = 45) ∨ (48 ≤ (l.getD k 0).toNat ∧ (l.getD k 0).toNat ≤ 57) := by
  obtain ⟨h1, _, _⟩ := num_some h
  subst h1
  revert hk
  unfold Lib.itoa
  split
  · intro hk
    cases k with
    | zero => left; exact ⟨rfl, rfl⟩
    | succ j =>
      right
      have := dec_digits v.natAbs ((Lib.decDigits v.natAbs).getD j 0) (by
        have hj : j < (Lib.decDigits v.natAbs).length := by simpa using hk
        rw [List.getD_eq_getElem?_getD, List.getElem?_eq_getElem hj]; simp)
      simpa using this
  · intro hk
    right
    have := dec_digits v.toNat ((Lib.decDigits v.toNat).getD k 0) (by
      rw [List.getD_eq_getElem?_getD, List.getElem?_eq_getElem hk]; simp)
    exact this
theorem num_len {l : List UInt8} {v : Int} (h : num? l = some v) : 1 ≤ l.length ∧ l.length ≤ 20 := by
  obtain ⟨h1, h2, h3⟩ := num_some h
  subst h1
  exact itoa_len20 h2 h3
theorem str_ne {t s : ByteArray} (h : ¬ t = s) : (t.toList == s.toList) = false := by
  rw [beq_eq_false_iff_ne, ne_eq, ByteArray.toList_eq, ByteArray.toList_eq]
  exact fun e => h (ByteArray.ext (Array.toList_inj.1 e))
/-- How a number is answered. -/
def numR (l : List UInt8) (e : Ending) : Prop := ∃ n : Int, e = .returned (.tuple #[.int .i64 n, .bool (num? l).isSome]) ∧ ∀ v, num? l = some v → n = v
theorem numR_no {l : List UInt8} (h : num? l = none) (n : Int) : numR l (.returned (.tuple #[.int .i64 n, .bool false])) := ⟨n, by rw [h]; rfl, fun v hv => by rw [h] at hv; cases hv⟩
theorem numR_yes {l : List UInt8} {n : Int} (h : num? l = some n) : numR l (.returned (.tuple #[.int .i64 n, .bool true])) := ⟨n, by rw [h]; rfl, fun v hv => by rw [h] at hv; injection hv⟩

set_option maxRecDepth 100000 in
set_option maxHeartbeats 1600000 in
theorem l5Number_any (s : ByteArray) (w : World) (hs : s.size ≤ 1048576) :
    Calls Tryd.prog 21 #[.string s] w fun e w' => numR (bl s) e ∧ Below w.heap.size w w' := by
  by_cases h1 : s.size < 1
  · have h1' : (s.size : Int) < 1 := by omega
    have N : Hid (num? (bl s) = none) := hid (by cases hx : num? (bl s) with | none => rfl | some v => have := num_len hx; rw [bl_len] at this; omega)
    clear h1
    go_enter Tryd.func21, Tryd.ntmps21
    go_wp2
    go_ret2
    exact ⟨numR_no N.out _, Below.refl _ _⟩
  · by_cases h20 : 20 < s.size
    · have h20' : (20 : Int) < (s.size : Int) := by omega
      have h1' : ¬ (s.size : Int) < 1 := by omega
      have N : Hid (num? (bl s) = none) := hid (by cases hx : num? (bl s) with | none => rfl | some v => have := num_len hx; rw [bl_len] at this; omega)
      clear h1 h20
      go_enter Tryd.func21, Tryd.ntmps21
      go_wp2
      go_ret2
      exact ⟨numR_no N.out _, Below.refl _ _⟩
    · have h1' : ¬ (s.size : Int) < 1 := by omega
      have h20' : ¬ (20 : Int) < (s.size : Int) := by omega
      have hp : 0 < s.size := by omega
      have L := hid (bl_len s)
      have G := hid (fun k (h : k < s.size) => bl_get s k h)
      go_enter Tryd.func21, Tryd.ntmps21
      go_wp2
      go_loop [4, 5] (fun n i => ∃ (k : Nat), k ≤ s.size ∧ i = .int .i64 k ∧ n = .int .i64 (numW (bl s) k)) (fun _ i => s.size - (intOf i).toNat)
      case atStart => exact ⟨0, Nat.zero_le _, rfl, by unfold numW; simp⟩
      case round =>
        obtain ⟨k, hk, rfl, rfl⟩ := hrel
        by_cases hlt : k < s.size
        · have hlt' : (k : Int) < (s.size : Int) := by omega
          have hL : k < (bl s).length := by rw [L.out]; exact hlt
          have HL := hid hL
          have gk := hid (G.out k hlt)
          have g0 := hid (G.out 0 hp)
          have NO : Hid ((¬ k = 0 ∨ ¬ s[k] = 45) → (s[k].toNat < 48 ∨ 57 < s[k].toNat) → num? (bl s) = none) := hid (by
            intro a b
            cases hx : num? (bl s) with
            | none => rfl
            | some v =>
              have := num_digits hx k hL
              rw [gk.out] at this
              rcases this with ⟨e1, e2⟩ | ⟨e1, e2⟩
              · rcases a with a | a
                · exact absurd e1 a
                · exact absurd e2 a
              · omega)
          clear hL
          by_cases hm : s[k] = 45
          · have hm' : (s[k].toNat : Int) = 45 := by rw [hm]; rfl
            by_cases h0 : k = 0
            · have h0' : (k : Int) < 1 := by omega
              have E : Hid (numW (bl s) (k + 1) = numW (bl s) k) := hid (by subst h0; exact numW_sign (bl s) HL.out (by rw [g0.out]; exact hm))
              clear hm h0
              go_wp2
              go_round
              case rel => exact ⟨k + 1, by omega, by go_num, by rw [E.out]⟩
              case measure => simp [intOf]; omega
            · have h0' : ((k : Int) == 0) = false := by simp; omega
              have hm3 : (s[k].toNat : Int) < 48 := by rw [hm]; decide
              have N := hid (NO.out (.inl h0) (.inl (by omega)))
              clear hm h0
              go_wp2
              go_ret2
              exact ⟨numR_no N.out _, Below.refl _ _⟩
          · have hm' : ((s[k].toNat : Int) == 45) = false := by simp; intro h; exact hm (UInt8.toNat_inj.1 (by have : (45 : UInt8).toNat = 45 := rfl; omega))
            by_cases hd : s[k].toNat < 48
            · have hd' : (s[k].toNat : Int) < 48 := by omega
              have N := hid (NO.out (.inr hm) (.inl hd))
              clear hm hd
              go_wp2
              go_ret2
              exact ⟨numR_no N.out _, Below.refl _ _⟩
            · by_cases hd2 : 57 < s[k].toNat
              · have hd' : ¬ (s[k].toNat : Int) < 48 := by omega
                have hd3 : (57 : Int) < (s[k].toNat : Int) := by omega
                have N := hid (NO.out (.inr hm) (.inr hd2))
                clear hm hd hd2
                go_wp2
                go_ret2
                exact ⟨numR_no N.out _, Below.refl _ _⟩
              · have hd' : ¬ (s[k].toNat : Int) < 48 := by omega
                have hd3 : ¬ (57 : Int) < (s[k].toNat : Int) := by omega
                have hd4 : (48 : Int) ≤ (s[k].toNat : Int) := by omega
                have hd5 : (s[k].toNat : Int) ≤ 57 := by omega
                by_cases hz : s[0] = 45
                · have hz' : ((s[0].toNat : Int) == 45) = true := by rw [hz]; rfl
                  have E := hid (numW_neg (bl s) k HL.out (by rw [g0.out]; exact hz) (by rw [gk.out]; exact hm))
                  rw [gk.out] at E
                  obtain ⟨N0, hN0⟩ : ∃ z, z = numW (bl s) k := ⟨_, rfl⟩
                  rw [← hN0] at E ⊢
                  clear hm hd hd2 hz hN0
                  go_wp2
                  go_round
                  case rel => exact ⟨k + 1, by omega, by go_num, by rw [E.out]⟩
                  case measure => simp [intOf]; omega
                · have hz' : ((s[0].toNat : Int) == 45) = false := by simp; intro h; exact hz (UInt8.toNat_inj.1 (by have : (45 : UInt8).toNat = 45 := rfl; omega))
                  have E := hid (numW_pos (bl s) k HL.out (by rw [g0.out]; exact hz))
                  rw [gk.out] at E
                  obtain ⟨N0, hN0⟩ : ∃ z, z = numW (bl s) k := ⟨_, rfl⟩
                  rw [← hN0] at E ⊢
                  clear hm hd hd2 hz hN0
                  go_wp2
                  go_round
                  case rel => exact ⟨k + 1, by omega, by go_num, by rw [E.out]⟩
                  case measure => simp [intOf]; omega
        · have ek : k = s.size := by omega
          subst ek
          have NB := numW_I64 (bl s) s.size
          have NI := hid (num_is (bl s))
          rw [L.out] at NI
          obtain ⟨N0, hN0⟩ : ∃ z, z = numW (bl s) s.size := ⟨_, rfl⟩
          rw [← hN0] at NI NB ⊢
          have C := hid (l5Dec_any N0 w NB.1 NB.2)
          obtain ⟨t, ht⟩ : ∃ t : ByteArray, t = ⟨(Lib.itoa N0).toArray⟩ := ⟨_, rfl⟩
          have TE : Hid ((Lib.itoa N0 = bl s) ↔ t = s) := hid (by
            rw [ht]
            constructor
            · intro h; rw [h]
            · intro h; rw [← h])
          have C' : Hid (Calls Tryd.prog 34 #[.int .i64 N0] w fun e w' => e = .returned (.string t) ∧ Below w.heap.size w w') := hid (by rw [ht]; exact C.out)
          clear C hN0 ht
          by_cases hts : t = s
          · have Y : Hid (num? (bl s) = some N0) := hid (by rw [NI.out, if_pos (TE.out.2 hts)])
            subst hts
            go_wp2_with (go_at_call 34; refine C'.out.mono ?_; rintro e w1 ⟨rfl, hb1⟩; have B1 := hid hb1; clear hb1)
            go_ret2
            exact ⟨by simpa using numR_yes Y.out, B1.out⟩
          · have Y : Hid (num? (bl s) = none) := hid (by rw [NI.out, if_neg (fun e => hts (TE.out.1 e))])
            have hts' := str_ne hts
            clear hts
            go_wp2_with (go_at_call 34; refine C'.out.mono ?_; rintro e w1 ⟨rfl, hb1⟩; have B1 := hid hb1; clear hb1)
            go_ret2
            exact ⟨by simpa [hts'] using numR_no Y.out _, B1.out⟩
end Go.Proofs.YtcdcjpejlhcdnaaDoor
