import Derived.Test.YtcdcjpejlhcdnaaDoorSr3
namespace Go.Proofs.YtcdcjpejlhcdnaaDoor
open Go.RowKit Go.Sort
set_option linter.unusedVariables false
attribute [local go_sem ↓] Go.wp_at_zero Go.wp_at_succ

theorem addr_plus (b off i : Nat) : (⟨b, off, none⟩ : Addr).add i = ⟨b, off + i, none⟩ := by
  by_cases h : i = 0
  · subst h; simp [Addr.add]
  · simp [Addr.add, h]
/-- A slice of texts as the walk is told of it. -/
def StrsOf (w : World) (ao : Option Addr) (n : Nat) (fs : List (List UInt8)) : Prop :=
  fs.length = n ∧ (0 < n → ∃ b off, ao = some ⟨b, off, none⟩ ∧ b < w.heap.size ∧ ∀ i, i < n → w.cell? ⟨b, off + i, none⟩ = some (tx (fs.getD i [])))
theorem StrsOf.below {w w' : World} {ao : Option Addr} {n : Nat} {fs : List (List UInt8)} (h : StrsOf w ao n fs) (hb : Below w.heap.size w w') : StrsOf w' ao n fs :=
  ⟨h.1, fun hn => by
    obtain ⟨b, off, e, hlt, hc⟩ := h.2 hn
    exact ⟨b, off, e, Nat.lt_of_lt_of_le hlt hb.size, fun i hi => (hb.cell (p := ⟨b, off + i, none⟩) hlt).trans (hc i hi)⟩⟩
theorem TxRow.strs {w : World} {B n cap : Nat} {ao : Option Addr} {fs : List (List UInt8)} (h : TxRow w B (.slice ao n cap) fs) : StrsOf w ao n fs ∧ n ≤ cap := by
  rcases h.2 with ⟨h0, h1⟩ | ⟨g, cap', cur, h1, h2, h3, h4⟩
  · simp only [Value.slice.injEq] at h0
    obtain ⟨rfl, rfl, rfl⟩ := h0
    exact ⟨⟨h1, fun h => absurd h (by omega)⟩, by omega⟩
  · simp only [Value.slice.injEq] at h1
    obtain ⟨rfl, rfl, rfl⟩ := h1
    refine ⟨⟨rfl, fun hn => ⟨g, 0, rfl, lt_of_block h3, fun i hi => ?_⟩⟩, h4.1⟩
    have := World.ownsRow.cells (g := g) h rfl i (tx (fs.getD i [])) (by simp [List.getD_eq_getElem?_getD, hi])
    rw [addr_plus] at this
    exact this
theorem StrsOf.one {w : World} {b off n : Nat} {fs : List (List UInt8)} (h : StrsOf w (some ⟨b, off, none⟩) (n + 1) fs) : w.cell? ⟨b, off, none⟩ = some (tx (fs.getD 0 [])) ∧ b < w.heap.size ∧ ∀ ao, (ao = some ⟨b, off + 1, none⟩ ∨ n = 0) → StrsOf w ao n fs.tail := by
  obtain ⟨b', off', e, hlt, hc⟩ := h.2 (by omega)
  simp only [Option.some.injEq, Addr.mk.injEq] at e
  obtain ⟨rfl, rfl, _⟩ := e
  refine ⟨by simpa using hc 0 (by omega), hlt, fun ao ha => ⟨by simp [h.1], fun hn => ?_⟩⟩
  rcases ha with rfl | ha
  · refine ⟨b, off + 1, rfl, hlt, fun i hi => ?_⟩
    have := hc (i + 1) (by omega)
    rw [show off + 1 + i = off + (i + 1) by omega, this]
    congr 2
    cases fs with
    | nil => have := h.1; simp at this
    | cons f r => simp
  · omega
/-- The place of a text in a list. -/
def placeN : List (List UInt8) → List UInt8 → Nat → Int
  | [], _, _ => -1
  | f :: r, x, k => if f = x then (k : Int) else placeN r x (k + 1)
theorem drop_getD_cons {fs : List (List UInt8)} {k : Nat} (h : k < fs.length) : fs.drop k = fs.getD k [] :: fs.drop (k + 1) := by
  rw [List.drop_eq_getElem_cons h]
  simp [List.getD_eq_getElem?_getD, h]
theorem ba_bl {x : List UInt8} {s : ByteArray} : (⟨x.toArray⟩ : ByteArray) = s ↔ x = bl s := by
  constructor
  · intro h; rw [← h]
  · intro h; rw [h]

set_option maxRecDepth 100000 in
set_option maxHeartbeats 1600000 in
theorem l5Place_any (ao : Option Addr) (n c : Nat) (fs : List (List UInt8)) (s : ByteArray) (w : World) (hn : n ≤ 1048576) (h : StrsOf w ao n fs) :
    Calls Tryd.prog 14 #[.slice ao n c, .string s] w fun e w' => e = .returned (.int .i64 (placeN fs (bl s) 0)) ∧ w' = w := by
  have hl := hid h.1
  go_enter Tryd.func14, Tryd.ntmps14
  go_wp2
  go_loop [9] (fun i => ∃ (k : Nat), k ≤ n ∧ i = .int .i64 k ∧ Hid (placeN fs (bl s) 0 = placeN (fs.drop k) (bl s) k)) (fun i => n - (intOf i).toNat)
  case atStart => exact ⟨0, Nat.zero_le _, rfl, hid (by simp)⟩
  case round =>
    obtain ⟨k, hk, rfl, hP⟩ := hrel
    by_cases hlt : k < n
    · have hlt' : (k : Int) < (n : Int) := by omega
      obtain ⟨b, off, rfl, hbl, hc⟩ := h.2 (by omega)
      have c1 := hc k hlt
      have E : Hid (placeN fs (bl s) 0 = if fs.getD k [] = bl s then (k : Int) else placeN (fs.drop (k + 1)) (bl s) (k + 1)) := hid (by rw [hP.out, drop_getD_cons (by rw [hl.out]; exact hlt)]; rfl)
      obtain ⟨x, hx⟩ : ∃ x, x = fs.getD k [] := ⟨_, rfl⟩
      rw [← hx] at c1 E
      obtain ⟨t, ht⟩ : ∃ t : ByteArray, t = ⟨x.toArray⟩ := ⟨_, rfl⟩
      have c1' : w.cell? ⟨b, off + k, none⟩ = some (.string t) := by rw [ht]; exact c1
      have TB : Hid (x = bl s ↔ t = s) := hid (by rw [ht]; exact ba_bl.symm)
      clear c1 hx ht hc h hP
      by_cases hts : t = s
      · rw [if_pos (TB.out.2 hts)] at E
        subst hts
        go_wp2
        go_ret
        exact ⟨ret_int E.out.symm, rfl⟩
      · rw [if_neg (fun e => hts (TB.out.1 e))] at E
        have hts' := str_ne hts
        clear hts
        go_wp2
        go_round
        case rel => exact ⟨k + 1, by omega, by go_num, E⟩
        case measure => simp [intOf]; omega
    · have ek : k = n := by omega
      subst ek
      rw [List.drop_of_length_le (by rw [hl.out]; omega)] at hP
      clear h
      go_wp2
      go_ret
      exact ⟨ret_int hP.out.symm, rfl⟩

/-- The numbers that fields are. -/
def nums : List (List UInt8) → Option (List Int)
  | [] => some []
  | f :: r => (num? f).bind fun a => (nums r).map fun l => a :: l
theorem nums_len : ∀ {fs : List (List UInt8)} {zs : List Int}, nums fs = some zs → zs.length = fs.length
  | [], zs, h => by simp [nums] at h; subst h; rfl
  | f :: r, zs, h => by
    simp only [nums, Option.bind_eq_some_iff, Option.map_eq_some_iff] at h
    obtain ⟨a, _, l, hl, rfl⟩ := h
    simp [nums_len hl]
theorem nums_snoc (f : List UInt8) (v : Int) (hv : num? f = some v) : ∀ {fs : List (List UInt8)} {zs : List Int}, nums fs = some zs → nums (fs ++ [f]) = some (zs ++ [v])
  | [], zs, h => by simp [nums] at h; subst h; simp [nums, hv]
  | g :: r, zs, h => by
    simp only [nums, Option.bind_eq_some_iff, Option.map_eq_some_iff] at h
    obtain ⟨a, ha, l, hl, rfl⟩ := h
    simp [nums, ha, nums_snoc f v hv hl]
theorem nums_no (f : List UInt8) (hv : num? f = none) (r : List (List UInt8)) : ∀ fs : List (List UInt8), nums (fs ++ f :: r) = none
  | [] => by simp [nums, hv]
  | g :: q => by
    have := nums_no f hv r q
    simp [nums, this]
/-- The first n of them. -/
def numsN (fs : List (List UInt8)) (n : Nat) : Option (List Int) := if n ≤ fs.length then nums (fs.take n) else none
abbrev IntRow (w : World) (B : Nat) (v : Value) (zs : List Int) : Prop := w.ownsRow B 3 1 v zs.length (zs.map (Value.int .i64))
theorem Tryd.infoI : (Tryd.prog.info? 3).map (fun i => (i.zero, i.size, i.bytes)) = some (some (.int .i64 0), 1, 8) := by kernel_rfl
theorem one_int (z : Int) : ∀ u ∈ [Value.int .i64 z], u.oneCell' = true := by intro u hu; simp at hu; subst hu; rfl
theorem take_snocF {fs : List (List UInt8)} {k : Nat} (h : k < fs.length) : fs.take (k + 1) = fs.take k ++ [fs.getD k []] := by
  rw [List.take_add_one]
  simp [List.getD_eq_getElem?_getD, h]

set_option maxRecDepth 100000 in
set_option maxHeartbeats 1600000 in
theorem l5Numbers_any (ao : Option Addr) (m c n : Nat) (fs : List (List UInt8)) (w : World) (hm : m ≤ 1048576) (hn : n ≤ 100) (hf : ∀ f ∈ fs, f.length ≤ 1048576) (h : StrsOf w ao m fs) :
    Calls Tryd.prog 15 #[.slice ao m c, .int .i64 n] w fun e w' => (∃ v, e = .returned (.tuple #[v, .bool (numsN fs n).isSome]) ∧ (∃ a l c, v = .slice a l c) ∧ ∀ zs, numsN fs n = some zs → IntRow w' w.heap.size v zs) ∧ Below w.heap.size w w' := by
  obtain ⟨i0, hi, hz0, hz1, hz2⟩ := info_parts Tryd.infoI
  have hl := hid h.1
  have H0 := hid h
  have HF := hid hf
  clear h hf
  go_enter Tryd.func15, Tryd.ntmps15
  go_wp2
  go_loopw [6, 7] (fun p i wr => ∃ (k : Nat) (zs : List Int), k ≤ n ∧ k ≤ m ∧ i = .int .i64 k ∧ Hid (nums (fs.take k) = some zs) ∧ Hid (IntRow wr w.heap.size p zs) ∧ Hid (Below w.heap.size w wr)) (fun _ i _ => n - (intOf i).toNat)
  case atStart => exact ⟨0, [], Nat.zero_le _, Nat.zero_le _, rfl, hid rfl, hid (World.ownsRow_lit w #[] 0 (Nat.le_refl _) (by decide) rfl), hid (below1 _ _)⟩
  case round =>
    obtain ⟨k, zs, hk, hkm, rfl, hZ, hR, hB⟩ := hrel
    obtain ⟨ao2, n2, cap2, rfl⟩ := row_form hR.out
    by_cases hlt : k < n
    · have hlt' : (k : Int) < (n : Int) := by omega
      by_cases hkm2 : k < m
      · have hkm3 : (k : Int) < (m : Int) := by omega
        obtain ⟨b, off, rfl, hbl, hc⟩ := (H0.out.below hB.out).2 (by omega)
        have c1 := hc k hkm2
        have hkf : k < fs.length := by rw [hl.out]; exact hkm2
        have hxl : (fs.getD k []).length ≤ 1048576 := HF.out _ (by simp [List.getD_eq_getElem?_getD, hkf])
        have TK := hid (take_snocF hkf)
        have DK : Hid (∀ (q : k < n), n ≤ fs.length → num? (fs.getD k []) = none → nums (fs.take n) = none) := hid (by
          intro q hq hv
          have e : fs.take n = fs.take k ++ fs.getD k [] :: (fs.take n).drop (k + 1) := by
            have h1 : (fs.take n).drop k = fs.getD k [] :: (fs.take n).drop (k + 1) := by
              rw [drop_getD_cons (by simp; omega)]
              congr 1
              simp [List.getD_eq_getElem?_getD, q]
            rw [← h1]
            conv => lhs; rw [← List.take_append_drop k (fs.take n)]
            rw [List.take_take, Nat.min_eq_left (by omega)]
          rw [e]
          exact nums_no _ hv _ _)
        obtain ⟨x, hx⟩ : ∃ x, x = fs.getD k [] := ⟨_, rfl⟩
        rw [← hx] at c1 TK DK hxl
        obtain ⟨t, ht⟩ : ∃ t : ByteArray, t = ⟨x.toArray⟩ := ⟨_, rfl⟩
        have c1' : wr.cell? ⟨b, off + k, none⟩ = some (.string t) := by rw [ht]; exact c1
        have hbt : x = bl t := ba_bl.1 ht.symm
        have hts : t.size ≤ 1048576 := by rw [← bl_len, ← hbt]; exact hxl
        have C := hid (l5Number_any t wr hts)
        rw [← hbt] at C
        cases hv : num? x with
        | none =>
          rw [hv] at DK
          have NO : Hid (numsN fs n = none) := hid (by
            unfold numsN
            split
            · rename_i hq; exact DK.out hlt hq rfl
            · rfl)
          have C2 : Hid (Calls Tryd.prog 21 #[.string t] wr fun e w' => (∃ z : Int, e = .returned (.tuple #[.int .i64 z, .bool false])) ∧ Below wr.heap.size wr w') := hid (C.out.mono (by
            rintro e w' ⟨⟨z, h1, _⟩, h2⟩
            exact ⟨⟨z, by rw [h1, hv]; rfl⟩, h2⟩))
          clear c1 hx ht hc hbt hts hxl C hv DK TK hkf
          go_wp2_with (go_at_call 21; refine C2.out.mono ?_; rintro e w1 ⟨⟨z, rfl⟩, hb1⟩; have B1 := hid hb1; clear hb1)
          go_ret2
          exact ⟨⟨_, by rw [NO.out]; rfl, ⟨_, _, _, rfl⟩, fun zs hz => by rw [NO.out] at hz; cases hz⟩, hB.out.trans (B1.out.mono hB.out.size)⟩
        | some v =>
          have Z2 : Hid (nums (fs.take (k + 1)) = some (zs ++ [v])) := hid (by rw [TK.out]; exact nums_snoc _ _ hv hZ.out)
          have ZL := hid (nums_len hZ.out)
          have C2 : Hid (Calls Tryd.prog 21 #[.string t] wr fun e w' => e = .returned (.tuple #[.int .i64 v, .bool true]) ∧ Below wr.heap.size wr w') := hid (C.out.mono (by
            rintro e w' ⟨⟨z, h1, h3⟩, h2⟩
            obtain rfl := h3 v hv
            exact ⟨by rw [h1, hv]; rfl, h2⟩))
          have HB : Hid (zs.length + 1 ≤ 1000) := hid (by have := ZL.out; simp at this; omega)
          clear c1 hx ht hc hbt hts hxl C hv DK TK hkf ZL
          go_wp2_with (first
            | (go_at_call 21; refine C2.out.mono ?_; rintro e w1 ⟨rfl, hb1⟩; have B1 := hid hb1; clear hb1)
            | (at_builtin; refine wpList_append_own _ rfl (.tmp 30) (.tmp 32) 42 rfl w.heap.size 3 i0 (.int .i64 0) 1 8 Tryd.underlying42 hi hz0 hz1 hz2 rfl (by decide) _ zs.length (zs.map (Value.int .i64)) rfl (ownsRow_below (ownsRow_below hR.out B1.out) (below1 _ _)) ⟨w1.heap.size, 0, none⟩ 1 1 [.int .i64 v] rfl rfl (news_one w1 _ _ rfl) (one_int v) (by have := HB.out; unfold maxLen; omega) (by have := HB.out; omega) (by have := hB.out.size; have := B1.out.size; simp; omega) ?_))
          intro v' w2 hown' hgrow hnil
          obtain ⟨ao3, n3, cap3, rfl⟩ := row_form hown'
          have T2 : Hid (IntRow w2 w.heap.size (.slice ao3 n3 cap3) (zs ++ [v])) := hid (by unfold IntRow; simpa using hown')
          have B2 := hid (below_grown (hB.out.trans (B1.out.mono hB.out.size)) (Nat.le_refl _) (ownsRow_below hR.out B1.out) hgrow)
          clear hown' hgrow hnil
          go_wp2
          go_roundw
          case rel => exact ⟨k + 1, zs ++ [v], hlt, by omega, by go_num, Z2, T2, B2⟩
          case measure => simp [intOf]; omega
      · have hkm3 : (m : Int) ≤ (k : Int) := by omega
        have NO : Hid (numsN fs n = none) := hid (by unfold numsN; rw [if_neg (by rw [hl.out]; omega)])
        go_wp2
        go_ret2
        exact ⟨⟨_, by rw [NO.out]; rfl, ⟨_, _, _, rfl⟩, fun zs hz => by rw [NO.out] at hz; cases hz⟩, hB.out⟩
    · have ek : k = n := by omega
      subst ek
      have YES : Hid (numsN fs k = some zs) := hid (by unfold numsN; rw [if_pos (by rw [hl.out]; omega)]; exact hZ.out)
      go_wp2
      go_ret2
      exact ⟨⟨_, by rw [YES.out]; rfl, ⟨_, _, _, rfl⟩, fun zs' hz => by rw [YES.out] at hz; injection hz with hz; subst hz; exact hR.out⟩, hB.out⟩
end Go.Proofs.YtcdcjpejlhcdnaaDoor
