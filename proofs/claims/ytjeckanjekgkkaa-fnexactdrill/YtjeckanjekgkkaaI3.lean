import Derived.Test.YtjeckanjekgkkaaI2
import Derived.WalkMore
namespace Go.Proofs.Ytjeckanjekgkkaa
open Go.RowKit Go.Sort
attribute [local go_sem ↓] Go.wp_at_zero Go.wp_at_succ

def domV (N : Nat → Nat) (ss : List StD) (f t : Nat) : Value := if dom ss f t = -1 then .pointer none else .pointer (some ⟨N (dom ss f t).toNat, 0, none⟩)
theorem domV_meet {N : Nat → Nat} {ss : List StD} (T : TreeOK ss) {f t m : Nat} (hf : f < ss.length) (ht : t < ss.length) {pre post : List Nat} (e : up ss f = pre ++ m :: post) (hpre : ∀ x, x ∈ pre → ¬ x ∈ up ss t) (hm : m ∈ up ss t) :
    domV N ss f t = if (aboveB ss m f && aboveB ss m t) = true then .pointer (some ⟨N m, 0, none⟩) else parV N ss m := by
  have hml : m < ss.length := Nat.lt_of_le_of_lt (up_le T f hf m (by rw [e]; simp)) hf
  unfold domV
  rw [dom_meet T hf ht e hpre hm]
  by_cases h : m ∈ (up ss f).tail ∧ m ∈ (up ss t).tail
  · have h2 : (aboveB ss m f && aboveB ss m t) = true := by simp [aboveB, h]
    rw [if_pos h, if_pos h2, if_neg (by omega), Int.toNat_natCast]
  · have h2 : ¬ (aboveB ss m f && aboveB ss m t) = true := by simpa [aboveB] using h
    rw [if_neg h, if_neg h2]
    by_cases h0 : m = 0
    · rw [if_pos h0, if_pos rfl, parV, if_pos h0]
    · have := T.2 m (by omega) hml
      rw [if_neg h0, if_neg (by omega), parV, if_neg h0]

theorem zero_up {ss : List StD} (T : TreeOK ss) : ∀ k, k < ss.length → 0 ∈ up ss k := by
  intro k
  induction k using Nat.strongRecOn with
  | ind k ih =>
    intro hk
    by_cases h0 : k = 0
    · subst h0; simp [up_zero]
    · have h1 := T.2 k (by omega) hk
      rw [up_pos T (by omega) hk]
      exact List.mem_cons_of_mem _ (ih _ (by omega) (by omega))
theorem ownP_cells {w w' : World} {g n cap : Nat} {N : Nat → Nat} {l : List Nat} (h : OwnP w w' (.slice (some ⟨g, 0, none⟩) n cap) N l) (hn : n = l.length) : g < w'.heap.size ∧ ∀ j, j < n → w'.cell? ⟨g, j, none⟩ = some (.pointer (some ⟨N (l.getD j 0), 0, none⟩)) := by
  subst hn
  unfold OwnP at h
  rcases h.2 with ⟨h0, _⟩ | ⟨g', cap', cur, e, _, hb, hcap, _⟩
  · simp at h0
  · simp at e
    obtain ⟨rfl, rfl⟩ := e
    refine ⟨lt_of_block hb, fun j hj => ?_⟩
    rw [h.cellAt j (by omega)]
    simp [ptrs, List.getD_eq_getElem?_getD, hj]
theorem getD_mem {l : List Nat} {k : Nat} (h : k < l.length) : l.getD k 0 ∈ l := by
  rw [List.getD_eq_getElem?_getD, List.getElem?_eq_getElem h]
  exact List.getElem_mem _
theorem mem_getD {l : List Nat} {x : Nat} (h : x ∈ l) : ∃ k, k < l.length ∧ l.getD k 0 = x := by
  obtain ⟨k, hk, e⟩ := List.getElem_of_mem h
  exact ⟨k, hk, by rw [List.getD_eq_getElem?_getD, List.getElem?_eq_getElem hk]; exact e⟩
theorem split_mid {l : List Nat} {k : Nat} (h : k < l.length) : l = l.take k ++ l.getD k 0 :: l.drop (k + 1) := by
  have e : l.getD k 0 = l[k] := by simp [List.getD_eq_getElem?_getD, List.getElem?_eq_getElem h]
  rw [e]
  simp

set_option maxHeartbeats 3200000 in
theorem common_any (N : Nat → Nat) (ss : List StD) (T : TreeOK ss) (h200 : ss.length ≤ 200) (f t : Nat) (hf : f < ss.length) (ht : t < ss.length) (w : World) (hN : Nodes w N ss ss.length) (hNB : NodeB w N ss.length) :
    Calls Try.prog 34 #[.pointer (some ⟨N f, 0, none⟩), .pointer (some ⟨N t, 0, none⟩)] w fun e w' => e = .returned (domV N ss f t) ∧ Below w.heap.size w w' := by
  have HS : Hid (∀ w', Below w.heap.size w w' → Nodes w' N ss ss.length ∧ NodeB w' N ss.length) := fun w' h => ⟨hN.below h, hNB.below h⟩
  have CF := hid (path_any N ss T h200 f hf w hN)
  have CT := hid (fun w hw => path_any N ss T h200 t ht w hw)
  have LF := up_len T f hf
  have LT := up_len T t ht
  obtain ⟨nf, hnf⟩ : ∃ nf, nf = (up ss f).length := ⟨_, rfl⟩
  obtain ⟨nt, hnt⟩ : ∃ nt, nt = (up ss t).length := ⟨_, rfl⟩
  have HF := hid hnf
  have HT := hid hnt
  rw [← hnf] at CF LF
  rw [← hnt] at CT LT
  have bf : nf ≤ 300 := by omega
  have bt : nt ≤ 300 := by omega
  clear hN hNB hnf hnt LF LT
  go_enter Try.func34, Try.ntmps34
  go_wp2
  go_step3
  go_wp2
  go_step3
  go_wp2_with (go_at_call 28; refine CF.out.mono ?_; rintro e w1 ⟨g, cap, rfl, ho, hb1⟩; have B1 := hid hb1; have O1 := hid (ownP_cells ho HF.out); clear ho hb1)
  go_loopg [13] nf (fun m i wr => ∃ a : Nat, a ≤ nf ∧ m = nf - a ∧ i = .int .i64 a ∧ Hid (∀ q, q < a → ¬ (up ss f).getD q 0 ∈ up ss t) ∧ Below w1.heap.size w1 wr)
  case atStart => exact ⟨0, Nat.zero_le _, by omega, rfl, hid (fun q h => absurd h (by omega)), Below.refl _ _⟩
  case round =>
    obtain ⟨a, ha, rfl, rfl, HP, hb⟩ := hrel
    have HB := hid hb
    clear hb
    by_cases hlt : a < nf
    · obtain ⟨x, hx⟩ : ∃ x, x = (up ss f).getD a 0 := ⟨_, rfl⟩
      have hxl : x < ss.length := by rw [hx]; exact Nat.lt_of_le_of_lt (up_le T f hf _ (getD_mem (by rw [← HF.out]; exact hlt))) hf
      have cx := (HB.out.cell (p := ⟨g, a, none⟩) O1.out.1).trans (O1.out.2 a hlt)
      rw [← hx] at cx
      have HX := hid hx
      have an : (a : Int) < (nf : Int) := by omega
      have B2 := hid (B1.out.trans (HB.out.mono B1.out.size))
      have CT2 := hid (CT.out wr (HS.out _ B2.out).1)
      clear hx
      go_wp2_with (go_at_call 28; refine CT2.out.mono ?_; rintro e w2 ⟨g2, cap2, rfl, ho, hb2⟩; have B3 := hid (B2.out.trans (hb2.mono B2.out.size)); have B4 := hid (HB.out.trans (hb2.mono HB.out.size)); have O2 := hid (ownP_cells ho HT.out); clear ho hb2)
      have NS := hid (HS.out _ B3.out)
      go_loopg [20] nt (fun m i wr => wr = w2 ∧ ∃ j : Nat, j ≤ nt ∧ m = nt - j ∧ i = .int .i64 j ∧ Hid (∀ q, q < j → ¬ (up ss t).getD q 0 = x))
      case atStart => exact ⟨rfl, 0, Nat.zero_le _, by omega, rfl, hid (fun q h => absurd h (by omega))⟩
      case round =>
        obtain ⟨rfl, j, hj, rfl, rfl, HJ⟩ := hrel
        by_cases hjt : j < nt
        · obtain ⟨y, hy⟩ : ∃ y, y = (up ss t).getD j 0 := ⟨_, rfl⟩
          have hyt : y ∈ up ss t := by rw [hy]; exact getD_mem (by rw [← HT.out]; exact hjt)
          have hyl : y < ss.length := Nat.lt_of_le_of_lt (up_le T t ht _ hyt) ht
          have cy := O2.out.2 j hjt
          rw [← hy] at cy
          have HY := hid hy
          have HYT := hid hyt
          have jn : (j : Int) < (nt : Int) := by omega
          clear hy hyt
          by_cases exy : x = y
          · subst exy
            have hq := eqPtr NS.out.1 NS.out.2 hxl hxl (b := true) (by simp)
            have D := hid (domV_meet (N := N) T hf ht (m := x) (pre := (up ss f).take a) (post := (up ss f).drop (a + 1)) (by rw [HX.out]; exact split_mid (by rw [← HF.out]; exact hlt)) (fun z hz => by
              obtain ⟨q, hq, e⟩ := List.getElem_of_mem hz
              have hqa : q < a := by simp at hq; omega
              have hql : q < (up ss f).length := by rw [← HF.out]; omega
              have := HP.out q hqa
              rw [List.getD_eq_getElem?_getD, List.getElem?_eq_getElem hql] at this
              rw [← e]
              simpa using this) HYT.out)
            obtain ⟨b1, hb1⟩ : ∃ b, b = aboveB ss x f := ⟨_, rfl⟩
            obtain ⟨b2, hb2⟩ : ∃ b, b = aboveB ss x t := ⟨_, rfl⟩
            have I1 := hid (isInside_any N ss T f x hf hxl wr NS.out.1 NS.out.2)
            have I2 := hid (isInside_any N ss T t x ht hxl wr NS.out.1 NS.out.2)
            rw [← hb1] at I1 D
            rw [← hb2] at I2 D
            obtain ⟨pp, hpp⟩ : ∃ pp, parV N ss x = .pointer pp := by unfold parV; split <;> exact ⟨_, rfl⟩
            have cp := (NS.out.1 x hxl).2.2
            rw [hpp] at cp D
            clear hb1 hb2 hpp
            cases b1 with
            | false =>
              have D2 : Hid (domV N ss f t = .pointer pp) := hid D.out
              go_wp2_with (go_at_call_of 49 (Value.pointer (some ⟨N f, 0, none⟩)); refine I1.out.mono ?_; rintro e w3 ⟨rfl, hw⟩; obtain rfl := hw.symm)
              try rw [Exit.noGoto_ret]
              go_ret
              exact ⟨by rw [D2.out]; rfl, B3.out⟩
            | true =>
              cases b2 with
              | false =>
                have D2 : Hid (domV N ss f t = .pointer pp) := hid D.out
                go_wp2_with (first | (go_at_call_of 49 (Value.pointer (some ⟨N f, 0, none⟩)); refine I1.out.mono ?_; rintro e w3 ⟨rfl, hw⟩; obtain rfl := hw.symm) | (go_at_call_of 49 (Value.pointer (some ⟨N t, 0, none⟩)); refine I2.out.mono ?_; rintro e w3 ⟨rfl, hw⟩; obtain rfl := hw.symm))
                try rw [Exit.noGoto_ret]
                go_ret
                exact ⟨by rw [D2.out]; rfl, B3.out⟩
              | true =>
                have D2 : Hid (domV N ss f t = .pointer (some ⟨N x, 0, none⟩)) := hid D.out
                go_wp2_with (first | (go_at_call_of 49 (Value.pointer (some ⟨N f, 0, none⟩)); refine I1.out.mono ?_; rintro e w3 ⟨rfl, hw⟩; obtain rfl := hw.symm) | (go_at_call_of 49 (Value.pointer (some ⟨N t, 0, none⟩)); refine I2.out.mono ?_; rintro e w3 ⟨rfl, hw⟩; obtain rfl := hw.symm))
                try rw [Exit.noGoto_ret]
                go_ret
                exact ⟨by rw [D2.out]; rfl, B3.out⟩
          · have hq := eqPtr NS.out.1 NS.out.2 hxl hyl (b := false) (by simp [exy])
            go_wp2
            go_roundg (nt - (j + 1))
            case measure => omega
            case rel =>
              refine ⟨rfl, j + 1, by omega, rfl, by go_num, hid (fun q hq => ?_)⟩
              by_cases e : q = j
              · subst e; rw [← HY.out]; exact fun h => exy h.symm
              · exact HJ.out q (by omega)
        · have e : j = nt := by omega
          subst e
          go_wp2
          go_roundg (nf - (a + 1))
          case measure => omega
          case rel =>
            refine ⟨a + 1, by omega, rfl, by go_num, hid (fun q hq => ?_), B4.out⟩
            by_cases e : q = a
            · subst e
              intro hm
              obtain ⟨r, hr, er⟩ := mem_getD hm
              rw [← HT.out] at hr
              rw [← HX.out] at er
              exact HJ.out r hr er
            · exact HP.out q (by omega)
    · exfalso
      have h0f : 0 ∈ up ss f := zero_up T f hf
      obtain ⟨q, hq, e⟩ := mem_getD h0f
      have := HP.out q (by rw [← HF.out] at hq; omega)
      rw [e] at this
      exact this (zero_up T t ht)
end Go.Proofs.Ytjeckanjekgkkaa
