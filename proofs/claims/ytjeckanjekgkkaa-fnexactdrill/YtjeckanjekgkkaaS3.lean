import Derived.Test.YtjeckanjekgkkaaS2
namespace Go.Proofs.Ytjeckanjekgkkaa
open Go.RowKit Go.Sort
attribute [local go_sem ↓] Go.wp_at_zero Go.wp_at_succ

theorem ownI_cells {w w' : World} {g n cap : Nat} {l : List Nat} (h : OwnI w w' (.slice (some ⟨g, 0, none⟩) n cap) l) (hn : n = l.length) : g < w'.heap.size ∧ n ≤ cap ∧ ∀ j, j < n → w'.cell? ⟨g, j, none⟩ = some (.int .i64 ((l.getD j 0 : Nat) : Int)) := by
  subst hn
  unfold OwnI at h
  rcases h.2 with ⟨h0, _⟩ | ⟨g', cap', cur, e, _, hb, hcap, _⟩
  · simp at h0
  · simp at e
    obtain ⟨rfl, rfl⟩ := e
    refine ⟨lt_of_block hb, hcap, fun j hj => ?_⟩
    rw [h.cellAt j (by omega)]
    simp [ints, List.getD_eq_getElem?_getD, hj]
theorem below_two {w w1 : World} {a c : Value} {t : TypeId} (hb1 : Below (w.alloc (.cells #[a, c] t)).heap.size (w.alloc (.cells #[a, c] t)) w1) :
    Below w.heap.size w w1 ∧ w1.heap[w.heap.size]? = some (.cells #[a, c] t (0, 0)) :=
  ⟨(below1 _ _).trans (hb1.mono (by simp)), block_below (heap_alloc_new w _) hb1⟩

set_option maxHeartbeats 800000 in
theorem l2Above_any (so to : Option Addr) (n sc tn tc : Nat) (ss : List StD) (T : TreeOK ss) (hn : n ≤ 200) (a k : Nat) (hk : k < n) (w : World) (hs : StatesOf w so n ss) :
    Calls Try.prog 48 #[.agg #[.slice so n sc, .slice to tn tc], .int .i64 a, .int .i64 k] w fun e w' => e = .returned (.bool (aboveB ss a k)) ∧ Below w.heap.size w w' := by
  have C := hid (l2Up_any so to n sc tn tc ss T hn k hk (w.alloc (.cells #[.slice so n sc, .slice to tn tc] 32)) (hs.below (below1 _ _)))
  have hl := hs.1
  by_cases h0 : k = 0
  · subst h0
    have E : Hid (aboveB ss a 0 = false) := hid (by simp [aboveB, up_zero])
    rw [E.out]
    rw [up_zero] at C
    clear hs hl
    go_enter Try.func48, Try.ntmps48
    go_wp2_with (go_at_call 22; refine C.out.mono ?_; rintro e w1 ⟨g, cap, rfl, ho, hcap, hb1⟩; obtain rfl := hcap rfl; have B1 := hid (below_two hb1); clear ho hb1)
    go_loopw [14] (fun i wr => i = .int .i64 0 ∧ wr = w1) (fun _ _ => 0)
    case atStart => exact ⟨rfl, rfl⟩
    case round =>
      obtain ⟨rfl, rfl⟩ := hrel
      go_wp2
      go_ret
      exact ⟨rfl, B1.out.1⟩
  · obtain ⟨l, hll⟩ : ∃ l, (up ss k).length = l + 1 := ⟨(up ss k).length - 1, by rw [up_form T (k := k) (by omega)]; simp⟩
    have htl : (up ss k).tail.length = l := by simp [hll]
    have hl1 : 1 ≤ l := by
      rw [up_tail T (by omega) (by omega)] at htl
      have ht := T.2 k (by omega) (by omega)
      rw [up_form T (by omega)] at htl
      simp at htl
      omega
    have hl2 : l ≤ 200 := by have := up_len T k (by omega); omega
    have htg : ∀ j, (up ss k).tail.getD j 0 = (up ss k).getD (1 + j) 0 := by
      intro j
      rw [up_form T (k := k) (by omega)]
      simp [List.getD_eq_getElem?_getD, Nat.add_comm]
    have C2 : Hid (Calls Try.prog 22 #[.agg #[.slice so n sc, .slice to tn tc], .int .i64 k] (w.alloc (.cells #[.slice so n sc, .slice to tn tc] 32)) fun e w' => ∃ g cap, e = .returned (.slice (some ⟨g, 0, none⟩) (l + 1) cap) ∧ l + 1 ≤ cap ∧ (∀ j, j < l → w'.cell? ⟨g, 1 + j, none⟩ = some (.int .i64 (((up ss k).tail.getD j 0 : Nat) : Int))) ∧ Below w.heap.size w w') := by
      refine hid (C.out.mono ?_)
      rintro e w1 ⟨g, cap, rfl, ho, _, hb1⟩
      obtain ⟨_, h2, h3⟩ := ownI_cells ho rfl
      rw [hll] at h2 h3
      exact ⟨g, cap, by rw [hll], h2, fun j hj => by rw [h3 (1 + j) (by omega), htg], (below_two hb1).1⟩
    have HT := hid htl
    clear C hs hl hll htl htg
    go_enter Try.func48, Try.ntmps48
    go_wp2_with (go_at_call 22; refine C2.out.mono ?_; rintro e w1 ⟨g, cap, rfl, hcap, hc, hb1⟩; have B1 := hid hb1; have CC := hid hc; have hcap1 : ¬ cap = 1 := (by omega); have hci : (1 : Int) ≤ (cap : Int) := (by omega); clear hc hb1)
    go_loopw [14] (fun i wr => (∃ j : Nat, j ≤ l ∧ i = .int .i64 j ∧ Hid (∀ q, q < j → ¬ (up ss k).tail.getD q 0 = a)) ∧ wr = w1) (fun i _ => l - (intOf i).toNat)
    case atStart => exact ⟨⟨0, Nat.zero_le _, rfl, hid (fun q h => absurd h (by omega))⟩, rfl⟩
    case round =>
      obtain ⟨⟨j, hj, rfl, HP⟩, rfl⟩ := hrel
      by_cases hlt : j < l
      · obtain ⟨x, hx⟩ : ∃ x, x = (up ss k).tail.getD j 0 := ⟨_, rfl⟩
        have hc := CC.out j hlt
        rw [← hx] at hc
        have HX := hid hx
        clear hx
        by_cases e : x = a
        · subst e
          go_wp2
          go_ret
          refine ⟨ret_bool ?_, B1.out⟩
          symm
          unfold aboveB
          rw [decide_eq_true_iff]
          rw [HX.out, List.getD_eq_getElem?_getD, List.getElem?_eq_getElem (by rw [HT.out]; exact hlt)]
          exact List.getElem_mem _
        · have e' : ((x : Int) == (a : Int)) = false := by simp; omega
          go_wp2
          go_roundw
          case rel =>
            refine ⟨⟨j + 1, by omega, by go_num, hid (fun q hq => ?_)⟩, by first | rfl | trivial⟩
            by_cases ej : q = j
            · subst ej; rw [← HX.out]; exact e
            · exact HP.out q (by omega)
          case measure => simp [intOf]; omega
      · have e : j = l := by omega
        subst e
        go_wp2
        go_ret
        refine ⟨ret_bool ?_, B1.out⟩
        symm
        unfold aboveB
        rw [decide_eq_false_iff_not]
        intro hm
        obtain ⟨q, hq, e⟩ := List.getElem_of_mem hm
        exact HP.out q (by rw [← HT.out]; exact hq) (by rw [List.getD_eq_getElem?_getD, List.getElem?_eq_getElem hq]; exact e)

set_option maxHeartbeats 800000 in
theorem l2Domain_any (so to : Option Addr) (n sc tn tc : Nat) (ss : List StD) (T : TreeOK ss) (hn : n ≤ 200) (f t : Nat) (hf : f < n) (ht : t < n) (w : World) (hs : StatesOf w so n ss) :
    Calls Try.prog 33 #[.agg #[.slice so n sc, .slice to tn tc], .int .i64 f, .int .i64 t] w fun e w' => e = .returned (.int .i64 (dom ss f t)) ∧ Below w.heap.size w w' := by
  have HS : Hid (∀ w', Below w.heap.size w w' → StatesOf w' so n ss) := fun w' h => hs.below h
  have HL := hid hs.1
  clear hs
  go_enter Try.func33, Try.ntmps33
  go_wp2
  go_loopw [7, 12] (fun bv i wr => ∃ k : Nat, k ≤ n ∧ i = .int .i64 k ∧ bv = .int .i64 (lastB (fun s => aboveB ss s f && aboveB ss s t) k) ∧ wr.heap[w.heap.size]? = some (.cells #[.slice so n sc, .slice to tn tc] 32 (0, 0)) ∧ Below w.heap.size w wr) (fun _ i _ => n - (intOf i).toNat)
  case atStart => exact ⟨0, Nat.zero_le _, rfl, rfl, heap_alloc_new _ _, below1 _ _⟩
  case round =>
    obtain ⟨k, hk, rfl, rfl, hq, hb⟩ := hrel
    have HB := hid hb
    have HQ := hid hq
    obtain ⟨q0, q1⟩ := two_cells hq
    clear hq
    by_cases hlt : k < n
    · have C1 := hid (fun w hw => l2Above_any so to n sc tn tc ss T hn k f hf w hw)
      have C2 := hid (fun w hw => l2Above_any so to n sc tn tc ss T hn k t ht w hw)
      obtain ⟨b1, hb1⟩ : ∃ b1, b1 = aboveB ss k f := ⟨_, rfl⟩
      obtain ⟨b2, hb2⟩ : ∃ b2, b2 = aboveB ss k t := ⟨_, rfl⟩
      obtain ⟨lb, hlb⟩ : ∃ lb, lb = lastB (fun s => aboveB ss s f && aboveB ss s t) k := ⟨_, rfl⟩
      have E : Hid (lastB (fun s => aboveB ss s f && aboveB ss s t) (k + 1) = if (b1 && b2) = true then (k : Int) else lb) := hid (by rw [hb1, hb2, hlb]; rfl)
      rw [← hb1] at C1
      rw [← hb2] at C2
      rw [← hlb]
      have S1 := hid (HS.out _ hb)
      have W1 : Hid (∀ w1, Below wr.heap.size wr w1 → Below w.heap.size w w1 ∧ w1.heap[w.heap.size]? = some (.cells #[.slice so n sc, .slice to tn tc] 32 (0, 0))) := hid (fun w1 h => ⟨HB.out.trans (h.mono HB.out.size), block_below HQ.out h⟩)
      clear hb hb1 hb2 hlb
      cases b1 with
      | false =>
        go_wp2_with (go_at_call_of 48 (Value.int .i64 (f : Int)); refine (C1.out _ S1.out).mono ?_; rintro e w1 ⟨rfl, hb1⟩; have V1 := hid (W1.out _ hb1); obtain ⟨p0, p1⟩ := two_cells V1.out.2; clear hb1)
        go_roundw
        case rel => exact ⟨k + 1, by omega, by go_num, by rw [E.out]; rfl, V1.out.2, V1.out.1⟩
        case measure => simp [intOf]; omega
      | true =>
        cases b2 with
        | false =>
          go_wp2_with (first | (go_at_call_of 48 (Value.int .i64 (f : Int)); refine (C1.out _ S1.out).mono ?_; rintro e w1 ⟨rfl, hb1⟩; have V1 := hid (W1.out _ hb1); obtain ⟨p0, p1⟩ := two_cells V1.out.2; have Y1 := hid hb1; clear hb1) | (go_at_call_of 48 (Value.int .i64 (t : Int)); refine (C2.out _ (HS.out _ V1.out.1)).mono ?_; rintro e w2 ⟨rfl, hb2⟩; have V2 := hid (W1.out _ (Y1.out.trans (hb2.mono Y1.out.size))); obtain ⟨r0, r1⟩ := two_cells V2.out.2; clear hb2))
          go_roundw
          case rel => exact ⟨k + 1, by omega, by go_num, by rw [E.out]; rfl, V2.out.2, V2.out.1⟩
          case measure => simp [intOf]; omega
        | true =>
          go_wp2_with (first | (go_at_call_of 48 (Value.int .i64 (f : Int)); refine (C1.out _ S1.out).mono ?_; rintro e w1 ⟨rfl, hb1⟩; have V1 := hid (W1.out _ hb1); obtain ⟨p0, p1⟩ := two_cells V1.out.2; have Y1 := hid hb1; clear hb1) | (go_at_call_of 48 (Value.int .i64 (t : Int)); refine (C2.out _ (HS.out _ V1.out.1)).mono ?_; rintro e w2 ⟨rfl, hb2⟩; have V2 := hid (W1.out _ (Y1.out.trans (hb2.mono Y1.out.size))); obtain ⟨r0, r1⟩ := two_cells V2.out.2; clear hb2))
          go_roundw
          case rel => exact ⟨k + 1, by omega, by go_num, by rw [E.out]; rfl, V2.out.2, V2.out.1⟩
          case measure => simp [intOf]; omega
    · have e : k = n := by omega
      subst e
      clear hb
      go_wp2
      go_ret
      exact ⟨ret_int (by unfold dom; rw [HL.out]), HB.out⟩
end Go.Proofs.Ytjeckanjekgkkaa
