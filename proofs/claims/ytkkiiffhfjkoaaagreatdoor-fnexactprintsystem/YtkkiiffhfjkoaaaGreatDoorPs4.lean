import Derived.Test.YtkkiiffhfjkoaaaGreatDoorPs3
namespace Go.Proofs.YtkkiiffhfjkoaaaGreatDoor
open Go.RowKit Go.Sort
set_option linter.unusedVariables false
attribute [local go_sem ↓] Go.wp_at_zero Go.wp_at_succ

theorem kindNames_at (m : Nat) (hm : m < 7) (w : World) : Calls Tryz.prog 13 #[] w fun e w' => ∃ g, e = .returned (.slice (some ⟨g, 0, none⟩) 7 7) ∧ w'.cell? ⟨g, m, none⟩ = some (.string ⟨(kindName ((m : Int) + 1)).toArray⟩) ∧ Below w.heap.size w w' := by
  refine (kindNames_any w).mono ?_
  rintro e w' ⟨rfl, rfl⟩
  refine ⟨_, rfl, ?_, below1 _ _⟩
  have hc := heap_alloc_new w (.cells #[tx (kindName 1), tx (kindName 2), tx (kindName 3), tx (kindName 4), tx (kindName 5), tx (kindName 6), tx (kindName 7)] 9)
  rw [Lib.cell_of_heap hc]
  have : m = 0 ∨ m = 1 ∨ m = 2 ∨ m = 3 ∨ m = 4 ∨ m = 5 ∨ m = 6 := by omega
  rcases this with rfl | rfl | rfl | rfl | rfl | rfl | rfl <;> rfl
theorem opNames_at (m : Nat) (hm : m < 15) (w : World) : Calls Tryz.prog 27 #[] w fun e w' => ∃ g, e = .returned (.slice (some ⟨g, 0, none⟩) 15 15) ∧ w'.cell? ⟨g, m, none⟩ = some (.string ⟨(opName ((m : Int) + 4)).toArray⟩) ∧ Below w.heap.size w w' := by
  refine (opNames_any w).mono ?_
  rintro e w' ⟨rfl, rfl⟩
  refine ⟨_, rfl, ?_, below1 _ _⟩
  have hc := heap_alloc_new w (.cells #[tx (opName 4), tx (opName 5), tx (opName 6), tx (opName 7), tx (opName 8), tx (opName 9), tx (opName 10), tx (opName 11), tx (opName 12), tx (opName 13), tx (opName 14), tx (opName 15), tx (opName 16), tx (opName 17), tx (opName 18)] 9)
  rw [Lib.cell_of_heap hc]
  have : m = 0 ∨ m = 1 ∨ m = 2 ∨ m = 3 ∨ m = 4 ∨ m = 5 ∨ m = 6 ∨ m = 7 ∨ m = 8 ∨ m = 9 ∨ m = 10 ∨ m = 11 ∨ m = 12 ∨ m = 13 ∨ m = 14 := by omega
  rcases this with rfl | rfl | rfl | rfl | rfl | rfl | rfl | rfl | rfl | rfl | rfl | rfl | rfl | rfl | rfl <;> rfl
theorem stmNames_at (m : Nat) (hm : m < 9) (w : World) : Calls Tryz.prog 25 #[] w fun e w' => ∃ g, e = .returned (.slice (some ⟨g, 0, none⟩) 9 9) ∧ w'.cell? ⟨g, m, none⟩ = some (.string ⟨(stmName ((m : Int) + 1)).toArray⟩) ∧ Below w.heap.size w w' := by
  refine (stmNames_any w).mono ?_
  rintro e w' ⟨rfl, rfl⟩
  refine ⟨_, rfl, ?_, below1 _ _⟩
  have hc := heap_alloc_new w (.cells #[tx (stmName 1), tx (stmName 2), tx (stmName 3), tx (stmName 4), tx (stmName 5), tx (stmName 6), tx (stmName 7), tx (stmName 8), tx (stmName 9)] 9)
  rw [Lib.cell_of_heap hc]
  have : m = 0 ∨ m = 1 ∨ m = 2 ∨ m = 3 ∨ m = 4 ∨ m = 5 ∨ m = 6 ∨ m = 7 ∨ m = 8 := by omega
  rcases this with rfl | rfl | rfl | rfl | rfl | rfl | rfl | rfl | rfl <;> rfl

theorem bel_up {w wr W w1 : World} (h : Below w.heap.size w wr) (h1 : Below wr.heap.size wr W) (h2 : Below W.heap.size W w1) : Below w.heap.size w w1 := h.trans ((h1.trans (h2.mono h1.size)).mono h.size)
set_option maxRecDepth 100000 in
set_option maxHeartbeats 3200000 in
theorem codeText_any (ao : Option Addr) (n c : Nat) (its : List (Int × Int)) (w : World) (hok : CodeOK its) (hs : ItemsOf w ao n its) :
    Calls Tryz.prog 15 #[.slice ao n c] w fun e w' => e = .returned (tx (codeT its n)) ∧ Below w.heap.size w w' := by
  have HL := hid hs.1
  have hn : n ≤ 200 := by rw [← hs.1]; exact hok.1
  have HO := hid hok
  clear hok
  go_enter Tryz.func15, Tryz.ntmps15
  go_wp2
  go_loopw [3, 8] (fun o i wr => ∃ (k : Nat), k ≤ n ∧ i = .int .i64 k ∧ o = tx (codeT its k) ∧ Below w.heap.size w wr) (fun _ i _ => n - (intOf i).toNat)
  case atStart => exact ⟨0, Nat.zero_le _, rfl, rfl, Below.refl _ _⟩
  case round =>
    obtain ⟨k, hk, rfl, rfl, hb⟩ := hrel
    have HB := hid hb
    by_cases hlt : k < n
    · obtain ⟨b, off, rfl, hbl, hc⟩ := hs.2 (by omega)
      obtain ⟨op, hop⟩ : ∃ z, z = (its.getD k (0, 0)).1 := ⟨_, rfl⟩
      obtain ⟨v, hv⟩ : ∃ z, z = (its.getD k (0, 0)).2 := ⟨_, rfl⟩
      have hok := HO.out.2 k (by rw [HL.out]; exact hlt)
      have c0 := (hb.cell (p := ⟨b, off + k * 2, none⟩) hbl).trans (hc k hlt).1
      have c1 := (hb.cell (p := ⟨b, off + k * 2 + 1, none⟩) hbl).trans (hc k hlt).2
      have hT := codeT_l HO.out (n := k) (by rw [HL.out]; exact hk)
      have hW := wordT_l hok
      have ES : Hid (codeT its (k + 1) = codeT its k ++ ([32] ++ wordT op v)) := hid (by rw [hop, hv]; rfl)
      rw [← hop] at c0
      rw [← hv] at c1
      rw [← hop, ← hv] at hok hW
      have hbl' : b < wr.heap.size := Nat.lt_of_lt_of_le hbl hb.size
      obtain ⟨t, ht⟩ : ∃ t, t = codeT its k := ⟨_, rfl⟩
      rw [← ht] at hT ES ⊢
      obtain ⟨lo, hi, i64, knd, nul⟩ := hok
      have HT := hid hT
      clear hc hs hb hop hv ht
      by_cases h1 : op = 1
      · subst h1
        have ew : wordT 1 v = Lib.itoa v := rfl
        rw [ew] at ES hW
        obtain ⟨y, hy, K1⟩ := catx [32] (Lib.itoa v) (by simp; omega)
        obtain ⟨z, hz, K2⟩ := catx t y (by have := HT.out; rw [hy.out]; simp; omega)
        have C := hid (fun W => l5Dec_any v W i64.1 i64.2)
        clear i64 knd nul lo hi hW hT
        go_wp2_with (go_at_call 12; refine (C.out _).mono ?_; rintro e w1 ⟨rfl, hb1⟩; have B1 := hid hb1; clear hb1)
        go_roundw
        case rel => exact ⟨k + 1, by omega, by go_num, by rw [ES.out, ← hy.out, ← hz.out], bel_up HB.out (below1 _ _) B1.out⟩
        case measure => simp [intOf]; omega
      · by_cases h2 : op = 2
        · subst h2
          have ew : wordT 2 v = [118] ++ Lib.itoa v := rfl
          rw [ew] at ES hW
          have hi2 := itoa_l i64
          obtain ⟨y, hy, K1⟩ := catx [32, 118] (Lib.itoa v) (by simp; omega)
          obtain ⟨z, hz, K2⟩ := catx t y (by have := HT.out; rw [hy.out]; simp; omega)
          have C := hid (fun W => l5Dec_any v W i64.1 i64.2)
          clear i64 knd nul lo hi hW hT h1 hi2
          go_wp2_with (go_at_call 12; refine (C.out _).mono ?_; rintro e w1 ⟨rfl, hb1⟩; have B1 := hid hb1; clear hb1)
          go_roundw
          case rel => exact ⟨k + 1, by omega, by go_num, by rw [ES.out, hz.out, hy.out]; rfl, bel_up HB.out (below1 _ _) B1.out⟩
          case measure => simp [intOf]; omega
        · by_cases h3 : op = 3
          · subst h3
            have ew : wordT 3 v = [97, 114, 103] := rfl
            rw [ew] at ES
            obtain ⟨z, hz, K2⟩ := catx t [32, 97, 114, 103] (by simp; omega)
            clear i64 knd nul lo hi hW hT h1 h2
            go_wp2_with fail
            go_roundw
            case rel => exact ⟨k + 1, by omega, by go_num, by rw [ES.out, hz.out]; rfl, HB.out.trans ((below1 wr _).mono HB.out.size)⟩
            case measure => simp [intOf]; omega
          · have BX := hid (below1 wr (.cells #[.int .i64 op, .int .i64 v] 87))
            have XX := hid (heap_alloc_new wr (.cells #[.int .i64 op, .int .i64 v] 87))
            obtain ⟨W, hWW⟩ : ∃ W, W = wr.alloc (.cells #[.int .i64 op, .int .i64 v] 87) := ⟨_, rfl⟩
            obtain ⟨HX, hHX⟩ : ∃ H, H = wr.heap.size := ⟨_, rfl⟩
            have d0 : W.cell? ⟨HX, 0, none⟩ = some (.int .i64 op) := by rw [hWW, hHX, Lib.cell_of_heap XX.out]; rfl
            have d1 : W.cell? ⟨HX, 1, none⟩ = some (.int .i64 v) := by rw [hWW, hHX, Lib.cell_of_heap XX.out]; rfl
            have hHl : HX < W.heap.size := by rw [hWW, hHX]; simp
            have BW : Hid (Below w.heap.size w W) := hid (by rw [hWW]; exact HB.out.trans (BX.out.mono HB.out.size))
            by_cases h19 : op = 19
            · subst h19
              have hv7 := knd rfl
              obtain ⟨m, hm⟩ : ∃ m : Nat, v = (m : Int) + 1 := ⟨(v - 1).toNat, by omega⟩
              subst hm
              have hm7 : m < 7 := by omega
              have hmi0 : (0 : Int) ≤ (m : Int) := by omega
              have hmi : (m : Int) < 7 := by omega
              have wr1 : IntKind.i64.wrap ((m : Int) + 1 - 1) = m := by rw [IntWalk.i64_in _ (by omega)]; omega
              have wr2 : IntKind.i64.wrap (m : Int) = m := IntWalk.i64_in _ (by omega)
              have ew : wordT 19 ((m : Int) + 1) = kindName ((m : Int) + 1) := rfl
              rw [ew] at ES hW
              obtain ⟨nm, hnm⟩ : ∃ nm, nm = kindName ((m : Int) + 1) := ⟨_, rfl⟩
              have C := hid (kindNames_at m hm7 W.drew)
              rw [← hnm] at ES hW C
              obtain ⟨y, hy, K1⟩ := catx [32] nm (by simp; omega)
              obtain ⟨z, hz, K2⟩ := catx t y (by have := HT.out; rw [hy.out]; simp; omega)
              clear i64 knd nul lo hi hW hT h1 h2 h3 hnm hv7 BX XX
              go_upto_region 13 with fail
              rw [← hHX, ← hWW]
              clear hWW hHX
              have HD : Hid (HX < W.drew.heap.size) := hid hHl
              have SW : Hid (W.drew.cell? ⟨HX, 1, none⟩ = some (.int .i64 ((m : Int) + 1))) := hid d1
              have sw := SW.out
              go_region_with (first | (go_at_call 13; have q := C.out; with_reducible refine q.mono ?_; clear q; rintro e w1 ⟨g, rfl, hg, hb1⟩; have sx : w1.cell? ⟨HX, 1, none⟩ = some (.int .i64 ((m : Int) + 1)) := ((hb1.cell (p := ⟨HX, 1, none⟩) HD.out).trans SW.out); have B1 := hid hb1; clear hb1))
              all_goals
                go_wp2_with fail
                go_roundw
                case rel => exact ⟨k + 1, by omega, by go_num, by rw [ES.out, ← hy.out, ← hz.out], bel_up BW.out ((Below.refl _ _).drew) B1.out⟩
                case measure => simp [intOf]; omega
            · have h0 := nul h1 h2 h19
              subst h0
              obtain ⟨m, hm⟩ : ∃ m : Nat, op = (m : Int) + 4 := ⟨(op - 4).toNat, by omega⟩
              subst hm
              have hm15 : m < 15 := by omega
              have hmi0 : (0 : Int) ≤ (m : Int) := by omega
              have hmi : (m : Int) < 15 := by omega
              have wr1 : IntKind.i64.wrap ((m : Int) + 4 - 4) = m := by rw [IntWalk.i64_in _ (by omega)]; omega
              have wr2 : IntKind.i64.wrap (m : Int) = m := IntWalk.i64_in _ (by omega)
              have ew : wordT ((m : Int) + 4) 0 = opName ((m : Int) + 4) := by unfold wordT; rw [if_neg h1, if_neg h2, if_neg h3, if_neg h19]
              rw [ew] at ES hW
              obtain ⟨nm, hnm⟩ : ∃ nm, nm = opName ((m : Int) + 4) := ⟨_, rfl⟩
              have C := hid (opNames_at m hm15 W.drew)
              rw [← hnm] at ES hW C
              obtain ⟨y, hy, K1⟩ := catx [32] nm (by simp; omega)
              obtain ⟨z, hz, K2⟩ := catx t y (by have := HT.out; rw [hy.out]; simp; omega)
              clear i64 knd nul lo hi hW hT hnm BX XX
              go_upto_region 5 with fail
              rw [← hHX, ← hWW]
              clear hWW hHX h1 h2 h3 h19
              have HD : Hid (HX < W.drew.heap.size) := hid hHl
              have SW : Hid (W.drew.cell? ⟨HX, 0, none⟩ = some (.int .i64 ((m : Int) + 4))) := hid d0
              have sw := SW.out
              go_region_with (first | (go_at_call 27; have q := C.out; with_reducible refine q.mono ?_; clear q; rintro e w1 ⟨g, rfl, hg, hb1⟩; have sx : w1.cell? ⟨HX, 0, none⟩ = some (.int .i64 ((m : Int) + 4)) := ((hb1.cell (p := ⟨HX, 0, none⟩) HD.out).trans SW.out); have B1 := hid hb1; clear hb1))
              all_goals
                go_wp2_with fail
                go_roundw
                case rel => exact ⟨k + 1, by omega, by go_num, by rw [ES.out, ← hy.out, ← hz.out], bel_up BW.out ((Below.refl _ _).drew) B1.out⟩
                case measure => simp [intOf]; omega
    · have e : k = n := by omega
      subst e
      clear hs hb
      go_wp2
      go_ret
      exact ⟨rfl, HB.out⟩
end Go.Proofs.YtkkiiffhfjkoaaaGreatDoor
