import Derived.Test.YtkkiiffhfjkoaaaGreatDoorPs9
namespace Go.Proofs.YtkkiiffhfjkoaaaGreatDoor
open Go.RowKit Go.Sort
set_option linter.unusedVariables false
attribute [local go_sem ↓] Go.wp_at_zero Go.wp_at_succ

/-- The table of words. -/
def wordsC : Array Value := #[tx [97, 114, 103], .int .i64 3, .int .i64 0, tx [43], .int .i64 4, .int .i64 0, tx [45], .int .i64 5, .int .i64 0, tx [42], .int .i64 6, .int .i64 0, tx [47], .int .i64 7, .int .i64 0, tx [37], .int .i64 8, .int .i64 0, tx [61], .int .i64 9, .int .i64 0, tx [60], .int .i64 10, .int .i64 0, tx [97, 110, 100], .int .i64 11, .int .i64 0, tx [111, 114], .int .i64 12, .int .i64 0, tx [110, 111, 116], .int .i64 13, .int .i64 0, tx [38], .int .i64 14, .int .i64 0, tx [124], .int .i64 15, .int .i64 0, tx [94], .int .i64 16, .int .i64 0, tx [60, 60], .int .i64 17, .int .i64 0, tx [62, 62], .int .i64 18, .int .i64 0, tx [105, 56], .int .i64 19, .int .i64 1, tx [105, 49, 54], .int .i64 19, .int .i64 2, tx [105, 51, 50], .int .i64 19, .int .i64 3, tx [105, 54, 52], .int .i64 19, .int .i64 4, tx [117, 56], .int .i64 19, .int .i64 5, tx [117, 49, 54], .int .i64 19, .int .i64 6, tx [117, 51, 50], .int .i64 19, .int .i64 7]
def itO (k : Nat) : Int := if k < 16 then (k : Int) + 3 else 19
def itV (k : Nat) : Int := if k < 16 then 0 else (k : Int) - 15
theorem wordsC_size : (Tryz.prog.info? 171).map (fun i => i.size) = some 69 := by kernel_rfl
set_option maxRecDepth 100000 in
theorem words_at (k : Nat) (hk : k < 23) : ∀ W, (Instr.index 171 (.agg wordsC) (.int .i64 k)).run Tryz.prog W = .ok (.agg #[.string ⟨(wordT (itO k) (itV k)).toArray⟩, .int .i64 (itO k), .int .i64 (itV k)]) W := by
  have : k = 0 ∨ k = 1 ∨ k = 2 ∨ k = 3 ∨ k = 4 ∨ k = 5 ∨ k = 6 ∨ k = 7 ∨ k = 8 ∨ k = 9 ∨ k = 10 ∨ k = 11 ∨ k = 12 ∨ k = 13 ∨ k = 14 ∨ k = 15 ∨ k = 16 ∨ k = 17 ∨ k = 18 ∨ k = 19 ∨ k = 20 ∨ k = 21 ∨ k = 22 := by omega
  rcases this with rfl | rfl | rfl | rfl | rfl | rfl | rfl | rfl | rfl | rfl | rfl | rfl | rfl | rfl | rfl | rfl | rfl | rfl | rfl | rfl | rfl | rfl | rfl <;> intro W <;> kernel_rfl
/-- Where a word stands in the table. -/
def itN (o v : Int) : Nat := if o = 19 then (15 + v).toNat else (o - 3).toNat
theorem itN_lt {o v : Int} (h : ItOK o v) (h1 : ¬ o = 1) (h2 : ¬ o = 2) : itN o v < 23 := by
  unfold itN
  have := h.lo; have := h.hi
  split
  · rename_i h19; have := h.knd h19; omega
  · omega
theorem itN_is {o v : Int} (h : ItOK o v) (h1 : ¬ o = 1) (h2 : ¬ o = 2) : itO (itN o v) = o ∧ itV (itN o v) = v := by
  unfold itN itO itV
  have := h.lo; have := h.hi
  split
  · rename_i h19
    have := h.knd h19
    rw [if_neg (by omega), if_neg (by omega)]; omega
  · rename_i h19
    have hv := h.nul h1 h2 h19
    rw [if_pos (by omega), if_pos (by omega)]; omega
theorem itN_not {o v : Int} (h : ItOK o v) (h1 : ¬ o = 1) (h2 : ¬ o = 2) {k : Nat} (hk : k < itN o v) : itO k = o → ¬ itV k = v := by
  have := h.lo; have := h.hi
  unfold itN at hk
  unfold itO itV
  split at hk
  · rename_i h19
    have := h.knd h19
    split
    · intro _; omega
    · intro _; omega
  · split
    · intro _; omega
    · intro _; omega

set_option maxRecDepth 100000 in
set_option maxHeartbeats 4000000 in
theorem wordOf_any (o v : Int) (h : ItOK o v) (w : World) (hp : Pow w) {tg : TypeId} {fr : Nat × Nat} (hT : w.heap[0]? = some (.cells wordsC tg fr)) (hpb : ∀ w', Below w.heap.size w w' → Pow w') :
    Calls Tryz.prog 76 #[.agg #[.int .i64 o, .int .i64 v]] w fun e w' => e = .returned (.string ⟨(wordT o v).toArray⟩) ∧ Below w.heap.size w w' := by
  obtain ⟨Z, hZ⟩ : ∃ Z, Z = w.alloc (.cells #[.int .i64 o, .int .i64 v] 87) := ⟨_, rfl⟩
  have BZ0 : Below w.heap.size w Z := by rw [hZ]; exact below1 _ _
  have BZ := hid BZ0
  have PZ := hid (hpb Z BZ0)
  have C := hid (fun W hW => itoa_any v h.val W hW)
  by_cases h1 : o = 1
  · subst h1
    have ew : wordT 1 v = Lib.itoa v := rfl
    rw [ew]
    have PZ' : Hid (Pow (w.alloc (.cells #[.int .i64 1, .int .i64 v] 87))) := hid (by rw [← hZ]; exact PZ.out)
    have HZ := hid hZ
    clear hT hp hpb BZ0 hZ
    go_enter Tryz.func76, Tryz.ntmps76
    go_wp2_with (go_at_call 75; refine (C.out _ PZ'.out).mono ?_; rintro e w1 ⟨rfl, hb1⟩; have B1 := hid hb1; clear hb1)
    go_ret
    exact ⟨rfl, (below1 w _).trans (B1.out.mono (by simp))⟩
  · by_cases h2 : o = 2
    · subst h2
      have hil := itoa_l h.val
      have PZ' : Hid (Pow (w.alloc (.cells #[.int .i64 2, .int .i64 v] 87))) := hid (by rw [← hZ]; exact PZ.out)
      obtain ⟨y, hy, Y⟩ := catx [118] (Lib.itoa v) (by simp; omega)
      have ew : Hid (wordT 2 v = y) := hid (by rw [hy.out]; rfl)
      clear hT hp hpb BZ0 hZ hil h1
      go_enter Tryz.func76, Tryz.ntmps76
      go_wp2_with (go_at_call 75; refine (C.out _ PZ'.out).mono ?_; rintro e w1 ⟨rfl, hb1⟩; have B1 := hid hb1; clear hb1)
      go_ret
      exact ⟨by rw [ew.out]; rfl, (below1 w _).trans (B1.out.mono (by simp))⟩
    · have HT := hid (block_below hT (below1 w (.cells #[.int .i64 o, .int .i64 v] 87)))
      have HN := hid (heap_alloc_new w (.cells #[.int .i64 o, .int .i64 v] 87))
      rw [← hZ] at HN
      have HS : Hid (wordsC.size = 69) := hid (by decide)
      have IX := hid words_at
      obtain ⟨FT, hFT⟩ : ∃ F, F = wordsC := ⟨_, rfl⟩
      rw [← hFT] at HT HS IX
      obtain ⟨N, hN⟩ : ∃ N, N = itN o v := ⟨_, rfl⟩
      have hN23 := itN_lt h h1 h2
      have NI := hid (itN_is h h1 h2)
      have NN := hid (fun k hk => itN_not h h1 h2 (k := k) hk)
      rw [← hN] at hN23 NI NN
      have HZ := hid hZ
      clear hT hFT BZ0 hZ hN hp hpb C PZ
      go_enter Tryz.func76, Tryz.ntmps76
      go_wp2_with (refine wpList_load_row rfl 171 _ rfl 0 rfl _ FT fr _ HT.out Tryz.underlying171 rfl (by rw [HS.out]; exact wordsC_size) ?_)
      rw [← HZ.out]
      obtain ⟨P0, hP0⟩ : ∃ P, P = w.heap.size := ⟨_, rfl⟩
      have HN' : Hid (Z.heap[P0]? = some (.cells #[.int .i64 o, .int .i64 v] 87 (0, 0))) := hid (by rw [hP0]; exact HN.out)
      rw [← hP0]
      clear hP0 HN HT
      go_loopw [19] (fun i wr => ∃ (k : Nat), k ≤ N ∧ i = .int .i64 k ∧ Below Z.heap.size Z wr) (fun i _ => 23 - (intOf i).toNat)
      case atStart => exact ⟨0, Nat.zero_le _, rfl, Below.refl _ _⟩
      case round =>
        obtain ⟨k, hk, rfl, hb⟩ := hrel
        have hlt : k < 23 := by omega
        have hlt' : (k : Int) < 23 := by omega
        have ix := IX.out k hlt
        have HB := hid hb
        have X1 := hid (block_below HN'.out hb)
        obtain ⟨q0, q1⟩ := two_cells X1.out
        have ql := lt_of_block X1.out
        by_cases hkN : k = N
        · subst hkN
          rw [NI.out.1, NI.out.2] at ix
          clear hb
          go_wp2
          go_ret
          exact ⟨rfl, (BZ.out.trans (HB.out.mono BZ.out.size)).trans ((below1 wr _).mono (BZ.out.trans (HB.out.mono BZ.out.size)).size)⟩
        · have hkN' : k < N := by omega
          have nn := NN.out k hkN'
          obtain ⟨ko, hko⟩ : ∃ z, z = itO k := ⟨_, rfl⟩
          obtain ⟨kv, hkv⟩ : ∃ z, z = itV k := ⟨_, rfl⟩
          obtain ⟨kw, hkw⟩ : ∃ z, z = wordT (itO k) (itV k) := ⟨_, rfl⟩
          rw [← hkw] at ix
          rw [← hko, ← hkv] at ix nn
          clear hb hko hkv hkw
          by_cases e1 : ko = o
          · have e2 := nn e1
            have e2' : (kv == v) = false := by simpa using e2
            subst e1
            clear nn e2
            go_wp2
            go_roundw
            case rel => exact ⟨k + 1, by omega, by go_num, HB.out.trans ((below1 wr _).mono HB.out.size)⟩
            case measure => simp [intOf]; omega
          · have e1' : (ko == o) = false := by simpa using e1
            clear nn e1
            go_wp2
            go_roundw
            case rel => exact ⟨k + 1, by omega, by go_num, HB.out.trans ((below1 wr _).mono HB.out.size)⟩
            case measure => simp [intOf]; omega
end Go.Proofs.YtkkiiffhfjkoaaaGreatDoor
