import Derived.Test.YtkkiiffhfjkoaaaGreatDoorPsI
import Derived.Test.YtkkiiffhfjkoaaaGreatDoorPs8
namespace Go.Proofs.YtkkiiffhfjkoaaaGreatDoor
open Go.RowKit Go.Sort
set_option linter.unusedVariables false
attribute [local go_sem ↓] Go.wp_at_zero Go.wp_at_succ

theorem five_cc {w : World} {H : Nat} {a b c d e : Value} {t : TypeId} (k : w.heap[H]? = some (.cells #[a, b, c, d, e] t (0, 0))) : w.cell? ⟨H, 0, none⟩ = some a ∧ w.cell? ⟨H, 1, none⟩ = some b ∧ w.cell? ⟨H, 2, none⟩ = some c ∧ w.cell? ⟨H, 3, none⟩ = some d ∧ w.cell? ⟨H, 4, none⟩ = some e := by
  simp [World.cell?, k]
theorem set5 {w : World} {H : Nat} {a b c d e : Value} {t : TypeId} (k : w.heap[H]? = some (.cells #[a, b, c, d, e] t (0, 0))) (v0 v1 v2 v3 v4 : Value) : (((((w.setCell ⟨H, 0, none⟩ v0).setCell ⟨H, 1, none⟩ v1).setCell ⟨H, 2, none⟩ v2).setCell ⟨H, 3, none⟩ v3).setCell ⟨H, 4, none⟩ v4).heap[H]? = some (.cells #[v0, v1, v2, v3, v4] t (0, 0)) := by
  have h0 := heap_setCell_same w H 0 _ _ v0 k
  have h1 := heap_setCell_same _ H 1 _ _ v1 h0
  have h2 := heap_setCell_same _ H 2 _ _ v2 h1
  have h3 := heap_setCell_same _ H 3 _ _ v3 h2
  have h4 := heap_setCell_same _ H 4 _ _ v4 h3
  simpa using h4
/-- A row of the table of forms. -/
def formV (k : Int) (c : Bool) : Array Value := #[.int .i64 k, tx (stmName k), .bool (giveA k), .bool (giveB k), .bool c]
def formsC : Array Value := formV 1 true ++ formV 2 true ++ formV 3 true ++ formV 4 true ++ formV 5 true ++ formV 6 false ++ formV 7 false ++ formV 8 true ++ formV 9 false
def formC2 (k : Nat) : Bool := decide (k + 1 = 1 ∨ k + 1 = 2 ∨ k + 1 = 3 ∨ k + 1 = 4 ∨ k + 1 = 5 ∨ k + 1 = 8)
theorem formsC_size : (Tryz.prog.info? 201).map (fun i => i.size) = some 45 := by kernel_rfl
set_option maxRecDepth 100000 in
theorem forms_at (k : Nat) (hk : k < 9) : ∀ W, (Instr.index 201 (.agg formsC) (.int .i64 k)).run Tryz.prog W = .ok (.agg #[.int .i64 ((k : Int) + 1), .string ⟨(stmName ((k : Int) + 1)).toArray⟩, .bool (giveA ((k : Int) + 1)), .bool (giveB ((k : Int) + 1)), .bool (formC2 k)]) W := by
  have : k = 0 ∨ k = 1 ∨ k = 2 ∨ k = 3 ∨ k = 4 ∨ k = 5 ∨ k = 6 ∨ k = 7 ∨ k = 8 := by omega
  rcases this with rfl | rfl | rfl | rfl | rfl | rfl | rfl | rfl | rfl <;> intro W <;> kernel_rfl
set_option maxRecDepth 100000 in
set_option maxHeartbeats 4000000 in
theorem formOfKind_any (kd : Int) (w : World) (h1 : 1 ≤ kd) (h9 : kd ≤ 9) {tg : TypeId} {fr : Nat × Nat} (hT : w.heap[1]? = some (.cells formsC tg fr)) :
    Calls Tryz.prog 102 #[.int .i64 kd] w fun e w' => (∃ c, e = .returned (.tuple #[.agg #[.int .i64 kd, .string ⟨(stmName kd).toArray⟩, .bool (giveA kd), .bool (giveB kd), .bool c], .bool true])) ∧ Below w.heap.size w w' := by
  obtain ⟨Z, hZ⟩ : ∃ Z, Z = w.alloc (.cells #[.int .i64 0, .string ⟨#[]⟩, .bool false, .bool false, .bool false] 173) := ⟨_, rfl⟩
  have BZ0 : Below w.heap.size w Z := by rw [hZ]; exact below1 _ _
  have HT := hid (block_below hT (below1 w (.cells #[.int .i64 0, .string ⟨#[]⟩, .bool false, .bool false, .bool false] 173)))
  have HN := hid (heap_alloc_new w (.cells #[.int .i64 0, .string ⟨#[]⟩, .bool false, .bool false, .bool false] 173))
  rw [← hZ] at HN
  have HS : Hid (formsC.size = 45) := hid (by decide)
  have IX := hid forms_at
  obtain ⟨FT, hFT⟩ : ∃ F, F = formsC := ⟨_, rfl⟩
  rw [← hFT] at HT HS IX
  have BZ := hid BZ0
  have HZ := hid hZ
  clear hT hFT BZ0 hZ
  go_enter Tryz.func102, Tryz.ntmps102
  go_wp2_with (refine wpList_load_row rfl 201 _ rfl 1 rfl _ FT fr _ HT.out Tryz.underlying201 rfl (by rw [HS.out]; exact formsC_size) ?_)
  rw [← HZ.out]
  obtain ⟨P0, hP0⟩ : ∃ P, P = w.heap.size := ⟨_, rfl⟩
  have HN' : Hid (Z.heap[P0]? = some (.cells #[.int .i64 0, .string ⟨#[]⟩, .bool false, .bool false, .bool false] 173 (0, 0))) := hid (by rw [hP0]; exact HN.out)
  have hPw : Hid (w.heap.size ≤ P0) := hid (by omega)
  rw [← hP0]
  clear hP0 HN HT
  go_loopw [7] (fun i wr => ∃ (k : Nat), k ≤ 9 ∧ i = .int .i64 k ∧ Hid ((k : Int) + 1 ≤ kd) ∧ Below Z.heap.size Z wr) (fun i _ => 9 - (intOf i).toNat)
  case atStart => exact ⟨0, Nat.zero_le _, rfl, hid (by omega), Below.refl _ _⟩
  case round =>
    obtain ⟨k, hk, rfl, hkd, hb⟩ := hrel
    have hlt : k < 9 := by have := hkd.out; omega
    have hlt' : (k : Int) < 9 := by omega
    have ix := IX.out k hlt
    have HB := hid hb
    have X1 := hid (block_below HN'.out hb)
    obtain ⟨q0, q1, q2, q3, q4⟩ := five_cc X1.out
    have ql := lt_of_block X1.out
    by_cases he : (k : Int) + 1 = kd
    · rw [he] at ix
      clear hb
      have f0 : wr.frozen? ⟨P0, 0, none⟩ = false := Lib.frozen_of_heap X1.out 0
      have f1 : wr.frozen? ⟨P0, 1, none⟩ = false := Lib.frozen_of_heap X1.out 1
      have f2 : wr.frozen? ⟨P0, 2, none⟩ = false := Lib.frozen_of_heap X1.out 2
      have f3 : wr.frozen? ⟨P0, 3, none⟩ = false := Lib.frozen_of_heap X1.out 3
      have f4 : wr.frozen? ⟨P0, 4, none⟩ = false := Lib.frozen_of_heap X1.out 4
      go_wp2
      have U := block_below (set5 X1.out (.int .i64 kd) (.string ⟨(stmName kd).toArray⟩) (.bool (giveA kd)) (.bool (giveB kd)) (.bool (formC2 k))) (below1 _ (.cells #[.int .i64 kd, .string ⟨(stmName kd).toArray⟩, .bool (giveA kd), .bool (giveB kd), .bool (formC2 k)] 173))
      obtain ⟨u0, u1, u2, u3, u4⟩ := five_cc U
      refine bodyPost_ret (v := .tuple #[.agg #[.int .i64 kd, .string ⟨(stmName kd).toArray⟩, .bool (giveA kd), .bool (giveB kd), .bool (formC2 k)], .bool true]) (by simp [results, Tryz.results102, go_sem, u0, u1, u2, u3, u4]) rfl ?_
      refine ⟨⟨_, rfl⟩, ?_⟩
      have hP := hPw.out
      have h0 : Below w.heap.size w wr := BZ.out.trans (HB.out.mono BZ.out.size)
      have h5 := ((((h0.setCell (p := ⟨P0, 0, none⟩) hP (.int .i64 kd)).setCell (p := ⟨P0, 1, none⟩) hP (.string ⟨(stmName kd).toArray⟩)).setCell (p := ⟨P0, 2, none⟩) hP (.bool (giveA kd))).setCell (p := ⟨P0, 3, none⟩) hP (.bool (giveB kd))).setCell (p := ⟨P0, 4, none⟩) hP (.bool (formC2 k))
      exact h5.alloc h5.size _
    · have he' : ((k : Int) + 1 == kd) = false := by simpa using he
      have HE := hid he
      clear hb he
      go_wp2
      go_roundw
      case rel => exact ⟨k + 1, by omega, by go_num, hid (by have := hkd.out; have := HE.out; push_cast; omega), HB.out.trans ((below1 wr _).mono HB.out.size)⟩
      case measure => simp [intOf]; omega
end Go.Proofs.YtkkiiffhfjkoaaaGreatDoor
