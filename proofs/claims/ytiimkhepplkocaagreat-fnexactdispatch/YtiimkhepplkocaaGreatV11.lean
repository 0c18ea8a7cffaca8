import Derived.Test.YtiimkhepplkocaaGreatV10
namespace Go.Proofs.YtiimkhepplkocaaGreat
open Go.RowKit Go.Sort
set_option linter.unusedVariables false

theorem row_ints {w : World} {g n B : Nat} {zs : List Int} (h : w.rowIs g 3 n (fun i => .int .i64 (zs.getD i 0))) (hn : n ≤ 1048576) (hB : B ≤ g) : IntsR w B 3 1 (.slice (some ⟨g, 0, none⟩) n n) n := by
  obtain ⟨cs, h1, h2, h3⟩ := h
  refine ⟨cs.toList, ⟨by simp [h2], .inr ⟨g, n, cs, rfl, hB, h1, Nat.le_refl _, by unfold maxLen; omega, by omega, by rw [List.take_of_length_le]; simp [h2]⟩⟩, fun j hj => ?_⟩
  exact ⟨zs.getD j 0, by have := h3 j (by omega); simpa using this⟩

set_option maxHeartbeats 400000 in
theorem toBank_full (ao bo : Option Addr) (n m c d : Nat) (ks vs : List Int) (w : World) (hn : n ≤ 1048576) (hm : m ≤ 1048576) (hx : SliceOf w ao n ks) (hy : SliceOf w bo m vs) :
    Calls Tryz.prog 33 #[.agg #[.slice ao n c, .slice bo m d]] w fun e w' => ∃ g1 g2, e = .returned (.agg #[.slice (some ⟨g1, 0, none⟩) n n, .slice (some ⟨g2, 0, none⟩) m m]) ∧ (SliceOf w' (some ⟨g1, 0, none⟩) n ks ∧ SliceOf w' (some ⟨g2, 0, none⟩) m vs) ∧ (IntsR w' w.heap.size 3 1 (.slice (some ⟨g1, 0, none⟩) n n) n ∧ IntsR w' w.heap.size 3 1 (.slice (some ⟨g2, 0, none⟩) m m) m ∧ g1 < g2) ∧ Below w.heap.size w w' := by
  have HX : Hid (∀ w', Below w.heap.size w w' → SliceOf w' ao n ks ∧ SliceOf w' bo m vs) := fun w' h => ⟨hx.below h, hy.below h⟩
  have HL : Hid (ks.length = n ∧ vs.length = m) := ⟨hx.1, hy.1⟩
  clear hx hy
  go_enter Tryz.func33, Tryz.ntmps33
  go_wp2_with (first | (go_at_call_of 92 (Value.slice ao n c); (refine (toIntS_any ao n c ks _ hn (HX.out _ (below3 _ _ _ _)).1).mono ?_; rintro e w1 ⟨rfl, hrow, hb1⟩; have hz := hrow.lt; simp only [World.size_alloc] at hz; have hza : w.heap.size + 1 + 1 < w1.heap.size := (by omega); have hzb : w.heap.size + 1 < w1.heap.size := (by omega); have hzc : w.heap.size < w1.heap.size := (by omega); obtain ⟨hc, hf⟩ := bcell2 hb1; have R1 := hid hrow; have B1 := hid hb1; clear hrow hb1)) | (go_at_call_of 92 (Value.slice bo m d); refine (toIntS_any bo m d vs _ hm (HX.out _ (((below3 _ _ _ _).trans (B1.out.mono (by simp; omega))).setCell (by simp; omega) _)).2).mono ?_; rintro e w2 ⟨rfl, hrow2, hb2⟩; have hz2 := hrow2.lt; obtain ⟨hc2, hf2⟩ := bcell2 hb2; have R2 := hid hrow2; have B2 := hid hb2; clear hrow2 hb2))
  refine bodyPost_ret (v := .agg #[.slice (some ⟨w.heap.size + 1 + 1 + 1, 0, none⟩) n n, .slice (some ⟨w1.heap.size, 0, none⟩) m m]) (by simp [results, Tryz.results33, go_sem, hc, hc2, hzb]) rfl ?_
  have r1 := R1.out
  simp only [World.size_alloc] at r1
  have r2 := R2.out
  simp only [World.size_setCell] at r2
  have b2 := B2.out
  simp only [World.size_setCell] at b2
  have r1' := ((((r1.setOther (a := ⟨w.heap.size + 1 + 1, 0, none⟩) (by simp) (Value.slice (some ⟨w.heap.size + 1 + 1 + 1, 0, none⟩) n n)).of_block (b2.block _ hz)).setOther (a := ⟨w.heap.size + 1 + 1, 1, none⟩) (by simp) (Value.slice (some ⟨w1.heap.size, 0, none⟩) m m)).setOther (a := ⟨w.heap.size + 1, 0, none⟩) (by simp; omega) (Value.slice (some ⟨w.heap.size + 1 + 1 + 1, 0, none⟩) n n)).setOther (a := ⟨w.heap.size + 1, 1, none⟩) (by simp; omega) (Value.slice (some ⟨w1.heap.size, 0, none⟩) m m)
  have r2' := ((r2.setOther (a := ⟨w.heap.size + 1 + 1, 1, none⟩) (by simp; omega) (Value.slice (some ⟨w1.heap.size, 0, none⟩) m m)).setOther (a := ⟨w.heap.size + 1, 0, none⟩) (by simp; omega) (Value.slice (some ⟨w.heap.size + 1 + 1 + 1, 0, none⟩) n n)).setOther (a := ⟨w.heap.size + 1, 1, none⟩) (by simp; omega) (Value.slice (some ⟨w1.heap.size, 0, none⟩) m m)
  have b1 := B1.out
  simp only [World.size_alloc] at b1
  exact ⟨_, _, rfl, ⟨SliceOf.row HL.out.1 r1', SliceOf.row HL.out.2 r2'⟩, ⟨row_ints r1' hn (by omega), row_ints r2' hm (by have := B1.out.size; simp at this; omega), by have := hz; omega⟩, ((((((below3 _ _ _ _).trans (b1.mono (by omega))).setCell (by simp; omega) _).trans (b2.mono (by omega))).setCell (by simp; omega) _).setCell (by simp) _).setCell (by simp) _⟩
end Go.Proofs.YtiimkhepplkocaaGreat
