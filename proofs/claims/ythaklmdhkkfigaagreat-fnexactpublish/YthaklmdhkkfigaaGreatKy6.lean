import Derived.Test.YthaklmdhkkfigaaGreatKy5
import Derived.Test.YthaklmdhkkfigaaGreatYb
namespace Go.Proofs.YthaklmdhkkfigaaGreat
open Go.RowKit Go.Sort
set_option linter.unusedVariables false
attribute [local go_sem ↓] Go.wp_at_zero Go.wp_at_succ

theorem toEvent_f (ao : Option Addr) (n c : Nat) (zs : List (Int × Int)) (K : Nat) (w : World) (hK : K ≤ w.heap.size) (hn : n ≤ 1048576) (hs : ItemsOf w ao n zs) :
    Calls Tryz.prog 69 #[.slice ao n c] w fun e w' => ∃ g, e = .returned (.slice (some ⟨g, 0, none⟩) n n) ∧ Lasts w.heap.size w' (fun u => EF u K (some ⟨g, 0, none⟩) n zs) ∧ Below w.heap.size w w' := by
  have hl := hs.1
  exact (toEventS_any ao n c zs w hn hs).mono (by
    rintro e w' ⟨rfl, hr, hb⟩
    exact ⟨_, rfl, fun u h1 h2 => ef_cut hl hK (rowIs_same hr (Nat.le_refl _) h1), hb⟩)

/-- The first k lists of a row that is being made. -/
def MadeFI (w : World) (K L : Nat) (F : Nat → Value) (zss : List (List Int)) (k : Nat) : Prop :=
  ∀ i, i < k → ∃ g, F i = .slice (some ⟨g, 0, none⟩) (zss.getD i []).length (zss.getD i []).length ∧ Lasts L w (fun u => SF u K (some ⟨g, 0, none⟩) (zss.getD i []).length (zss.getD i []))
theorem MadeFI.same {w w' : World} {K L : Nat} {F : Nat → Value} {zss : List (List Int)} {k : Nat} (h : MadeFI w K L F zss k) (hs : Same L w w') (hz : w.heap.size ≤ w'.heap.size) : MadeFI w' K L F zss k := by
  intro i hi
  obtain ⟨g, h1, h2⟩ := h i hi
  exact ⟨g, h1, h2.same hs hz⟩
theorem MadeFI.mono {w : World} {K L L' : Nat} {F : Nat → Value} {zss : List (List Int)} {k : Nat} (h : MadeFI w K L F zss k) (hl : L' ≤ L) : MadeFI w K L' F zss k := by
  intro i hi
  obtain ⟨g, h1, h2⟩ := h i hi
  exact ⟨g, h1, h2.mono hl⟩
theorem madeFI_nest {w : World} {K L g n : Nat} {F : Nat → Value} {zss : List (List Int)} (hl : zss.length = n) (hf : FitsN zss) (hr : w.rowIs g 26 n F) (hm : MadeFI w K L F zss n) : NestI w (some ⟨g, 0, none⟩) n zss := by
  refine ⟨hl, fun _ => ⟨g, 0, rfl, hr.lt, fun i hi => ?_⟩⟩
  obtain ⟨q, h1, h2⟩ := hm i hi
  exact ⟨_, _, _, by rw [← h1]; simpa using hr.cell (i := i) hi, Nat.le_trans (hf.2 i (by omega)) (by omega), h2.now.1⟩
theorem madeFI_tnn {w : World} {K L U g n : Nat} {F : Nat → Value} {zss : List (List Int)} (hl : zss.length = n) (hU : w.heap.size ≤ U) (hr : w.rowIs g 26 n F) (hm : MadeFI w K L F zss n) : TNN w K U 26 3 1 (.slice (some ⟨g, 0, none⟩) n n) (zss.map List.length) := by
  subst hl
  refine ⟨g, F, by rw [List.length_map], by rw [List.length_map]; exact hr, fun i hi => ?_⟩
  rw [List.length_map] at hi
  obtain ⟨q, h1, h2⟩ := hm i hi
  have e : (zss.map List.length).getD i 0 = (zss.getD i []).length := by simp [List.getD_eq_getElem?_getD, hi]
  rw [e, h1]
  exact h2.now.2.tn hU
theorem madeFI_step {w wr : World} {K B n k : Nat} {F : Nat → Value} {zss : List (List Int)} {g : Nat} (hr : wr.rowIs B 26 n F) (hc : MadeFI wr K (B + 1) F zss k) (hb : Below B w wr)
    (hl : Lasts (B + 1) wr (fun u => SF u K (some ⟨g, 0, none⟩) (zss.getD k []).length (zss.getD k []))) :
    ∃ F', (wr.setCell ⟨B, k, none⟩ (.slice (some ⟨g, 0, none⟩) (zss.getD k []).length (zss.getD k []).length)).rowIs B 26 n F' ∧
      MadeFI (wr.setCell ⟨B, k, none⟩ (.slice (some ⟨g, 0, none⟩) (zss.getD k []).length (zss.getD k []).length)) K (B + 1) F' zss (k + 1) ∧
      Below B w (wr.setCell ⟨B, k, none⟩ (.slice (some ⟨g, 0, none⟩) (zss.getD k []).length (zss.getD k []).length)) := by
  have hs : Same (B + 1) wr (wr.setCell ⟨B, k, none⟩ (.slice (some ⟨g, 0, none⟩) (zss.getD k []).length (zss.getD k []).length)) := Same.set _ (Nat.lt_succ_self B) _
  have hc' := hc.same hs (by simp)
  have hl' := hl.same hs (by simp)
  refine ⟨_, hr.set k _, ?_, hb.setCell (Nat.le_refl _) _⟩
  intro i hi
  by_cases e : i = k
  · subst e
    exact ⟨g, by simp, hl'⟩
  · obtain ⟨q, h1, h2⟩ := hc' i (by omega)
    exact ⟨q, by dsimp only; rw [if_neg e]; exact h1, h2⟩

set_option maxHeartbeats 800000 in
theorem toIntSS_f (ao : Option Addr) (n c : Nat) (ss : List (List Int)) (K : Nat) (w : World) (hK : K ≤ w.heap.size) (hf : FitsN ss) (hs : NestI w ao n ss) :
    Calls Tryz.prog 37 #[.slice ao n c] w fun e w' => ∃ g, e = .returned (.slice (some ⟨g, 0, none⟩) n n) ∧ Lasts w.heap.size w' (fun u => NestI u (some ⟨g, 0, none⟩) n ss ∧ ∀ U, u.heap.size ≤ U → TNN u K U 26 3 1 (.slice (some ⟨g, 0, none⟩) n n) (ss.map List.length)) ∧ Below w.heap.size w w' := by
  have HL := hid hs.1
  have FF := hid hf
  have hn : n ≤ 1048576 := by rw [← HL.out]; exact hf.1
  have HF : Hid (∀ i, i < n → (ss.getD i []).length ≤ 1048576) := by have := hf.2; rw [HL.out] at this; exact this
  have hmk := run_make_row' (P := Tryz.prog) 27 26 (.slice none 0 0) 24 Tryz.underlying27 infoSS_int rfl .i64 .i64 n (by omega) (by omega)
  clear hf
  go_enter Tryz.func37, Tryz.ntmps37
  go_wp2
  go_loopw [4] (fun i wr => ∃ k : Nat, k ≤ n ∧ i = .int .i64 k ∧ (∃ F, wr.rowIs w.heap.size 26 n F ∧ MadeFI wr K (w.heap.size + 1) F ss k) ∧ Below w.heap.size w wr) (fun i _ => n - (intOf i).toNat)
  case atStart => exact ⟨0, Nat.zero_le _, rfl, ⟨_, World.rowIs_made w (.slice none 0 0) n 26, fun i h => absurd h (by omega)⟩, (Below.refl _ _).alloc (Nat.le_refl _) _⟩
  case round =>
    obtain ⟨k, hk, rfl, ⟨F, hr, hcp⟩, hb⟩ := hrel
    have HR := hid hr
    have HB := hid hb
    have HP := hid hcp
    have hsz := hr.lt
    clear hcp
    by_cases hlt : k < n
    · obtain ⟨b, off, rfl, hbl, hc⟩ := hs.2 (by omega)
      have hff := HF.out k hlt
      obtain ⟨co, cn, cc, k1, hcn, hit⟩ := hc k hlt
      have k1 := (hb.cell (p := ⟨b, off + k, none⟩) hbl).trans k1
      have hcl := hit.1
      have C := hid (toInt_f co cn cc (ss.getD k []) K wr (Nat.le_trans hK hb.size) (by rw [← hcl]; exact hff) (hit.below hb))
      have CL := hid hcl
      clear hs hc hr hb hit hcn hff hcl
      go_wp2_with (go_at_call 36; refine C.out.mono ?_; rintro e w1 ⟨g, rfl, hi1, hb1⟩; have hr1 := HR.out.of_block (hb1.block _ hsz); have f0 := hr1.frozen k; have g0 := hr1.cell (i := k) hlt; have R1 := hid hr1; have I1 := hid hi1; have B1 := hid hb1; clear hr1 hi1 hb1)
      have cs := madeFI_step (zss := ss) (k := k) (g := g) R1.out (HP.out.same (Same.of_below B1.out) B1.out.size) (HB.out.trans (B1.out.mono (Nat.le_of_lt hsz))) (by rw [CL.out]; exact I1.out.mono hsz)
      rw [CL.out] at cs
      obtain ⟨F', c1, c2, c3⟩ := cs
      go_roundw
      case rel => exact ⟨k + 1, by omega, by go_num, ⟨F', c1, c2⟩, c3⟩
      case measure => simp [intOf]; omega
    · have e : k = n := by omega
      subst e
      clear hs hr hb
      go_wp2
      go_ret
      have hl := HL.out
      refine ⟨_, rfl, fun u h1 h2 => ?_, HB.out⟩
      exact ⟨madeFI_nest (L := w.heap.size) hl FF.out (rowIs_same HR.out (Nat.le_refl _) h1) ((HP.out.mono (by omega)).same h1 h2), fun U hU => madeFI_tnn (L := w.heap.size) hl hU (rowIs_same HR.out (Nat.le_refl _) h1) ((HP.out.mono (by omega)).same h1 h2)⟩

/-- The first k lists of a row that is being made. -/
def MadeFE (w : World) (K L : Nat) (F : Nat → Value) (zss : List (List (Int × Int))) (k : Nat) : Prop :=
  ∀ i, i < k → ∃ g, F i = .slice (some ⟨g, 0, none⟩) (zss.getD i []).length (zss.getD i []).length ∧ Lasts L w (fun u => EF u K (some ⟨g, 0, none⟩) (zss.getD i []).length (zss.getD i []))
theorem MadeFE.same {w w' : World} {K L : Nat} {F : Nat → Value} {zss : List (List (Int × Int))} {k : Nat} (h : MadeFE w K L F zss k) (hs : Same L w w') (hz : w.heap.size ≤ w'.heap.size) : MadeFE w' K L F zss k := by
  intro i hi
  obtain ⟨g, h1, h2⟩ := h i hi
  exact ⟨g, h1, h2.same hs hz⟩
theorem MadeFE.mono {w : World} {K L L' : Nat} {F : Nat → Value} {zss : List (List (Int × Int))} {k : Nat} (h : MadeFE w K L F zss k) (hl : L' ≤ L) : MadeFE w K L' F zss k := by
  intro i hi
  obtain ⟨g, h1, h2⟩ := h i hi
  exact ⟨g, h1, h2.mono hl⟩
theorem madeFE_nest {w : World} {K L g n : Nat} {F : Nat → Value} {zss : List (List (Int × Int))} (hl : zss.length = n) (hf : FitsN zss) (hr : w.rowIs g 138 n F) (hm : MadeFE w K L F zss n) : NestE w (some ⟨g, 0, none⟩) n zss := by
  refine ⟨hl, fun _ => ⟨g, 0, rfl, hr.lt, fun i hi => ?_⟩⟩
  obtain ⟨q, h1, h2⟩ := hm i hi
  exact ⟨_, _, _, by rw [← h1]; simpa using hr.cell (i := i) hi, Nat.le_trans (hf.2 i (by omega)) (by omega), h2.now.1⟩
theorem madeFE_tnn {w : World} {K L U g n : Nat} {F : Nat → Value} {zss : List (List (Int × Int))} (hl : zss.length = n) (hU : w.heap.size ≤ U) (hr : w.rowIs g 138 n F) (hm : MadeFE w K L F zss n) : TNN w K U 138 70 2 (.slice (some ⟨g, 0, none⟩) n n) (zss.map List.length) := by
  subst hl
  refine ⟨g, F, by rw [List.length_map], by rw [List.length_map]; exact hr, fun i hi => ?_⟩
  rw [List.length_map] at hi
  obtain ⟨q, h1, h2⟩ := hm i hi
  have e : (zss.map List.length).getD i 0 = (zss.getD i []).length := by simp [List.getD_eq_getElem?_getD, hi]
  rw [e, h1]
  exact h2.now.2.tn hU
theorem madeFE_step {w wr : World} {K B n k : Nat} {F : Nat → Value} {zss : List (List (Int × Int))} {g : Nat} (hr : wr.rowIs B 138 n F) (hc : MadeFE wr K (B + 1) F zss k) (hb : Below B w wr)
    (hl : Lasts (B + 1) wr (fun u => EF u K (some ⟨g, 0, none⟩) (zss.getD k []).length (zss.getD k []))) :
    ∃ F', (wr.setCell ⟨B, k, none⟩ (.slice (some ⟨g, 0, none⟩) (zss.getD k []).length (zss.getD k []).length)).rowIs B 138 n F' ∧
      MadeFE (wr.setCell ⟨B, k, none⟩ (.slice (some ⟨g, 0, none⟩) (zss.getD k []).length (zss.getD k []).length)) K (B + 1) F' zss (k + 1) ∧
      Below B w (wr.setCell ⟨B, k, none⟩ (.slice (some ⟨g, 0, none⟩) (zss.getD k []).length (zss.getD k []).length)) := by
  have hs : Same (B + 1) wr (wr.setCell ⟨B, k, none⟩ (.slice (some ⟨g, 0, none⟩) (zss.getD k []).length (zss.getD k []).length)) := Same.set _ (Nat.lt_succ_self B) _
  have hc' := hc.same hs (by simp)
  have hl' := hl.same hs (by simp)
  refine ⟨_, hr.set k _, ?_, hb.setCell (Nat.le_refl _) _⟩
  intro i hi
  by_cases e : i = k
  · subst e
    exact ⟨g, by simp, hl'⟩
  · obtain ⟨q, h1, h2⟩ := hc' i (by omega)
    exact ⟨q, by dsimp only; rw [if_neg e]; exact h1, h2⟩

set_option maxHeartbeats 800000 in
theorem toEventSS_f (ao : Option Addr) (n c : Nat) (ss : List (List (Int × Int))) (K : Nat) (w : World) (hK : K ≤ w.heap.size) (hf : FitsN ss) (hs : NestE w ao n ss) :
    Calls Tryz.prog 38 #[.slice ao n c] w fun e w' => ∃ g, e = .returned (.slice (some ⟨g, 0, none⟩) n n) ∧ Lasts w.heap.size w' (fun u => NestE u (some ⟨g, 0, none⟩) n ss ∧ ∀ U, u.heap.size ≤ U → TNN u K U 138 70 2 (.slice (some ⟨g, 0, none⟩) n n) (ss.map List.length)) ∧ Below w.heap.size w w' := by
  have HL := hid hs.1
  have FF := hid hf
  have hn : n ≤ 1048576 := by rw [← HL.out]; exact hf.1
  have HF : Hid (∀ i, i < n → (ss.getD i []).length ≤ 1048576) := by have := hf.2; rw [HL.out] at this; exact this
  have hmk := run_make_row' (P := Tryz.prog) 33 138 (.slice none 0 0) 24 Tryz.underlying33 infoSS_event rfl .i64 .i64 n (by omega) (by omega)
  clear hf
  go_enter Tryz.func38, Tryz.ntmps38
  go_wp2
  go_loopw [4] (fun i wr => ∃ k : Nat, k ≤ n ∧ i = .int .i64 k ∧ (∃ F, wr.rowIs w.heap.size 138 n F ∧ MadeFE wr K (w.heap.size + 1) F ss k) ∧ Below w.heap.size w wr) (fun i _ => n - (intOf i).toNat)
  case atStart => exact ⟨0, Nat.zero_le _, rfl, ⟨_, World.rowIs_made w (.slice none 0 0) n 138, fun i h => absurd h (by omega)⟩, (Below.refl _ _).alloc (Nat.le_refl _) _⟩
  case round =>
    obtain ⟨k, hk, rfl, ⟨F, hr, hcp⟩, hb⟩ := hrel
    have HR := hid hr
    have HB := hid hb
    have HP := hid hcp
    have hsz := hr.lt
    clear hcp
    by_cases hlt : k < n
    · obtain ⟨b, off, rfl, hbl, hc⟩ := hs.2 (by omega)
      have hff := HF.out k hlt
      obtain ⟨co, cn, cc, k1, hcn, hit⟩ := hc k hlt
      have k1 := (hb.cell (p := ⟨b, off + k, none⟩) hbl).trans k1
      have hcl := hit.1
      have C := hid (toEvent_f co cn cc (ss.getD k []) K wr (Nat.le_trans hK hb.size) (by rw [← hcl]; exact hff) (hit.below hb))
      have CL := hid hcl
      clear hs hc hr hb hit hcn hff hcl
      go_wp2_with (go_at_call 69; refine C.out.mono ?_; rintro e w1 ⟨g, rfl, hi1, hb1⟩; have hr1 := HR.out.of_block (hb1.block _ hsz); have f0 := hr1.frozen k; have g0 := hr1.cell (i := k) hlt; have R1 := hid hr1; have I1 := hid hi1; have B1 := hid hb1; clear hr1 hi1 hb1)
      have cs := madeFE_step (zss := ss) (k := k) (g := g) R1.out (HP.out.same (Same.of_below B1.out) B1.out.size) (HB.out.trans (B1.out.mono (Nat.le_of_lt hsz))) (by rw [CL.out]; exact I1.out.mono hsz)
      rw [CL.out] at cs
      obtain ⟨F', c1, c2, c3⟩ := cs
      go_roundw
      case rel => exact ⟨k + 1, by omega, by go_num, ⟨F', c1, c2⟩, c3⟩
      case measure => simp [intOf]; omega
    · have e : k = n := by omega
      subst e
      clear hs hr hb
      go_wp2
      go_ret
      have hl := HL.out
      refine ⟨_, rfl, fun u h1 h2 => ?_, HB.out⟩
      exact ⟨madeFE_nest (L := w.heap.size) hl FF.out (rowIs_same HR.out (Nat.le_refl _) h1) ((HP.out.mono (by omega)).same h1 h2), fun U hU => madeFE_tnn (L := w.heap.size) hl hU (rowIs_same HR.out (Nat.le_refl _) h1) ((HP.out.mono (by omega)).same h1 h2)⟩

theorem ker_f {u : World} {K ln vn qn pn en fn g1 g2 g3 g4 g5 g6 : Nat} {k : KerD} (EL : k.leaf.length = ln ∧ k.left.length = en ∧ k.every.length = fn) (X1 : SF u K (some ⟨g1, 0, none⟩) ln k.leaf) (X2 : NestI u (some ⟨g2, 0, none⟩) vn k.vals ∧ ∀ U, u.heap.size ≤ U → TNN u K U 26 3 1 (.slice (some ⟨g2, 0, none⟩) vn vn) (k.vals.map List.length)) (X3 : NestE u (some ⟨g3, 0, none⟩) qn k.qs ∧ ∀ U, u.heap.size ≤ U → TNN u K U 138 70 2 (.slice (some ⟨g3, 0, none⟩) qn qn) (k.qs.map List.length)) (X4 : NestE u (some ⟨g4, 0, none⟩) pn k.ds ∧ ∀ U, u.heap.size ≤ U → TNN u K U 138 70 2 (.slice (some ⟨g4, 0, none⟩) pn pn) (k.ds.map List.length)) (X5 : SF u K (some ⟨g5, 0, none⟩) en k.left) (X6 : SF u K (some ⟨g6, 0, none⟩) fn k.every) :
    KerOf u ⟨some ⟨g1, 0, none⟩, ln, ln, some ⟨g2, 0, none⟩, vn, vn, some ⟨g3, 0, none⟩, qn, qn, some ⟨g4, 0, none⟩, pn, pn, some ⟨g5, 0, none⟩, en, en, some ⟨g6, 0, none⟩, fn, fn⟩ k ∧ KeT u K u.heap.size ⟨some ⟨g1, 0, none⟩, ln, ln, some ⟨g2, 0, none⟩, vn, vn, some ⟨g3, 0, none⟩, qn, qn, some ⟨g4, 0, none⟩, pn, pn, some ⟨g5, 0, none⟩, en, en, some ⟨g6, 0, none⟩, fn, fn⟩ k := by
  obtain ⟨rfl, rfl, rfl⟩ := EL
  exact ⟨⟨X1.1, X2.1, X3.1, X4.1, X5.1, X6.1⟩, ⟨X1.2.tn (Nat.le_refl _), X2.2 _ (Nat.le_refl _), X3.2 _ (Nat.le_refl _), X4.2 _ (Nat.le_refl _), X5.2.tn (Nat.le_refl _), X6.2.tn (Nat.le_refl _)⟩⟩
set_option maxRecDepth 100000 in
set_option maxHeartbeats 3200000 in
theorem toKernel_f (h : KerS) (k : KerD) (K : Nat) (w : World) (hK : K ≤ w.heap.size) (hf : FitsKer k) (ho : KerOf w h k) :
    Calls Tryz.prog 10 #[kerV h] w fun e w' => ∃ g1 g2 g3 g4 g5 g6, e = .returned (kerV (cpK h g1 g2 g3 g4 g5 g6)) ∧ (KerOf w' (cpK h g1 g2 g3 g4 g5 g6) k ∧ KeT w' K w'.heap.size (cpK h g1 g2 g3 g4 g5 g6) k) ∧ Below w.heap.size w w' := by
  obtain ⟨lo, ln, lc, vo, vn, vc, qo, qn, qc, po, pn, pc, eo, en, ec, fo, fn, fc⟩ := h
  have el : k.leaf.length = ln := ho.hl.1
  have ee : k.left.length = en := ho.he.1
  have ef : k.every.length = fn := ho.hf.1
  have EL := hid (And.intro el (And.intro ee ef))
  clear el ee ef
  have fl : ln ≤ 1048576 := by have := hf.fl; rw [ho.hl.1] at this; exact this
  have fe : en ≤ 1048576 := by have := hf.fe; rw [ho.he.1] at this; exact this
  have ff : fn ≤ 1048576 := by have := hf.ff; rw [ho.hf.1] at this; exact this
  have HS : Hid (∀ w', Below w.heap.size w w' → KerOf w' ⟨lo, ln, lc, vo, vn, vc, qo, qn, qc, po, pn, pc, eo, en, ec, fo, fn, fc⟩ k) := fun w' h => ho.below h
  have C1 := hid (fun W (hh : K ≤ W.heap.size) a => toInt_f lo ln lc k.leaf K W hh fl a)
  have C2 := hid (fun W (hh : K ≤ W.heap.size) a => toIntSS_f vo vn vc k.vals K W hh hf.fv a)
  have C3 := hid (fun W (hh : K ≤ W.heap.size) a => toEventSS_f qo qn qc k.qs K W hh hf.fq a)
  have C4 := hid (fun W (hh : K ≤ W.heap.size) a => toEventSS_f po pn pc k.ds K W hh hf.fp a)
  have C5 := hid (fun W (hh : K ≤ W.heap.size) a => toInt_f eo en ec k.left K W hh fe a)
  have C6 := hid (fun W (hh : K ≤ W.heap.size) a => toInt_f fo fn fc k.every K W hh ff a)
  clear ho hf fl fe ff
  unfold kerV cpK
  dsimp only
  go_enter Tryz.func10, Tryz.ntmps10
  go_wp2_with (first
    | (go_at_call_of 36 (Value.slice lo ln lc); refine (C1.out _ (by simp; omega) (HS.out _ (below3 _ _ _ _)).hl).mono ?_; rintro e w1 ⟨g1, rfl, hl1, hb1⟩; have hz1 := hb1.size; simp only [World.size_alloc] at hz1 hl1; obtain ⟨hc1, hf1⟩ := bcell2 hb1; have L1 := hid hl1; have B1 := hid hb1; have Bw1 := hid ((below3 _ _ _ _).trans (hb1.mono (by simp; omega))); clear hl1 hb1; have hza1 : w.heap.size + 1 + 1 < w1.heap.size := (by omega); have hzb1 : w.heap.size + 1 < w1.heap.size := (by omega); have hzc1 : w.heap.size < w1.heap.size := (by omega))
    | (go_at_call_of 37 (Value.slice vo vn vc); refine (C2.out _ (by simp; omega) (HS.out _ (below_set Bw1.out (by omega))).hv).mono ?_; rintro e w2 ⟨g2, rfl, hl2, hb2⟩; have hz2 := hb2.size; simp only [World.size_setCell] at hz2 hl2; obtain ⟨hc2, hf2⟩ := bcell2 hb2; have L2 := hid hl2; have B2 := hid hb2; have Bw2 := hid ((below_set Bw1.out (by omega)).trans (hb2.mono (by simp; omega))); clear hl2 hb2; have hza2 : w.heap.size + 1 + 1 < w2.heap.size := (by omega); have hzb2 : w.heap.size + 1 < w2.heap.size := (by omega); have hzc2 : w.heap.size < w2.heap.size := (by omega))
    | (go_at_call_of 38 (Value.slice qo qn qc); refine (C3.out _ (by simp; omega) (HS.out _ (below_set Bw2.out (by omega))).hq).mono ?_; rintro e w3 ⟨g3, rfl, hl3, hb3⟩; have hz3 := hb3.size; simp only [World.size_setCell] at hz3 hl3; obtain ⟨hc3, hf3⟩ := bcell2 hb3; have L3 := hid hl3; have B3 := hid hb3; have Bw3 := hid ((below_set Bw2.out (by omega)).trans (hb3.mono (by simp; omega))); clear hl3 hb3; have hza3 : w.heap.size + 1 + 1 < w3.heap.size := (by omega); have hzb3 : w.heap.size + 1 < w3.heap.size := (by omega); have hzc3 : w.heap.size < w3.heap.size := (by omega))
    | (go_at_call_of 38 (Value.slice po pn pc); refine (C4.out _ (by simp; omega) (HS.out _ (below_set Bw3.out (by omega))).hp).mono ?_; rintro e w4 ⟨g4, rfl, hl4, hb4⟩; have hz4 := hb4.size; simp only [World.size_setCell] at hz4 hl4; obtain ⟨hc4, hf4⟩ := bcell2 hb4; have L4 := hid hl4; have B4 := hid hb4; have Bw4 := hid ((below_set Bw3.out (by omega)).trans (hb4.mono (by simp; omega))); clear hl4 hb4; have hza4 : w.heap.size + 1 + 1 < w4.heap.size := (by omega); have hzb4 : w.heap.size + 1 < w4.heap.size := (by omega); have hzc4 : w.heap.size < w4.heap.size := (by omega))
    | (go_at_call_of 36 (Value.slice eo en ec); refine (C5.out _ (by simp; omega) (HS.out _ (below_set Bw4.out (by omega))).he).mono ?_; rintro e w5 ⟨g5, rfl, hl5, hb5⟩; have hz5 := hb5.size; simp only [World.size_setCell] at hz5 hl5; obtain ⟨hc5, hf5⟩ := bcell2 hb5; have L5 := hid hl5; have B5 := hid hb5; have Bw5 := hid ((below_set Bw4.out (by omega)).trans (hb5.mono (by simp; omega))); clear hl5 hb5; have hza5 : w.heap.size + 1 + 1 < w5.heap.size := (by omega); have hzb5 : w.heap.size + 1 < w5.heap.size := (by omega); have hzc5 : w.heap.size < w5.heap.size := (by omega))
    | (go_at_call_of 36 (Value.slice fo fn fc); refine (C6.out _ (by simp; omega) (HS.out _ (below_set Bw5.out (by omega))).hf).mono ?_; rintro e w6 ⟨g6, rfl, hl6, hb6⟩; have hz6 := hb6.size; simp only [World.size_setCell] at hz6 hl6; obtain ⟨hc6, hf6⟩ := bcell2 hb6; have L6 := hid hl6; have B6 := hid hb6; have Bw6 := hid ((below_set Bw5.out (by omega)).trans (hb6.mono (by simp; omega))); clear hl6 hb6; have hza6 : w.heap.size + 1 + 1 < w6.heap.size := (by omega); have hzb6 : w.heap.size + 1 < w6.heap.size := (by omega); have hzc6 : w.heap.size < w6.heap.size := (by omega)))
  refine bodyPost_ret (v := .agg #[.slice (some ⟨g1, 0, none⟩) ln ln, .slice (some ⟨g2, 0, none⟩) vn vn, .slice (some ⟨g3, 0, none⟩) qn qn, .slice (some ⟨g4, 0, none⟩) pn pn, .slice (some ⟨g5, 0, none⟩) en en, .slice (some ⟨g6, 0, none⟩) fn fn]) (by simp [results, Tryz.results10, go_sem, hc1, hc2, hc3, hc4, hc5, hc6, hzb1, hzb2, hzb3, hzb4, hzb5]) rfl ⟨g1, g2, g3, g4, g5, g6, rfl, (fun X1 X2 X3 X4 X5 X6 => ker_f EL.out X1 X2 X3 X4 X5 X6) ?_ ?_ ?_ ?_ ?_ ?_, ?_⟩
  · refine Lasts.now (L := w.heap.size + 1 + 1 + 1) (P := fun u => SF u K (some ⟨g1, 0, none⟩) ln k.leaf) ?_
    repeat refine Lasts.set ?_ (by omega) _
    refine Lasts.below ?_ B6.out
    refine Lasts.set ?_ (by omega) _
    refine Lasts.below ?_ B5.out
    refine Lasts.set ?_ (by omega) _
    refine Lasts.below ?_ B4.out
    refine Lasts.set ?_ (by omega) _
    refine Lasts.below ?_ B3.out
    refine Lasts.set ?_ (by omega) _
    refine Lasts.below ?_ B2.out
    refine Lasts.set ?_ (by omega) _
    exact L1.out
  · refine Lasts.now (L := w1.heap.size) (P := fun u => NestI u (some ⟨g2, 0, none⟩) vn k.vals ∧ ∀ U, u.heap.size ≤ U → TNN u K U 26 3 1 (.slice (some ⟨g2, 0, none⟩) vn vn) (k.vals.map List.length)) ?_
    repeat refine Lasts.set ?_ (by omega) _
    refine Lasts.below ?_ B6.out
    refine Lasts.set ?_ (by omega) _
    refine Lasts.below ?_ B5.out
    refine Lasts.set ?_ (by omega) _
    refine Lasts.below ?_ B4.out
    refine Lasts.set ?_ (by omega) _
    refine Lasts.below ?_ B3.out
    refine Lasts.set ?_ (by omega) _
    exact L2.out
  · refine Lasts.now (L := w2.heap.size) (P := fun u => NestE u (some ⟨g3, 0, none⟩) qn k.qs ∧ ∀ U, u.heap.size ≤ U → TNN u K U 138 70 2 (.slice (some ⟨g3, 0, none⟩) qn qn) (k.qs.map List.length)) ?_
    repeat refine Lasts.set ?_ (by omega) _
    refine Lasts.below ?_ B6.out
    refine Lasts.set ?_ (by omega) _
    refine Lasts.below ?_ B5.out
    refine Lasts.set ?_ (by omega) _
    refine Lasts.below ?_ B4.out
    refine Lasts.set ?_ (by omega) _
    exact L3.out
  · refine Lasts.now (L := w3.heap.size) (P := fun u => NestE u (some ⟨g4, 0, none⟩) pn k.ds ∧ ∀ U, u.heap.size ≤ U → TNN u K U 138 70 2 (.slice (some ⟨g4, 0, none⟩) pn pn) (k.ds.map List.length)) ?_
    repeat refine Lasts.set ?_ (by omega) _
    refine Lasts.below ?_ B6.out
    refine Lasts.set ?_ (by omega) _
    refine Lasts.below ?_ B5.out
    refine Lasts.set ?_ (by omega) _
    exact L4.out
  · refine Lasts.now (L := w4.heap.size) (P := fun u => SF u K (some ⟨g5, 0, none⟩) en k.left) ?_
    repeat refine Lasts.set ?_ (by omega) _
    refine Lasts.below ?_ B6.out
    refine Lasts.set ?_ (by omega) _
    exact L5.out
  · refine Lasts.now (L := w5.heap.size) (P := fun u => SF u K (some ⟨g6, 0, none⟩) fn k.every) ?_
    repeat refine Lasts.set ?_ (by omega) _
    exact L6.out
  · repeat refine below_set ?_ (by omega)
    exact Bw6.out
end Go.Proofs.YthaklmdhkkfigaaGreat
