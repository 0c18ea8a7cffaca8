import Derived.Test.YthaklmdhkkfigaaGreatU2
namespace Go.Proofs.YthaklmdhkkfigaaGreat
open Go.RowKit Go.Sort
set_option linter.unusedVariables false
attribute [local go_sem ↓] Go.wp_at_zero Go.wp_at_succ

/-- A kernel as data. -/
structure KerD where
  leaf : List Int
  vals : List (List Int)
  qs : List (List (Int × Int))
  ds : List (List (Int × Int))
  left : List Int
  every : List Int
/-- Where its lists lie. -/
structure KerS where
  lo : Option Addr
  ln : Nat
  lc : Nat
  vo : Option Addr
  vn : Nat
  vc : Nat
  qo : Option Addr
  qn : Nat
  qc : Nat
  po : Option Addr
  pn : Nat
  pc : Nat
  eo : Option Addr
  en : Nat
  ec : Nat
  fo : Option Addr
  fn : Nat
  fc : Nat
structure KerOf (w : World) (h : KerS) (k : KerD) : Prop where
  hl : SliceOf w h.lo h.ln k.leaf
  hv : NestI w h.vo h.vn k.vals
  hq : NestE w h.qo h.qn k.qs
  hp : NestE w h.po h.pn k.ds
  he : SliceOf w h.eo h.en k.left
  hf : SliceOf w h.fo h.fn k.every
structure KerMax (h : KerS) : Prop where
  ml : h.ln ≤ 9223372036854775807
  mv : h.vn ≤ 9223372036854775807
  mq : h.qn ≤ 9223372036854775807
  mp : h.pn ≤ 9223372036854775807
  me : h.en ≤ 9223372036854775807
  mf : h.fn ≤ 9223372036854775807
theorem KerOf.below {w w' : World} {h : KerS} {x : KerD} (k : KerOf w h x) (hb : Below w.heap.size w w') : KerOf w' h x := ⟨k.hl.below hb, k.hv.below hb, k.hq.below hb, k.hp.below hb, k.he.below hb, k.hf.below hb⟩
def kerV (h : KerS) : Value := .agg #[.slice h.lo h.ln h.lc, .slice h.vo h.vn h.vc, .slice h.qo h.qn h.qc, .slice h.po h.pn h.pc, .slice h.eo h.en h.ec, .slice h.fo h.fn h.fc]
def wKer (k : KerD) : Nat := k.leaf.length + wNest k.vals + wNest k.qs + wNest k.ds + k.left.length + k.every.length
structure FitsKer (k : KerD) : Prop where
  fl : k.leaf.length ≤ 1048576
  fv : FitsN k.vals
  fq : FitsN k.qs
  fp : FitsN k.ds
  fe : k.left.length ≤ 1048576
  ff : k.every.length ≤ 1048576
theorem fitsKer_of {k : KerD} (h : wKer k ≤ 1048576) : FitsKer k := by
  unfold wKer at h
  exact ⟨by omega, fitsN_of (by omega), fitsN_of (by omega), fitsN_of (by omega), by omega, by omega⟩
theorem six_cells {w : World} {H : Nat} {a b c d e f : Value} {t : TypeId} (k : w.heap[H]? = some (.cells #[a, b, c, d, e, f] t (0, 0))) : w.cell? ⟨H, 0, none⟩ = some a ∧ w.cell? ⟨H, 1, none⟩ = some b ∧ w.cell? ⟨H, 2, none⟩ = some c ∧ w.cell? ⟨H, 3, none⟩ = some d ∧ w.cell? ⟨H, 4, none⟩ = some e ∧ w.cell? ⟨H, 5, none⟩ = some f := by
  simp [World.cell?, k]

set_option maxRecDepth 100000 in
set_option maxHeartbeats 1600000 in
theorem szKernel_any (h : KerS) (k : KerD) (left : Int) (w : World) (hm : KerMax h) (h0 : 0 ≤ left) (h1 : left ≤ 1048576) (ho : KerOf w h k) :
    Calls Tryz.prog 7 #[kerV h, .int .i64 left] w fun e w' => e = .returned (.int .i64 (szOut left (wKer k))) ∧ Below w.heap.size w w' := by
  obtain ⟨lo, ln, lc, vo, vn, vc, qo, qn, qc, po, pn, pc, eo, en, ec, fo, fn, fc⟩ := h
  obtain ⟨ml, mv, mq, mp, me, mf⟩ := hm
  have B := below1 w (.cells #[.slice lo ln lc, .slice vo vn vc, .slice qo qn qc, .slice po pn pc, .slice eo en ec, .slice fo fn fc] 30)
  have el : k.leaf.length = ln := ho.hl.1
  have ee : k.left.length = en := ho.he.1
  have ef : k.every.length = fn := ho.hf.1
  obtain ⟨a2, h2⟩ : ∃ a, a = wNest k.vals := ⟨_, rfl⟩
  obtain ⟨a3, h3⟩ : ∃ a, a = wNest k.qs := ⟨_, rfl⟩
  obtain ⟨a4, h4⟩ : ∃ a, a = wNest k.ds := ⟨_, rfl⟩
  have EW : wKer k = ln + a2 + a3 + a4 + en + fn := by unfold wKer; rw [el, ee, ef, h2, h3, h4]
  rw [EW]
  have hv := ho.hv.below B
  have hq := ho.hq.below B
  have hp := ho.hp.below B
  have C1 := hid (fun w => szIntS_any lo ln lc left w ml h0 h1)
  have C2 := hid (fun l a b => szIntSS_any vo vn vc k.vals l _ mv a b hv)
  have C3 := hid (fun l a b => szEventSS_any qo qn qc k.qs l _ mq a b hq)
  have C4 := hid (fun l a b => szEventSS_any po pn pc k.ds l _ mp a b hp)
  have C5 := hid (fun w l a b => szIntS_any eo en ec l w me a b)
  have C6 := hid (fun w l a b => szIntS_any fo fn fc l w mf a b)
  rw [← h2] at C2
  rw [← h3] at C3
  rw [← h4] at C4
  have BB := hid B
  unfold kerV
  dsimp only
  clear ho el ee ef EW hv hq hp h2 h3 h4 B ml mv mq mp me mf
  have D1 := C1
  by_cases b1 : left < (ln : Int)
  · have E : Hid (szOut left (ln + a2 + a3 + a4 + en + fn) = -1) := hid (szOut_no (by omega))
    rw [if_pos b1] at D1
    rw [E.out]
    clear b1  C1 C2 C3 C4 C5 C6
    go_enter Tryz.func7, Tryz.ntmps7
    go_wp2_with (first | (go_at_call_of 26 (Value.slice lo ln lc); refine (D1.out _).mono ?_; rintro e wa ⟨rfl, hw⟩; obtain rfl := hw.symm))
    go_ret
    exact ⟨rfl, BB.out⟩
  obtain ⟨l1, hl1⟩ : ∃ l : Int, l = left - (ln : Int) := ⟨_, rfl⟩
  rw [if_neg b1, ← hl1] at D1
  have n1 : ¬ l1 < 0 := by omega
  have D2 := hid (C2.out l1 (by omega) (by omega))
  by_cases b2 : l1 < (a2 : Int)
  · have E : Hid (szOut left (ln + a2 + a3 + a4 + en + fn) = -1) := hid (szOut_no (by omega))
    rw [szOut_no b2] at D2
    rw [E.out]
    clear b1 b2 hl1 C1 C2 C3 C4 C5 C6
    go_enter Tryz.func7, Tryz.ntmps7
    go_wp2_with (first | (go_at_call_of 26 (Value.slice lo ln lc); refine (D1.out _).mono ?_; rintro e wa ⟨rfl, hw⟩; obtain rfl := hw.symm) | (go_at_call_of 27 (Value.slice vo vn vc); refine (D2.out).mono ?_; rintro e wa ⟨rfl, hw⟩; obtain rfl := hw.symm))
    go_ret
    exact ⟨rfl, BB.out⟩
  obtain ⟨l2, hl2⟩ : ∃ l : Int, l = l1 - (a2 : Int) := ⟨_, rfl⟩
  rw [szOut_yes b2, ← hl2] at D2
  have n2 : ¬ l2 < 0 := by omega
  have D3 := hid (C3.out l2 (by omega) (by omega))
  by_cases b3 : l2 < (a3 : Int)
  · have E : Hid (szOut left (ln + a2 + a3 + a4 + en + fn) = -1) := hid (szOut_no (by omega))
    rw [szOut_no b3] at D3
    rw [E.out]
    clear b1 b2 b3 hl1 hl2 C1 C2 C3 C4 C5 C6
    go_enter Tryz.func7, Tryz.ntmps7
    go_wp2_with (first | (go_at_call_of 26 (Value.slice lo ln lc); refine (D1.out _).mono ?_; rintro e wa ⟨rfl, hw⟩; obtain rfl := hw.symm) | (go_at_call_of 27 (Value.slice vo vn vc); refine (D2.out).mono ?_; rintro e wa ⟨rfl, hw⟩; obtain rfl := hw.symm) | (go_at_call_of 28 (Value.slice qo qn qc); refine (D3.out).mono ?_; rintro e wa ⟨rfl, hw⟩; obtain rfl := hw.symm))
    go_ret
    exact ⟨rfl, BB.out⟩
  obtain ⟨l3, hl3⟩ : ∃ l : Int, l = l2 - (a3 : Int) := ⟨_, rfl⟩
  rw [szOut_yes b3, ← hl3] at D3
  have n3 : ¬ l3 < 0 := by omega
  have D4 := hid (C4.out l3 (by omega) (by omega))
  by_cases b4 : l3 < (a4 : Int)
  · have E : Hid (szOut left (ln + a2 + a3 + a4 + en + fn) = -1) := hid (szOut_no (by omega))
    rw [szOut_no b4] at D4
    rw [E.out]
    clear b1 b2 b3 b4 hl1 hl2 hl3 C1 C2 C3 C4 C5 C6
    go_enter Tryz.func7, Tryz.ntmps7
    go_wp2_with (first | (go_at_call_of 26 (Value.slice lo ln lc); refine (D1.out _).mono ?_; rintro e wa ⟨rfl, hw⟩; obtain rfl := hw.symm) | (go_at_call_of 27 (Value.slice vo vn vc); refine (D2.out).mono ?_; rintro e wa ⟨rfl, hw⟩; obtain rfl := hw.symm) | (go_at_call_of 28 (Value.slice qo qn qc); refine (D3.out).mono ?_; rintro e wa ⟨rfl, hw⟩; obtain rfl := hw.symm) | (go_at_call_of 28 (Value.slice po pn pc); refine (D4.out).mono ?_; rintro e wa ⟨rfl, hw⟩; obtain rfl := hw.symm))
    go_ret
    exact ⟨rfl, BB.out⟩
  obtain ⟨l4, hl4⟩ : ∃ l : Int, l = l3 - (a4 : Int) := ⟨_, rfl⟩
  rw [szOut_yes b4, ← hl4] at D4
  have n4 : ¬ l4 < 0 := by omega
  have D5 := hid (fun w => C5.out w l4 (by omega) (by omega))
  by_cases b5 : l4 < (en : Int)
  · have E : Hid (szOut left (ln + a2 + a3 + a4 + en + fn) = -1) := hid (szOut_no (by omega))
    rw [if_pos b5] at D5
    rw [E.out]
    clear b1 b2 b3 b4 b5 hl1 hl2 hl3 hl4 C1 C2 C3 C4 C5 C6
    go_enter Tryz.func7, Tryz.ntmps7
    go_wp2_with (first | (go_at_call_of 26 (Value.slice lo ln lc); refine (D1.out _).mono ?_; rintro e wa ⟨rfl, hw⟩; obtain rfl := hw.symm) | (go_at_call_of 27 (Value.slice vo vn vc); refine (D2.out).mono ?_; rintro e wa ⟨rfl, hw⟩; obtain rfl := hw.symm) | (go_at_call_of 28 (Value.slice qo qn qc); refine (D3.out).mono ?_; rintro e wa ⟨rfl, hw⟩; obtain rfl := hw.symm) | (go_at_call_of 28 (Value.slice po pn pc); refine (D4.out).mono ?_; rintro e wa ⟨rfl, hw⟩; obtain rfl := hw.symm) | (go_at_call_of 26 (Value.slice eo en ec); refine (D5.out _).mono ?_; rintro e wa ⟨rfl, hw⟩; obtain rfl := hw.symm))
    go_ret
    exact ⟨rfl, BB.out⟩
  obtain ⟨l5, hl5⟩ : ∃ l : Int, l = l4 - (en : Int) := ⟨_, rfl⟩
  rw [if_neg b5, ← hl5] at D5
  have n5 : ¬ l5 < 0 := by omega
  have D6 := hid (fun w => C6.out w l5 (by omega) (by omega))
  by_cases b6 : l5 < (fn : Int)
  · have E : Hid (szOut left (ln + a2 + a3 + a4 + en + fn) = -1) := hid (szOut_no (by omega))
    rw [if_pos b6] at D6
    rw [E.out]
    clear b1 b2 b3 b4 b5 b6 hl1 hl2 hl3 hl4 hl5 C1 C2 C3 C4 C5 C6
    go_enter Tryz.func7, Tryz.ntmps7
    go_wp2_with (first | (go_at_call_of 26 (Value.slice lo ln lc); refine (D1.out _).mono ?_; rintro e wa ⟨rfl, hw⟩; obtain rfl := hw.symm) | (go_at_call_of 27 (Value.slice vo vn vc); refine (D2.out).mono ?_; rintro e wa ⟨rfl, hw⟩; obtain rfl := hw.symm) | (go_at_call_of 28 (Value.slice qo qn qc); refine (D3.out).mono ?_; rintro e wa ⟨rfl, hw⟩; obtain rfl := hw.symm) | (go_at_call_of 28 (Value.slice po pn pc); refine (D4.out).mono ?_; rintro e wa ⟨rfl, hw⟩; obtain rfl := hw.symm) | (go_at_call_of 26 (Value.slice eo en ec); refine (D5.out _).mono ?_; rintro e wa ⟨rfl, hw⟩; obtain rfl := hw.symm) | (go_at_call_of 26 (Value.slice fo fn fc); refine (D6.out _).mono ?_; rintro e wa ⟨rfl, hw⟩; obtain rfl := hw.symm))
    go_ret
    exact ⟨rfl, BB.out⟩
  rw [if_neg b6] at D6
  have E : Hid (szOut left (ln + a2 + a3 + a4 + en + fn) = l5 - fn) := hid (by rw [szOut_yes (by omega)]; omega)
  have n6 : ¬ l5 - (fn : Int) < 0 := by omega
  rw [E.out]
  clear b1 b2 b3 b4 b5 b6 hl1 hl2 hl3 hl4 hl5 C1 C2 C3 C4 C5 C6
  go_enter Tryz.func7, Tryz.ntmps7
  go_wp2_with (first | (go_at_call_of 26 (Value.slice lo ln lc); refine (D1.out _).mono ?_; rintro e wa ⟨rfl, hw⟩; obtain rfl := hw.symm) | (go_at_call_of 27 (Value.slice vo vn vc); refine (D2.out).mono ?_; rintro e wa ⟨rfl, hw⟩; obtain rfl := hw.symm) | (go_at_call_of 28 (Value.slice qo qn qc); refine (D3.out).mono ?_; rintro e wa ⟨rfl, hw⟩; obtain rfl := hw.symm) | (go_at_call_of 28 (Value.slice po pn pc); refine (D4.out).mono ?_; rintro e wa ⟨rfl, hw⟩; obtain rfl := hw.symm) | (go_at_call_of 26 (Value.slice eo en ec); refine (D5.out _).mono ?_; rintro e wa ⟨rfl, hw⟩; obtain rfl := hw.symm) | (go_at_call_of 26 (Value.slice fo fn fc); refine (D6.out _).mono ?_; rintro e wa ⟨rfl, hw⟩; obtain rfl := hw.symm))
  go_ret
  exact ⟨rfl, BB.out⟩

/-- A copy's shape. -/
def cpK (h : KerS) (g1 g2 g3 g4 g5 g6 : Nat) : KerS := ⟨some ⟨g1, 0, none⟩, h.ln, h.ln, some ⟨g2, 0, none⟩, h.vn, h.vn, some ⟨g3, 0, none⟩, h.qn, h.qn, some ⟨g4, 0, none⟩, h.pn, h.pn, some ⟨g5, 0, none⟩, h.en, h.en, some ⟨g6, 0, none⟩, h.fn, h.fn⟩

set_option maxRecDepth 100000 in
set_option maxHeartbeats 3200000 in
theorem toKernel_any (h : KerS) (k : KerD) (w : World) (hf : FitsKer k) (ho : KerOf w h k) :
    Calls Tryz.prog 10 #[kerV h] w fun e w' => ∃ g1 g2 g3 g4 g5 g6, e = .returned (kerV (cpK h g1 g2 g3 g4 g5 g6)) ∧ KerOf w' (cpK h g1 g2 g3 g4 g5 g6) k ∧ Below w.heap.size w w' := by
  obtain ⟨lo, ln, lc, vo, vn, vc, qo, qn, qc, po, pn, pc, eo, en, ec, fo, fn, fc⟩ := h
  have fl : ln ≤ 1048576 := by have := hf.fl; rw [ho.hl.1] at this; exact this
  have fe : en ≤ 1048576 := by have := hf.fe; rw [ho.he.1] at this; exact this
  have ff : fn ≤ 1048576 := by have := hf.ff; rw [ho.hf.1] at this; exact this
  have HS : Hid (∀ w', Below w.heap.size w w' → KerOf w' ⟨lo, ln, lc, vo, vn, vc, qo, qn, qc, po, pn, pc, eo, en, ec, fo, fn, fc⟩ k) := fun w' h => ho.below h
  have C1 := hid (fun w a => toInt_rows lo ln lc k.leaf w fl a)
  have C2 := hid (fun w a => toIntSS_any vo vn vc k.vals w hf.fv a)
  have C3 := hid (fun w a => toEventSS_any qo qn qc k.qs w hf.fq a)
  have C4 := hid (fun w a => toEventSS_any po pn pc k.ds w hf.fp a)
  have C5 := hid (fun w a => toInt_rows eo en ec k.left w fe a)
  have C6 := hid (fun w a => toInt_rows fo fn fc k.every w ff a)
  clear ho hf fl fe ff
  unfold kerV cpK
  dsimp only
  go_enter Tryz.func10, Tryz.ntmps10
  go_wp2_with (first
    | (go_at_call_of 36 (Value.slice lo ln lc); refine (C1.out _ (HS.out _ (below3 _ _ _ _)).hl).mono ?_; rintro e w1 ⟨g1, rfl, hl1, hb1⟩; have hz1 := hb1.size; simp only [World.size_alloc] at hz1 hl1; obtain ⟨hc1, hf1⟩ := bcell2 hb1; have L1 := hid hl1; have B1 := hid hb1; have Bw1 := hid ((below3 _ _ _ _).trans (hb1.mono (by simp; omega))); clear hl1 hb1; have hza1 : w.heap.size + 1 + 1 < w1.heap.size := (by omega); have hzb1 : w.heap.size + 1 < w1.heap.size := (by omega); have hzc1 : w.heap.size < w1.heap.size := (by omega))
    | (go_at_call_of 37 (Value.slice vo vn vc); refine (C2.out _ (HS.out _ (below_set Bw1.out (by omega))).hv).mono ?_; rintro e w2 ⟨g2, rfl, hl2, hb2⟩; have hz2 := hb2.size; simp only [World.size_setCell] at hz2 hl2; obtain ⟨hc2, hf2⟩ := bcell2 hb2; have L2 := hid hl2; have B2 := hid hb2; have Bw2 := hid ((below_set Bw1.out (by omega)).trans (hb2.mono (by simp; omega))); clear hl2 hb2; have hza2 : w.heap.size + 1 + 1 < w2.heap.size := (by omega); have hzb2 : w.heap.size + 1 < w2.heap.size := (by omega); have hzc2 : w.heap.size < w2.heap.size := (by omega))
    | (go_at_call_of 38 (Value.slice qo qn qc); refine (C3.out _ (HS.out _ (below_set Bw2.out (by omega))).hq).mono ?_; rintro e w3 ⟨g3, rfl, hl3, hb3⟩; have hz3 := hb3.size; simp only [World.size_setCell] at hz3 hl3; obtain ⟨hc3, hf3⟩ := bcell2 hb3; have L3 := hid hl3; have B3 := hid hb3; have Bw3 := hid ((below_set Bw2.out (by omega)).trans (hb3.mono (by simp; omega))); clear hl3 hb3; have hza3 : w.heap.size + 1 + 1 < w3.heap.size := (by omega); have hzb3 : w.heap.size + 1 < w3.heap.size := (by omega); have hzc3 : w.heap.size < w3.heap.size := (by omega))
    | (go_at_call_of 38 (Value.slice po pn pc); refine (C4.out _ (HS.out _ (below_set Bw3.out (by omega))).hp).mono ?_; rintro e w4 ⟨g4, rfl, hl4, hb4⟩; have hz4 := hb4.size; simp only [World.size_setCell] at hz4 hl4; obtain ⟨hc4, hf4⟩ := bcell2 hb4; have L4 := hid hl4; have B4 := hid hb4; have Bw4 := hid ((below_set Bw3.out (by omega)).trans (hb4.mono (by simp; omega))); clear hl4 hb4; have hza4 : w.heap.size + 1 + 1 < w4.heap.size := (by omega); have hzb4 : w.heap.size + 1 < w4.heap.size := (by omega); have hzc4 : w.heap.size < w4.heap.size := (by omega))
    | (go_at_call_of 36 (Value.slice eo en ec); refine (C5.out _ (HS.out _ (below_set Bw4.out (by omega))).he).mono ?_; rintro e w5 ⟨g5, rfl, hl5, hb5⟩; have hz5 := hb5.size; simp only [World.size_setCell] at hz5 hl5; obtain ⟨hc5, hf5⟩ := bcell2 hb5; have L5 := hid hl5; have B5 := hid hb5; have Bw5 := hid ((below_set Bw4.out (by omega)).trans (hb5.mono (by simp; omega))); clear hl5 hb5; have hza5 : w.heap.size + 1 + 1 < w5.heap.size := (by omega); have hzb5 : w.heap.size + 1 < w5.heap.size := (by omega); have hzc5 : w.heap.size < w5.heap.size := (by omega))
    | (go_at_call_of 36 (Value.slice fo fn fc); refine (C6.out _ (HS.out _ (below_set Bw5.out (by omega))).hf).mono ?_; rintro e w6 ⟨g6, rfl, hl6, hb6⟩; have hz6 := hb6.size; simp only [World.size_setCell] at hz6 hl6; obtain ⟨hc6, hf6⟩ := bcell2 hb6; have L6 := hid hl6; have B6 := hid hb6; have Bw6 := hid ((below_set Bw5.out (by omega)).trans (hb6.mono (by simp; omega))); clear hl6 hb6; have hza6 : w.heap.size + 1 + 1 < w6.heap.size := (by omega); have hzb6 : w.heap.size + 1 < w6.heap.size := (by omega); have hzc6 : w.heap.size < w6.heap.size := (by omega)))
  refine bodyPost_ret (v := .agg #[.slice (some ⟨g1, 0, none⟩) ln ln, .slice (some ⟨g2, 0, none⟩) vn vn, .slice (some ⟨g3, 0, none⟩) qn qn, .slice (some ⟨g4, 0, none⟩) pn pn, .slice (some ⟨g5, 0, none⟩) en en, .slice (some ⟨g6, 0, none⟩) fn fn]) (by simp [results, Tryz.results10, go_sem, hc1, hc2, hc3, hc4, hc5, hc6, hzb1, hzb2, hzb3, hzb4, hzb5]) rfl ⟨g1, g2, g3, g4, g5, g6, rfl, ⟨?_, ?_, ?_, ?_, ?_, ?_⟩, ?_⟩
  · refine Lasts.now (L := w.heap.size + 1 + 1 + 1) (P := fun u => SliceOf u (some ⟨g1, 0, none⟩) ln k.leaf) ?_
    repeat refine Lasts.set ?_ (by omega) _
    refine Lasts.below ?_ B6.out
    refine Lasts.set ?_ (by omega) _
    refine Lasts.below ?_ B5.out
    refine Lasts.set ?_ (by omega) _
    refine Lasts.below ?_ B4.out
    refine Lasts.set ?_ (by omega) _
    refine Lasts.below ?_ B3.out
    refine Lasts.set ?_ (by omega) _
    refine Lasts.below ?_ B2.out
    refine Lasts.set ?_ (by omega) _
    exact L1.out
  · refine Lasts.now (L := w1.heap.size) (P := fun u => NestI u (some ⟨g2, 0, none⟩) vn k.vals) ?_
    repeat refine Lasts.set ?_ (by omega) _
    refine Lasts.below ?_ B6.out
    refine Lasts.set ?_ (by omega) _
    refine Lasts.below ?_ B5.out
    refine Lasts.set ?_ (by omega) _
    refine Lasts.below ?_ B4.out
    refine Lasts.set ?_ (by omega) _
    refine Lasts.below ?_ B3.out
    refine Lasts.set ?_ (by omega) _
    exact L2.out
  · refine Lasts.now (L := w2.heap.size) (P := fun u => NestE u (some ⟨g3, 0, none⟩) qn k.qs) ?_
    repeat refine Lasts.set ?_ (by omega) _
    refine Lasts.below ?_ B6.out
    refine Lasts.set ?_ (by omega) _
    refine Lasts.below ?_ B5.out
    refine Lasts.set ?_ (by omega) _
    refine Lasts.below ?_ B4.out
    refine Lasts.set ?_ (by omega) _
    exact L3.out
  · refine Lasts.now (L := w3.heap.size) (P := fun u => NestE u (some ⟨g4, 0, none⟩) pn k.ds) ?_
    repeat refine Lasts.set ?_ (by omega) _
    refine Lasts.below ?_ B6.out
    refine Lasts.set ?_ (by omega) _
    refine Lasts.below ?_ B5.out
    refine Lasts.set ?_ (by omega) _
    exact L4.out
  · refine Lasts.now (L := w4.heap.size) (P := fun u => SliceOf u (some ⟨g5, 0, none⟩) en k.left) ?_
    repeat refine Lasts.set ?_ (by omega) _
    refine Lasts.below ?_ B6.out
    refine Lasts.set ?_ (by omega) _
    exact L5.out
  · refine Lasts.now (L := w5.heap.size) (P := fun u => SliceOf u (some ⟨g6, 0, none⟩) fn k.every) ?_
    repeat refine Lasts.set ?_ (by omega) _
    exact L6.out
  · repeat refine below_set ?_ (by omega)
    exact Bw6.out

set_option maxRecDepth 100000 in
set_option maxHeartbeats 3200000 in
theorem eqKernel_same (h h' : KerS) (k : KerD) (w : World) (hf : FitsKer k) (ho : KerOf w h k) (ho' : KerOf w h' k) :
    Calls Tryz.prog 12 #[kerV h, kerV h'] w fun e w' => e = .returned (.bool true) ∧ Below w.heap.size w w' := by
  obtain ⟨lo, ln, lc, vo, vn, vc, qo, qn, qc, po, pn, pc, eo, en, ec, fo, fn, fc⟩ := h
  obtain ⟨lo', ln', lc', vo', vn', vc', qo', qn', qc', po', pn', pc', eo', en', ec', fo', fn', fc'⟩ := h'
  obtain rfl : ln = ln' := ho.hl.1.symm.trans ho'.hl.1
  obtain rfl : vn = vn' := ho.hv.1.symm.trans ho'.hv.1
  obtain rfl : qn = qn' := ho.hq.1.symm.trans ho'.hq.1
  obtain rfl : pn = pn' := ho.hp.1.symm.trans ho'.hp.1
  obtain rfl : en = en' := ho.he.1.symm.trans ho'.he.1
  obtain rfl : fn = fn' := ho.hf.1.symm.trans ho'.hf.1
  have fl : ln ≤ 1048576 := by have := hf.fl; rw [ho.hl.1] at this; exact this
  have fe : en ≤ 1048576 := by have := hf.fe; rw [ho.he.1] at this; exact this
  have ff : fn ≤ 1048576 := by have := hf.ff; rw [ho.hf.1] at this; exact this
  have HS : Hid (∀ w', Below w.heap.size w w' → KerOf w' ⟨lo, ln, lc, vo, vn, vc, qo, qn, qc, po, pn, pc, eo, en, ec, fo, fn, fc⟩ k ∧ KerOf w' ⟨lo', ln, lc', vo', vn, vc', qo', qn, qc', po', pn, pc', eo', en, ec', fo', fn, fc'⟩ k) := fun w' h => ⟨ho.below h, ho'.below h⟩
  have C1 := hid (fun w a b => eqIntS_same lo lo' ln lc lc' k.leaf w fl a b)
  have C2 := hid (fun w a b => eqIntSS_same vo vo' vn vc vc' k.vals w hf.fv a b)
  have C3 := hid (fun w a b => eqEventSS_same qo qo' qn qc qc' k.qs w hf.fq a b)
  have C4 := hid (fun w a b => eqEventSS_same po po' pn pc pc' k.ds w hf.fp a b)
  have C5 := hid (fun w a b => eqIntS_same eo eo' en ec ec' k.left w fe a b)
  have C6 := hid (fun w a b => eqIntS_same fo fo' fn fc fc' k.every w ff a b)
  clear ho ho' hf fl fe ff
  unfold kerV
  dsimp only
  go_enter Tryz.func12, Tryz.ntmps12
  go_wp2_with (first
    | (go_at_call_of 43 (Value.slice lo ln lc); refine (C1.out _ (HS.out _ (below2 _ _ _)).1.hl (HS.out _ (below2 _ _ _)).2.hl).mono ?_; rintro e w1 ⟨rfl, hb1⟩; have B1 := hid ((below2 _ _ _).trans (hb1.mono (by simp; omega))); have Q1 := hid (block_below (block_below (heap_alloc_new w _) (below1 _ _)) hb1); have hp := block_below (heap_alloc_new (w.alloc _) _) hb1; simp only [World.size_alloc] at hp; have P1 := hid hp; clear hp; obtain ⟨q10, q11, q12, q13, q14, q15⟩ := six_cells Q1.out; obtain ⟨p10, p11, p12, p13, p14, p15⟩ := six_cells P1.out; clear hb1)
    | (go_at_call_of 44 (Value.slice vo vn vc); refine (C2.out _ (HS.out _ (B1.out)).1.hv (HS.out _ (B1.out)).2.hv).mono ?_; rintro e w2 ⟨rfl, hb2⟩; have B2 := hid (B1.out.trans (hb2.mono B1.out.size)); have Q2 := hid (block_below Q1.out hb2); have P2 := hid (block_below P1.out hb2); obtain ⟨q20, q21, q22, q23, q24, q25⟩ := six_cells Q2.out; obtain ⟨p20, p21, p22, p23, p24, p25⟩ := six_cells P2.out; clear hb2)
    | (go_at_call_of 45 (Value.slice qo qn qc); refine (C3.out _ (HS.out _ (B2.out)).1.hq (HS.out _ (B2.out)).2.hq).mono ?_; rintro e w3 ⟨rfl, hb3⟩; have B3 := hid (B2.out.trans (hb3.mono B2.out.size)); have Q3 := hid (block_below Q2.out hb3); have P3 := hid (block_below P2.out hb3); obtain ⟨q30, q31, q32, q33, q34, q35⟩ := six_cells Q3.out; obtain ⟨p30, p31, p32, p33, p34, p35⟩ := six_cells P3.out; clear hb3)
    | (go_at_call_of 45 (Value.slice po pn pc); refine (C4.out _ (HS.out _ (B3.out)).1.hp (HS.out _ (B3.out)).2.hp).mono ?_; rintro e w4 ⟨rfl, hb4⟩; have B4 := hid (B3.out.trans (hb4.mono B3.out.size)); have Q4 := hid (block_below Q3.out hb4); have P4 := hid (block_below P3.out hb4); obtain ⟨q40, q41, q42, q43, q44, q45⟩ := six_cells Q4.out; obtain ⟨p40, p41, p42, p43, p44, p45⟩ := six_cells P4.out; clear hb4)
    | (go_at_call_of 43 (Value.slice eo en ec); refine (C5.out _ (HS.out _ (B4.out)).1.he (HS.out _ (B4.out)).2.he).mono ?_; rintro e w5 ⟨rfl, hb5⟩; have B5 := hid (B4.out.trans (hb5.mono B4.out.size)); have Q5 := hid (block_below Q4.out hb5); have P5 := hid (block_below P4.out hb5); obtain ⟨q50, q51, q52, q53, q54, q55⟩ := six_cells Q5.out; obtain ⟨p50, p51, p52, p53, p54, p55⟩ := six_cells P5.out; clear hb5)
    | (go_at_call_of 43 (Value.slice fo fn fc); refine (C6.out _ (HS.out _ (B5.out)).1.hf (HS.out _ (B5.out)).2.hf).mono ?_; rintro e w6 ⟨rfl, hb6⟩; have B6 := hid (B5.out.trans (hb6.mono B5.out.size)); have Q6 := hid (block_below Q5.out hb6); have P6 := hid (block_below P5.out hb6); clear hb6))
  go_ret
  exact ⟨rfl, B6.out⟩
end Go.Proofs.YthaklmdhkkfigaaGreat
