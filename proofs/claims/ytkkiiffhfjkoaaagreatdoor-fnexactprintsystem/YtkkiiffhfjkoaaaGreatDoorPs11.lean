import Derived.Test.YtkkiiffhfjkoaaaGreatDoorPs10
namespace Go.Proofs.YtkkiiffhfjkoaaaGreatDoor
open Go.RowKit Go.Sort
set_option linter.unusedVariables false
attribute [local go_sem ↓] Go.wp_at_zero Go.wp_at_succ

theorem PenP.flag {B P : Nat} {p : Value} {l : List UInt8} {i : Bool} {w : World} (h : PenP w B P p l i) (j : Bool) : PenP (w.setCell ⟨P, 2, none⟩ (.bool j)) B P p l j := by
  obtain ⟨hB, v, hb, ho, hn⟩ := h
  exact ⟨hB, v, by rw [heap_setCell_same w P 2 _ _ _ hb]; simp, ownsRow_at ho (fun b _ hb2 => Below.heap_setCell _ _ _ _ (fun e => hn (by rw [hb2, e]))), hn⟩
theorem PenAt.flag {B P : Nat} {l : List UInt8} {i : Bool} {w : World} (h : PenAt w B P l i) (j : Bool) : PenAt (w.setCell ⟨P, 2, none⟩ (.bool j)) B P l j := by
  rcases h with h | h
  · exact .inl (h.flag j)
  · exact .inr (h.flag j)
theorem PenAt.box {B P : Nat} {l : List UInt8} {i : Bool} {w : World} (h : PenAt w B P l i) : B ≤ P ∧ P < w.heap.size ∧ w.cell? ⟨P, 2, none⟩ = some (.bool i) ∧ w.frozen? ⟨P, 2, none⟩ = false := by
  rcases h with ⟨hB, v, hb, _⟩ | ⟨hB, v, hb, _⟩
  · exact ⟨hB, lt_of_block hb, by simp [World.cell?, hb], by simp [World.frozen?, hb]⟩
  · exact ⟨hB, lt_of_block hb, by simp [World.cell?, hb], by simp [World.frozen?, hb]⟩
theorem PenP.below {B P : Nat} {p : Value} {l : List UInt8} {i : Bool} {w w' : World} (h : PenP w B P p l i) (hb : Below w.heap.size w w') : PenP w' B P p l i := by
  obtain ⟨hB, v, hbk, ho, hn⟩ := h
  exact ⟨hB, v, block_below hbk hb, ownsRow_at ho (fun b hl _ => hb.block b hl), hn⟩
theorem PenAt.below {B P : Nat} {l : List UInt8} {i : Bool} {w w' : World} (h : PenAt w B P l i) (hb : Below w.heap.size w w') : PenAt w' B P l i := by
  rcases h with h | h
  · exact .inl (h.below hb)
  · exact .inr (h.below hb)
def gap (i : Bool) : List UInt8 := if i then [32] else []

set_option maxHeartbeats 2000000 in
theorem word_pen (B P : Nat) (l x : List UInt8) (i : Bool) (w : World) (h : PenAt w B P l i) (hlen : l.length + x.length ≤ 100000000000000) (hBw : B ≤ w.heap.size) :
    Calls Tryz.prog 50 #[.pointer (some ⟨P, 0, none⟩), .string ⟨x.toArray⟩] w fun e w' => e = .returned (.tuple #[]) ∧ PenAt w' B P (l ++ gap i ++ x) true ∧ Wr B P w w' := by
  obtain ⟨hBP, hPl, c2, f2⟩ := h.box
  have C1 := hid (writeByte_pen B P l i 32 w h (by omega) hBw)
  have C2 := hid (fun (w1 : World) (l1 : List UInt8) (h1 : PenAt w1 B P l1 i) (hl1 : l1.length ≤ l.length + 1) (hb1 : B ≤ w1.heap.size) => writeString_pen B P l1 x i w1 h1 (by omega) hb1)
  have H := hid h
  have HB := hid hBw
  obtain ⟨s, hs⟩ : ∃ s : ByteArray, s = ⟨x.toArray⟩ := ⟨_, rfl⟩
  rw [← hs] at C2 ⊢
  clear h hs hlen hBw
  cases i with
  | true =>
    go_enter Tryz.func50, Tryz.ntmps50
    go_wp2_with (first
      | (go_at_call 73; refine C1.out.mono ?_; rintro e w1 ⟨rfl, h1, k1⟩; have H1 := hid h1; have K1 := hid k1; clear h1 k1)
      | (go_at_call 74; refine (C2.out w1 _ H1.out (by simp) (Nat.le_trans HB.out K1.out.size)).mono ?_; rintro e w2 ⟨⟨v, rfl⟩, h2, k2⟩; obtain ⟨_, _, c3, f3⟩ := h2.box; have H2 := hid h2; have K2 := hid k2; clear h2 k2))
    go_end0
    exact ⟨rfl, by simpa [gap] using H2.out.flag true, (K1.out.trans K2.out).trans (Wr.set hBP _)⟩
  | false =>
    go_enter Tryz.func50, Tryz.ntmps50
    go_wp2_with (go_at_call 74; refine (C2.out w _ H.out (by omega) HB.out).mono ?_; rintro e w2 ⟨⟨v, rfl⟩, h2, k2⟩; obtain ⟨_, _, c3, f3⟩ := h2.box; have H2 := hid h2; have K2 := hid k2; clear h2 k2)
    go_end0
    exact ⟨rfl, by simpa [gap] using H2.out.flag true, K2.out.trans (Wr.set hBP _)⟩

set_option maxHeartbeats 2000000 in
theorem end_pen (B P : Nat) (l : List UInt8) (i : Bool) (w : World) (h : PenAt w B P l i) (hlen : l.length ≤ 100000000000000) (hBw : B ≤ w.heap.size) :
    Calls Tryz.prog 52 #[.pointer (some ⟨P, 0, none⟩)] w fun e w' => e = .returned (.tuple #[]) ∧ PenAt w' B P (l ++ [10]) false ∧ Wr B P w w' := by
  obtain ⟨hBP, hPl, c2, f2⟩ := h.box
  have C1 := hid (writeByte_pen B P l i 10 w h (by omega) hBw)
  clear h hlen hBw
  go_enter Tryz.func52, Tryz.ntmps52
  go_wp2_with (go_at_call 73; refine C1.out.mono ?_; rintro e w1 ⟨rfl, h1, k1⟩; obtain ⟨_, _, c3, f3⟩ := h1.box; have H1 := hid h1; have K1 := hid k1; clear h1 k1)
  go_end0
  exact ⟨rfl, H1.out.flag false, K1.out.trans (Wr.set hBP _)⟩

/-- The tables lie as they must. -/
structure Tabs (w : World) (B : Nat) : Prop where
  pow : Pow w
  it : ∃ tg fr, w.heap[0]? = some (.cells wordsC tg fr)
  fm : ∃ tg fr, w.heap[1]? = some (.cells formsC tg fr)
  lt : 3 ≤ B
theorem pow_g : Tryz.prog.globalNamed "internal/strconv.uint64pow10" = some 2 := by kernel_rfl
theorem pow_below {B : Nat} {w w' : World} (h : Pow w) (hb : Below B w w') (h3 : 3 ≤ B) : Pow w' := by
  unfold Pow Lib.TabIs World.var? at *
  rw [pow_g] at h ⊢
  simpa [hb.block 2 (by omega)] using h
theorem Tabs.it' {w : World} {B : Nat} (h : Tabs w B) : w.heap[0]? = some (.cells wordsC h.it.choose h.it.choose_spec.choose) := h.it.choose_spec.choose_spec
theorem Tabs.fm' {w : World} {B : Nat} (h : Tabs w B) : w.heap[1]? = some (.cells formsC h.fm.choose h.fm.choose_spec.choose) := h.fm.choose_spec.choose_spec
theorem Tabs.below {w w' : World} {B : Nat} (h : Tabs w B) (hb : Below B w w') : Tabs w' B :=
  ⟨pow_below h.pow hb h.lt, ⟨_, _, (hb.block 0 (by have := h.lt; omega)).trans h.it'⟩, ⟨_, _, (hb.block 1 (by have := h.lt; omega)).trans h.fm'⟩, h.lt⟩
end Go.Proofs.YtkkiiffhfjkoaaaGreatDoor
