import Derived.Test.YtcdcjpejlhcdnaaDoorSr20
namespace Go.Proofs.YtcdcjpejlhcdnaaDoor
open Go.RowKit Go.Sort
set_option linter.unusedVariables false
attribute [local go_sem ↓] Go.wp_at_zero Go.wp_at_succ

/-- Two faults of whole texts, told apart. -/
def Two (w : World) (g h : Nat) : Prop := ∃ a b ca cb ta tb, w.cell? ⟨g, 0, none⟩ = some (.iface 137 (.pointer (some a))) ∧ w.cell? ⟨h, 0, none⟩ = some (.iface 137 (.pointer (some b))) ∧ a ≠ b ∧ w.heap[a.block]? = some (.cells ca ta (0, 0)) ∧ w.heap[b.block]? = some (.cells cb tb (0, 0))
structure VarsS (w : World) : Prop where
  vars : Vars w
  et : ErrT w
  two : Two w 0 1
  lt : 12 < w.heap.size
theorem VarsS.below {w w' : World} (h : VarsS w) (hb : Below w.heap.size w w') : VarsS w' := by
  refine ⟨h.vars.below hb h.lt (Nat.le_refl _), (hb.cell (p := ⟨2, 0, none⟩) (Lib.lt_of_cell h.et)).trans h.et, ?_, Nat.lt_of_lt_of_le h.lt hb.size⟩
  obtain ⟨a, b, ca, cb, ta, tb, h1, h2, h3, h4, h5⟩ := h.two
  exact ⟨a, b, ca, cb, ta, tb, (hb.cell (p := ⟨0, 0, none⟩) (Lib.lt_of_cell h1)).trans h1, (hb.cell (p := ⟨1, 0, none⟩) (Lib.lt_of_cell h2)).trans h2, h3, block_below h4 hb, block_below h5 hb⟩

set_option maxRecDepth 100000 in
set_option maxHeartbeats 1600000 in
theorem codeOf_line (L : Nat) (n : Int) (x : Value) (w : World) (hv : VarsS w) (hL : w.heap[L]? = some (.cells #[.int .i64 n, x] 54 (0, 0))) :
    Calls Tryd.prog 12 #[.iface 50 (.pointer (some ⟨L, 0, none⟩))] w fun e w' => e = .returned (.int .i64 n) ∧ Below w.heap.size w w' := by
  obtain ⟨W0, hW0⟩ : ∃ W, W = w.alloc (.cells #[.pointer none] 50) := ⟨_, rfl⟩
  have BW : Below w.heap.size w W0 := by rw [hW0]; exact below1 _ _
  have T0 : W0.heap[w.heap.size]? = some (.cells #[.pointer none] 50 (0, 0)) := by rw [hW0]; exact heap_alloc_new _ _
  obtain ⟨t0, tf⟩ := one_cc T0
  have C0 := as_hit ⟨L, 0, none⟩ ⟨w.heap.size, 0, none⟩ _ W0 (hv.below BW).et t0 tf
  have LL := lt_of_block hL
  have ln : ¬ L = w.heap.size := by omega
  have C : Hid (Calls Tryd.prog 19 #[.iface 50 (.pointer (some ⟨L, 0, none⟩)), .iface 52 (.pointer (some ⟨w.heap.size, 0, none⟩))] W0 fun e w' => e = .returned (.bool true) ∧ w'.cell? ⟨w.heap.size, 0, none⟩ = some (.pointer (some ⟨L, 0, none⟩)) ∧ w'.cell? ⟨L, 0, none⟩ = some (.int .i64 n) ∧ L < w'.heap.size ∧ w.heap.size < w'.heap.size ∧ Below w.heap.size w w') := hid (C0.mono (by
    rintro e w' ⟨rfl, rfl⟩
    have h1 := ((below3 W0 (.cells #[.pointer (some ⟨w.heap.size, 0, none⟩)] 52) (.cells #[.pointer (some ⟨13, 52, none⟩), .pointer (some ⟨W0.heap.size, 0, none⟩), .int .u64 150] 68) (.cells #[.pointer (some ⟨13, 52, none⟩), .pointer (some ⟨W0.heap.size, 0, none⟩), .int .u64 150] 68)).alloc (by simp; omega) (.cells #[.pointer (some ⟨L, 0, none⟩)] 50))
    have k1 := block_below T0 h1
    have k2 := block_below (block_below hL BW) h1
    have k3 := heap_setCell_same _ w.heap.size 0 _ _ (.pointer (some ⟨L, 0, none⟩)) k1
    have k4 := (Below.heap_setCell _ ⟨w.heap.size, 0, none⟩ (.pointer (some ⟨L, 0, none⟩)) L ln).trans k2
    refine ⟨rfl, by rw [Lib.cell_of_heap k3]; rfl, by rw [Lib.cell_of_heap k4]; rfl, lt_of_block k4, lt_of_block k3, ?_⟩
    exact (BW.trans (h1.mono BW.size)).setCell (p := ⟨w.heap.size, 0, none⟩) (Nat.le_refl _) _))
  have HW0 := hid hW0
  clear hv hL hW0 BW T0 t0 tf C0
  go_enter Tryd.func12, Tryd.ntmps12
  go_wp2_with fail
  rw [← HW0.out]
  clear HW0
  with_reducible refine C.out.mono ?_
  rintro e w1 ⟨rfl, c1, c2, l1, l2, hb1⟩
  have B1 := hid hb1
  clear hb1
  go_wp2
  go_ret
  exact ⟨rfl, B1.out⟩

set_option maxRecDepth 100000 in
set_option maxHeartbeats 1600000 in
theorem codeOf_long (a : Addr) (w : World) (hv : VarsS w) (ha : w.cell? ⟨0, 0, none⟩ = some (.iface 137 (.pointer (some a)))) :
    Calls Tryd.prog 12 #[.iface 137 (.pointer (some a))] w fun e w' => e = .returned (.int .i64 (-1)) ∧ Below w.heap.size w w' := by
  obtain ⟨W0, hW0⟩ : ∃ W, W = w.alloc (.cells #[.pointer none] 50) := ⟨_, rfl⟩
  have BW : Below w.heap.size w W0 := by rw [hW0]; exact below1 _ _
  have hv0 := hv.below BW
  have C := hid (as_miss (.pointer (some a)) ⟨w.heap.size, 0, none⟩ W0 hv0.et)
  obtain ⟨a', b, ca, cb, ta, tb, h1, h2, h3, h4, h5⟩ := hv0.two
  have ea : a' = a := by
    have := (BW.cell (p := ⟨0, 0, none⟩) (Lib.lt_of_cell ha)).trans ha
    rw [this] at h1
    simp at h1
    exact h1.symm
  subst ea
  have D := hid (fun W (h : Below W0.heap.size W0 W) => And.intro ((h.cell (p := ⟨1, 0, none⟩) (Lib.lt_of_cell h2)).trans h2) (is_other a' b ca cb ta tb W h3 (block_below h4 h) (block_below h5 h)))
  have BH := hid BW
  have HW0 := hid hW0
  clear hv ha hW0 BW h1 h2 h3 h4 h5 hv0
  go_enter Tryd.func12, Tryd.ntmps12
  go_wp2_with fail
  rw [← HW0.out]
  clear HW0
  with_reducible refine C.out.mono ?_
  rintro e w1 ⟨rfl, hb1⟩
  have B1 := hid hb1
  obtain ⟨d1, d2⟩ := D.out w1 hb1
  have D2 := hid d2
  have dl := Lib.lt_of_cell d1
  clear hb1 d2
  go_wp2_with (go_at_call 20; with_reducible refine D2.out.mono ?_; rintro e w2 ⟨rfl, hw2⟩; obtain rfl := hw2.symm)
  go_ret
  exact ⟨rfl, BH.out.trans (B1.out.mono BH.out.size)⟩

theorem lines_val {B R M : Nat} {s : ByteArray} {LS : List (List UInt8)} {w : World} (h : Calls Tryd.prog 17 #[.string s, .map (some M)] w fun e w' => LinesTo B R LS e w' ∧ Below B w w') : Calls Tryd.prog 17 #[.string s, .map (some M)] w fun e w' => ∃ ev, e = .returned ev ∧ LinesTo B R LS (.returned ev) w' ∧ Below B w w' := h.mono (by
  rintro e w' ⟨hl, hb⟩
  have hl2 := hl
  rcases hl with ⟨acc, v', h1, rfl, h3⟩ | ⟨n, L, x, h1, rfl, h3⟩
  · exact ⟨_, rfl, hl2, hb⟩
  · exact ⟨_, rfl, hl2, hb⟩)

set_option maxRecDepth 100000 in
set_option maxHeartbeats 1600000 in
/-- A script read (the program's). -/
theorem implScript_any (s : ByteArray) (w : World) (hv : VarsS w) :
    Calls Tryd.prog 5 #[.string s] w fun e w' => ∃ v, e = .returned (.tuple #[v, .int .i64 (scrT (bl s)).2]) ∧ ScRow w' w.heap.size v (scrT (bl s)).1 ∧ Below w.heap.size w w' := by
  obtain ⟨W0, hW0⟩ : ∃ W, W = w.alloc (.cells #[.slice none 0 0] 36) := ⟨_, rfl⟩
  have BW : Below w.heap.size w W0 := by rw [hW0]; exact below1 _ _
  have R0 : RAt W0 w.heap.size w.heap.size (.slice none 0 0) [] := ⟨by rw [hW0]; exact heap_alloc_new _ _, World.ownsRow_nil _ _ _ _, Nat.le_refl _⟩
  have hv0 := hv.below BW
  by_cases hbig : 30000 < s.size
  · have hbig' : (30000 : Int) < (s.size : Int) := by omega
    have E : Hid (scrT (bl s) = ([], -1)) := hid (by unfold scrT; rw [if_pos (by rw [bl_len]; exact hbig)])
    rw [E.out]
    obtain ⟨a, b, ca, cb, ta, tb, h1, _⟩ := hv0.two
    have RD : Hid (Calls Tryd.prog 11 #[.pointer (some ⟨w.heap.size, 0, none⟩), .string s] W0 fun e w' => e = .returned (.iface 137 (.pointer (some a))) ∧ w' = W0) := hid (by
      have h1' := h1
      clear hv hv0 R0 BW hW0 E
      go_enter Tryd.func11, Tryd.ntmps11
      go_wp2
      go_ret
      exact ⟨rfl, rfl⟩)
    have W1 := hid (below1 W0 (.cells #[] 31))
    have CD := hid (codeOf_long a (W0.alloc (.cells #[] 31)) (hv0.below (below1 _ _)) ((W1.out.cell (p := ⟨0, 0, none⟩) (Lib.lt_of_cell h1)).trans h1))
    have BH := hid BW
    have HW0 := hid hW0
    clear hv hv0 R0 BW hW0 h1 hbig
    go_enter Tryd.func5, Tryd.ntmps5
    go_wp2_with fail
    rw [← HW0.out]
    clear HW0
    with_reducible refine RD.out.mono ?_
    rintro e w1 ⟨rfl, hw1⟩
    obtain rfl := hw1.symm
    go_wp2_with (go_at_call 12; with_reducible refine CD.out.mono ?_)
    rintro e w2 ⟨rfl, hb2⟩
    have B2 := hid hb2
    clear hb2
    go_wp2
    go_ret2
    exact ⟨.slice (some ⟨W0.heap.size, 0, none⟩) 0 0, rfl, ownsRow_below (World.ownsRow_lit W0 #[] 0 BH.out.size (by decide) rfl) B2.out, (BH.out.trans (W1.out.mono BH.out.size)).trans (B2.out.mono (by have := BH.out.size; simp; omega))⟩
  · have hbig' : ¬ (30000 : Int) < (s.size : Int) := by omega
    have E : Hid (scrT (bl s) = scr (cut 10 (bl s)) 0 []) := hid (by unfold scrT; rw [if_neg (by rw [bl_len]; exact hbig)])
    rw [E.out]
    have RS := hid (readers_any w.heap.size W0)
    have RL := hid (fun (M : Nat) (W : World) (h : Below W0.heap.size W0 W) (hm : W.heap[M]? = some (.map (rdMap w.heap.size) 4)) => readLines_any w.heap.size w.heap.size M s W (.slice none 0 0) (by omega) (hv0.below h).vars hv.lt (Nat.le_trans BW.size h.size) (R0.below h) hm)
    have RD : Hid (Calls Tryd.prog 11 #[.pointer (some ⟨w.heap.size, 0, none⟩), .string s] W0 fun e w' => LinesTo w.heap.size w.heap.size (cut 10 (bl s)) e w' ∧ Below w.heap.size w w') := hid (by
      have BH := hid BW
      clear hv hv0 R0 BW hW0 E hbig
      go_enter Tryd.func11, Tryd.ntmps11
      go_wp2_with (first
        | (go_at_call 18; with_reducible refine RS.out.mono ?_; rintro e w1 ⟨rfl, hm1, hb1⟩; have B1 := hid hb1; have C := hid (RL.out _ w1 hb1 hm1); clear hm1 hb1)
        | (go_at_call 17; with_reducible refine (lines_val C.out).mono ?_; rintro e w2 ⟨ev, rfl, hl2, hb2⟩; have B2 := hid hb2; have L2 := hid hl2; clear hb2 hl2))
      have BT : Hid (Below w.heap.size w w2) := hid ((BH.out.trans (B1.out.mono BH.out.size)).trans B2.out)
      go_ret
      exact ⟨L2.out, BT.out⟩)
    obtain ⟨ls, hls⟩ : ∃ l, l = cut 10 (bl s) := ⟨_, rfl⟩
    rw [← hls] at RD ⊢
    have HV := hid hv
    have HW0 := hid hW0
    clear hv hv0 R0 BW hW0 hbig RS RL E hls
    go_enter Tryd.func5, Tryd.ntmps5
    go_wp2_with fail
    rw [← HW0.out]
    clear HW0
    with_reducible refine RD.out.mono ?_
    rintro e w1 ⟨hl1, hb1⟩
    have B1 := hid hb1
    rcases hl1 with ⟨acc, v', h1, rfl, h3, h4⟩ | ⟨n, L, x, h1, rfl, h3⟩
    · obtain ⟨va, vn, vc, rfl⟩ := row_form h3.row
      obtain ⟨r0, r1⟩ := one_cc h3.blk
      have rl := lt_of_block h3.blk
      have R3 := hid h3.row
      have Q := hid h1
      clear h1 h3 hb1
      go_wp2
      go_ret2
      rw [Q.out]
      exact ⟨_, rfl, R3.out, B1.out⟩
    · have Q := hid h1
      have V1 := HV.out.below hb1
      have W1 := hid (below1 w1 (.cells #[] 31))
      have CD := hid (codeOf_line L _ x (w1.alloc (.cells #[] 31)) (V1.below (below1 _ _)) (block_below h3 W1.out))
      clear h1 h3 hb1 V1
      go_wp2_with (go_at_call 12; with_reducible refine CD.out.mono ?_)
      rintro e w2 ⟨rfl, hb2⟩
      have B2 := hid hb2
      clear hb2
      go_wp2
      go_ret2
      rw [Q.out]
      exact ⟨.slice (some ⟨w1.heap.size, 0, none⟩) 0 0, rfl, ownsRow_below (World.ownsRow_lit w1 #[] 0 B1.out.size (by decide) rfl) B2.out, (B1.out.trans (W1.out.mono B1.out.size)).trans (B2.out.mono (by have := B1.out.size; simp; omega))⟩
end Go.Proofs.YtcdcjpejlhcdnaaDoor
