import Derived.Test.YtjeckanjekgkkaaI3
import Derived.Test.YtjeckanjekgkkaaK1b
import Derived.OneCell
namespace Go.Proofs.Ytjeckanjekgkkaa
open Go.RowKit Go.Sort
attribute [local go_sem ↓] Go.wp_at_zero Go.wp_at_succ

/-- All that was there but X is as it was. -/
structure Kept (X : Nat → Prop) (w w' : World) : Prop where
  os : w'.os = w.os
  tape : w'.tape = w.tape
  output : w'.output = w.output
  size : w.heap.size ≤ w'.heap.size
  block : ∀ q, q < w.heap.size → ¬ X q → w'.heap[q]? = w.heap[q]?
theorem Kept.below {X : Nat → Prop} {w w' : World} (h : Kept X w w') {B : Nat} (hB : B ≤ w.heap.size) (hX : ∀ q, X q → B ≤ q) : Below B w w' :=
  ⟨h.os, h.tape, h.output, h.size, fun q hq => h.block q (by omega) (fun hx => by have := hX q hx; omega)⟩

theorem quad_free {w : World} {H : Nat} {cs : Array Value} {t : TypeId} (h : w.heap[H]? = some (.cells cs t (0, 0))) (o : Nat) : w.frozen? ⟨H, o, none⟩ = false := frozen_of_row w H o cs t h
/-- A row of pointers is no node. -/
theorem row_node {w : World} {B : Nat} {v : Value} {n : Nat} {xs : List Value} (h : w.ownsRow B 50 1 v n xs) {H : Nat} {cs : Array Value} (hH : w.heap[H]? = some (.cells cs 58 (0, 0))) : v.ownBlock ≠ some H := by
  intro e
  rcases h.2 with ⟨h0, _⟩ | ⟨g, cap, cur, h1, h2, h3, h4⟩
  · rw [h0] at e; cases e
  · rw [h1] at e
    simp [Value.ownBlock] at e
    subst e
    rw [hH] at h3
    simp at h3

set_option maxHeartbeats 800000 in
theorem addChild_any (P H B : Nat) (a0 a1 a2 cv c0 c2 c3 : Value) (kn : Nat) (xs : List Value) (w : World) (hP : w.heap[P]? = some (.cells #[a0, a1, a2, cv] 58 (0, 0))) (hH : w.heap[H]? = some (.cells #[c0, .pointer none, c2, c3] 58 (0, 0)))
    (hne : P ≠ H) (ho : w.ownsRow B 50 1 cv kn xs) (hk : kn ≤ 300) (hB : B ≤ w.heap.size) :
    Calls Try.prog 58 #[.pointer (some ⟨P, 0, none⟩), .pointer (some ⟨H, 0, none⟩)] w fun e w' => e = .returned (.tuple #[]) ∧ ∃ cv', w'.heap[P]? = some (.cells #[a0, a1, a2, cv'] 58 (0, 0)) ∧
      w'.heap[H]? = some (.cells #[c0, .pointer (some ⟨P, 0, none⟩), c2, c3] 58 (0, 0)) ∧ w'.ownsRow B 50 1 cv' (kn + 1) (xs ++ [.pointer (some ⟨H, 0, none⟩)]) ∧
      (cv'.ownBlock = cv.ownBlock ∨ ∃ b, cv'.ownBlock = some b ∧ w.heap.size ≤ b) ∧ Kept (fun q => q = P ∨ q = H ∨ cv.ownBlock = some q) w w' := by
  obtain ⟨i0, hi, hz0, hz1, hz2⟩ := info_parts Try.info50
  obtain ⟨ao, c, rfl⟩ := slice_of ho
  have rP := row_node ho hP
  have rH := row_node ho hH
  obtain ⟨h0, h1, h2, h3⟩ := quad_cells hH
  obtain ⟨p0, p1, p2, p3⟩ := quad_cells hP
  have f1 := quad_free hH 1
  have lP := lt_of_block hP
  have lH := lt_of_block hH
  have hne' : H ≠ P := Ne.symm hne
  have HP := hid hP
  have HH := hid hH
  have O1 := hid (ownsRow_setCell_other ho (a := ⟨H, 1, none⟩) rH (.pointer (some ⟨P, 0, none⟩)))
  clear ho hP hH h0 h2 h3 p0 p1 p2
  go_enter Try.func58, Try.ntmps58
  go_wp2_with (at_builtin; refine wpList_append_lies _ rfl (.tmp 12) (.tmp 14) 46 rfl B 50 i0 _ 1 8 Try.underlying46 hi hz0 hz1 hz2 rfl (by decide) _ _ _ rfl (O1.out.alloc _) ⟨w.heap.size, 0, none⟩ 1 1 [.pointer (some ⟨H, 0, none⟩)] rfl rfl (by simpa using news_one (w.setCell ⟨H, 1, none⟩ (.pointer (some ⟨P, 0, none⟩))) (.pointer (some ⟨H, 0, none⟩)) 50) (by intro u hu; simp at hu; subst hu; rfl) (by omega) (by unfold maxLen; omega) (by omega) (by simp; omega) (w.heap.size + 1) (by simp) ?_)
  intro g cap' w2 hown hgrow hat hlt
  have bP : w2.heap[P]? = some (.cells #[a0, a1, a2, .slice ao kn c] 58 (0, 0)) := by
    rw [grown_block hgrow (by simp; omega) rP, heap_alloc_old _ _ (by simpa using lP), heap_setCell_other _ _ _ _ (by simpa using hne)]
    exact HP.out
  have bH : w2.heap[H]? = some (.cells #[c0, .pointer (some ⟨P, 0, none⟩), c2, c3] 58 (0, 0)) := by
    rw [grown_block hgrow (by simp; omega) rH, heap_alloc_old _ _ (by simpa using lH), heap_setCell_same w H 1 _ _ _ HH.out]
    simp
  obtain ⟨_, _, _, q3⟩ := quad_cells bP
  have f3 := quad_free bP 3
  have rg : (Value.slice (some ⟨g, 0, none⟩) (kn + 1) cap').ownBlock ≠ some P := row_node hown bP
  have O2 := hid (ownsRow_setCell_other hown (a := ⟨P, 3, none⟩) rg (.slice (some ⟨g, 0, none⟩) (kn + 1) cap'))
  have BP := hid bP
  have BH := hid bH
  have G := hid hgrow
  have AT := hid hat
  clear hown hgrow bP bH hat rg
  go_wp2
  go_end0
  refine ⟨rfl, .slice (some ⟨g, 0, none⟩) (kn + 1) cap', ?_, ?_, O2.out, ?_, ?_⟩
  · rw [heap_setCell_same _ P 3 _ _ _ BP.out]; simp
  · rw [heap_setCell_other _ _ _ _ (by simpa using hne')]; exact BH.out
  · rcases AT.out with h | h
    · exact .inl h.symm
    · exact .inr ⟨g, rfl, by omega⟩
  · have hsz := G.out.size
    simp at hsz
    refine ⟨G.out.os, G.out.tape, G.out.output, by simp; omega, fun q hq hx => ?_⟩
    have x1 : q ≠ P := fun e => hx (.inl e)
    have x2 : q ≠ H := fun e => hx (.inr (.inl e))
    have x3 : (Value.slice ao kn c).ownBlock ≠ some q := fun e => hx (.inr (.inr e))
    rw [heap_setCell_other _ _ _ _ (by simpa using x1), grown_block G.out (by simp; omega) x3, heap_alloc_old _ _ (by simpa using hq), heap_setCell_other _ _ _ _ (by simpa using x2)]

set_option maxHeartbeats 800000 in
theorem setInitial_any (N : Nat → Nat) (l : List Nat) (P B : Nat) (a0 a1 a2 cv : Value) (iv : Int) (w : World) (hP : w.heap[P]? = some (.cells #[a0, a1, a2, cv] 58 (0, 0))) (ho : w.ownsRow B 50 1 cv l.length (ptrs N l)) (hk : l.length ≤ 300)
    (hx : ∀ x, x ∈ l → w.cell? ⟨N x, 0, none⟩ = some (.int .i64 (x : Int))) (ha2 : ∃ p, a2 = .pointer p) :
    Calls Try.prog 60 #[.pointer (some ⟨P, 0, none⟩), .int .i64 iv] w fun e w' =>
      (∃ x, x ∈ l ∧ (x : Int) = iv ∧ e = .returned (.bool true) ∧ w' = w.setCell ⟨P, 2, none⟩ (.pointer (some ⟨N x, 0, none⟩))) ∨
      ((∀ x, x ∈ l → ¬ (x : Int) = iv) ∧ e = .returned (.bool (decide (l = []) && decide (iv = -1))) ∧ w' = w) := by
  obtain ⟨ao, c, rfl⟩ := slice_of ho
  obtain ⟨p2, rfl⟩ := ha2
  obtain ⟨p0, p1, p2', p3⟩ := quad_cells hP
  have f2 := quad_free hP 2
  have HC : Hid (∀ k, k < l.length → ∃ g, ao = some ⟨g, 0, none⟩ ∧ w.cell? ⟨g, k, none⟩ = some (.pointer (some ⟨N (l.getD k 0), 0, none⟩))) := hid (by
    intro k hk
    obtain ⟨g, cap, e, _, h3⟩ := World.ownsRow.form ho (by omega)
    simp at e
    obtain ⟨rfl, rfl⟩ := e
    refine ⟨g, rfl, ?_⟩
    rw [World.ownsRow.cellAt ho k (by omega)]
    simp [ptrs, List.getD_eq_getElem?_getD, hk])
  have HX := hid hx
  obtain ⟨m, hm⟩ : ∃ m, m = l.length := ⟨_, rfl⟩
  have HM := hid hm
  rw [← hm] at p3 hk
  clear ho hx hP p0 p1
  go_enter Try.func60, Try.ntmps60
  go_wp2
  go_loopw [12] (fun i wr => wr = w ∧ ∃ a : Nat, a ≤ m ∧ i = .int .i64 a ∧ Hid (∀ q, q < a → ¬ ((l.getD q 0 : Nat) : Int) = iv)) (fun i _ => m - (intOf i).toNat)
  case atStart => exact ⟨rfl, 0, Nat.zero_le _, rfl, hid (fun q h => absurd h (by omega))⟩
  case round =>
    obtain ⟨rfl, a, ha, rfl, HP⟩ := hrel
    by_cases hlt : a < m
    · obtain ⟨g, rfl, hc⟩ := HC.out a (by rw [← HM.out]; exact hlt)
      obtain ⟨x, ex⟩ : ∃ x, x = l.getD a 0 := ⟨_, rfl⟩
      have hxm : x ∈ l := by rw [ex]; exact getD_mem (by rw [← HM.out]; exact hlt)
      have cx := HX.out x hxm
      rw [← ex] at hc
      have EX := hid ex
      have HXM := hid hxm
      have an : (a : Int) < (m : Int) := by omega
      clear ex hxm
      by_cases e : (x : Int) = iv
      · subst e
        go_wp2
        go_ret
        exact .inl ⟨x, HXM.out, rfl, rfl, rfl⟩
      · have e' : ((x : Int) == iv) = false := by simpa using e
        go_wp2
        go_roundw
        case rel =>
          refine ⟨by first | rfl | trivial, a + 1, by omega, by go_num, hid (fun q hq => ?_)⟩
          by_cases eq : q = a
          · subst eq; rw [← EX.out]; exact e
          · exact HP.out q (by omega)
        case measure => simp [intOf]; omega
    · have e : a = m := by omega
      subst e
      have NO : Hid (∀ x, x ∈ l → ¬ (x : Int) = iv) := hid (by
        intro x hx
        obtain ⟨q, hq, eq⟩ := mem_getD hx
        rw [← eq]
        exact HP.out q (by rw [HM.out]; exact hq))
      by_cases h0 : a = 0
      · have EL : Hid (l = []) := hid (List.eq_nil_of_length_eq_zero (by rw [← HM.out]; exact h0))
        have h0' : ((a : Int) == 0) = true := by simp [h0]
        clear h0
        by_cases h1 : iv = -1
        · have h1' : (iv == -1) = true := by simp [h1]
          have H1 := hid h1
          clear h1
          go_wp2
          go_ret
          exact .inr ⟨NO.out, ret_bool (by rw [EL.out, H1.out]; rfl), rfl⟩
        · have h1' : (iv == -1) = false := by simpa using h1
          go_wp2
          go_ret
          exact .inr ⟨NO.out, ret_bool (by simp [h1]), rfl⟩
      · have h0' : ((a : Int) == 0) = false := by simpa using h0
        have EL : Hid (¬ l = []) := hid (fun e => h0 (by rw [HM.out, e]; rfl))
        go_wp2
        go_ret
        exact .inr ⟨NO.out, ret_bool (by simp [EL.out]), rfl⟩

def cntB (n tn : Nat) (lim : Bool) : Bool := decide (1 ≤ n ∧ n ≤ 200 ∧ tn ≤ 500 ∧ lim = true)
set_option maxHeartbeats 800000 in
theorem countsOK_any (so to : Option Addr) (n sc tn tc : Nat) (o s t v : Int) (w : World) (hn : n ≤ 9223372036854775807) (htn : tn ≤ 9223372036854775807) :
    Calls Try.prog 57 #[.agg #[.slice so n sc, .slice to tn tc], .agg #[.int .i64 o, .int .i64 s, .int .i64 t, .int .i64 v]] w fun e w' => e = .returned (.bool (cntB n tn (limB ⟨o, s, t, v⟩))) ∧ Below w.heap.size w w' := by
  obtain ⟨lb, hlb⟩ : ∃ lb, lb = limB ⟨o, s, t, v⟩ := ⟨_, rfl⟩
  have CL : Hid (∀ w, Calls Try.prog 66 #[.agg #[.int .i64 o, .int .i64 s, .int .i64 t, .int .i64 v]] w fun e w' => e = .returned (.bool lb) ∧ Below w.heap.size w w') := hid (by rw [hlb]; exact limitsOK_any o s t v)
  rw [← hlb]
  clear hlb
  by_cases h1 : 1 ≤ n
  case neg =>
    have E : Hid (cntB n tn lb = false) := hid (by unfold cntB; rw [decide_eq_false_iff_not]; omega)
    have d : decide ((1 : Int) ≤ (n : Int)) = false := by simp; omega
    rw [E.out]
    go_enter Try.func57, Try.ntmps57
    go_wp2
    go_ret
    exact ⟨rfl, below2 _ _ _⟩
  have i1 : (1 : Int) ≤ (n : Int) := by omega
  by_cases h2 : n ≤ 200
  case neg =>
    have E : Hid (cntB n tn lb = false) := hid (by unfold cntB; rw [decide_eq_false_iff_not]; omega)
    have d : decide ((n : Int) ≤ 200) = false := by simp; omega
    rw [E.out]
    go_enter Try.func57, Try.ntmps57
    go_wp2
    go_ret
    exact ⟨rfl, below2 _ _ _⟩
  have i2 : (n : Int) ≤ 200 := by omega
  by_cases h3 : tn ≤ 500
  case neg =>
    have E : Hid (cntB n tn lb = false) := hid (by unfold cntB; rw [decide_eq_false_iff_not]; omega)
    have d : decide ((tn : Int) ≤ 500) = false := by simp; omega
    rw [E.out]
    go_enter Try.func57, Try.ntmps57
    go_wp2
    go_ret
    exact ⟨rfl, below2 _ _ _⟩
  have i3 : (tn : Int) ≤ 500 := by omega
  have E : Hid (cntB n tn lb = lb) := hid (by unfold cntB; rw [Bool.eq_iff_iff]; simp [h1, h2, h3])
  rw [E.out]
  go_enter Try.func57, Try.ntmps57
  go_wp2_with (go_at_call 66; refine (CL.out _).mono ?_; rintro e w1 ⟨rfl, hb1⟩; have B1 := hid hb1; clear hb1)
  go_ret
  exact ⟨rfl, (below2 _ _ _).trans (B1.out.mono (by simp; omega))⟩
end Go.Proofs.Ytjeckanjekgkkaa
