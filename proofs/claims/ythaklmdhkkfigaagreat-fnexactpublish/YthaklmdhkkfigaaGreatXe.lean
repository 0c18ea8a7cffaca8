import Derived.Test.YthaklmdhkkfigaaGreatXd
import Derived.Test.YthaklmdhkkfigaaGreatXc
namespace Go.Proofs.YthaklmdhkkfigaaGreat
open Go.RowKit Go.Sort
set_option linter.unusedVariables false
attribute [local go_sem ↓] Go.wp_at_zero Go.wp_at_succ

/-- An engine's twelve cells. -/
abbrev engC (sg : Int) (A R M X s6 g9 g10 rv : Value) (wt tk : Int) : Array Value := #[.int .i64 sg, A, R, M, X, .int .i32 0, s6, .int .i64 wt, .int .i64 tk, g9, g10, rv]
/-- An engine: its box and its records. -/
structure Eng (w : World) (B H : Nat) (sg : Int) (A R M X s6 g9 g10 rv : Value) (wt tk : Int) (rs : List (Int × Int × Int)) : Prop where
  o : w.heap[H]? = some (.cells (engC sg A R M X s6 g9 g10 rv wt tk) 100 (0, 0))
  hH : B ≤ H
  r : RcRow w B rv rs
theorem eng_cells {w : World} {H : Nat} {sg : Int} {A R M X s6 g9 g10 rv : Value} {wt tk : Int} (k : w.heap[H]? = some (.cells (engC sg A R M X s6 g9 g10 rv wt tk) 100 (0, 0))) :
    (w.cell? ⟨H, 0, none⟩ = some (.int .i64 sg) ∧ w.cell? ⟨H, 1, none⟩ = some A ∧ w.cell? ⟨H, 2, none⟩ = some R ∧ w.cell? ⟨H, 3, none⟩ = some M ∧ w.cell? ⟨H, 4, none⟩ = some X) ∧ (w.cell? ⟨H, 5, none⟩ = some (.int .i32 0) ∧ w.cell? ⟨H, 7, none⟩ = some (.int .i64 wt)) ∧ w.cell? ⟨H, 11, none⟩ = some rv := by
  simp [World.cell?, k]
section
variable {w Y Z : World} {B H : Nat} {sg : Int} {A R M X s6 g9 g10 rv : Value} {wt tk : Int} {rs : List (Int × Int × Int)}
theorem Eng.below (h : Eng w B H sg A R M X s6 g9 g10 rv wt tk rs) (hb : Below w.heap.size w Y) : Eng Y B H sg A R M X s6 g9 g10 rv wt tk rs := ⟨block_below h.o hb, h.hH, ownsRow_below h.r hb⟩
theorem Eng.tn {S : Nat → Prop} (h : Eng w B H sg A R M X s6 g9 g10 rv wt tk rs) (t : Tn S w Y) (h1 : ¬ S H) (h2 : ∀ b, rv.ownBlock = some b → ¬ S b) : Eng Y B H sg A R M X s6 g9 g10 rv wt tk rs := ⟨t.at h.o h1, h.hH, row_same h.r (fun b hb e => t.block b hb (h2 b e))⟩
/-- One record more. -/
theorem Eng.note1 (h : Eng w B H sg A R M X s6 g9 g10 rv wt tk rs) (hb : Below w.heap.size w Y) {R' : Value} {x : Int × Int × Int} (hg : Y.grownBy Z rv.ownBlock) (hR : Z.ownsRow B 106 3 R' (rs.length + 1) (rcC rs ++ [.int .i64 x.1, .int .i64 x.2.1, .int .i64 x.2.2])) :
    Z.heap[H]? = some (.cells (engC sg A R M X s6 g9 g10 rv wt tk) 100 (0, 0)) ∧ Eng (Z.setCell ⟨H, 11, none⟩ R') B H sg A R M X s6 g9 g10 R' wt tk (rs ++ [x]) ∧ Tn (fun b => b = H ∨ rv.ownBlock = some b) w (Z.setCell ⟨H, 11, none⟩ R') := by
  have g := h.below hb
  have kp : Kp [100] Y Z := Kp.grown g.r hg (by decide)
  have oZ := kp _ _ _ _ g.o (by simp)
  have k2 : Kp [106] Z (Z.setCell ⟨H, 11, none⟩ R') := Kp.set oZ (by decide) R'
  have hr : Z.ownsRow B 106 3 R' (rs ++ [x]).length (rcC (rs ++ [x])) := by
    have : rcC (rs ++ [x]) = rcC rs ++ [.int .i64 x.1, .int .i64 x.2.1, .int .i64 x.2.2] := by rw [rcC_append]; rfl
    rw [this]
    simpa using hR
  refine ⟨oZ, ⟨by rw [heap_setCell_same Z H 11 _ _ R' oZ]; rfl, h.hH, k2.own hr (by simp)⟩, ?_⟩
  refine ((Tn.of_below hb).trans ⟨hg.os, hg.tape, hg.output, hg.size, fun i hi hs => hg.block i hi (fun e => hs (.inr e.symm))⟩).trans (Tn.set (.inl rfl) _)
end
set_option maxRecDepth 100000 in
set_option maxHeartbeats 1600000 in
theorem record_any (B H : Nat) (sg : Int) (A R M X s6 g9 g10 rv : Value) (wt tk : Int) (rs : List (Int × Int × Int)) (a b c : Int) (w : World) (hB : B ≤ w.heap.size) (hl : rs.length ≤ 1048576) (h : Eng w B H sg A R M X s6 g9 g10 rv wt tk rs) :
    Calls Tryz.prog 77 #[.pointer (some ⟨H, 0, none⟩), .int .i64 a, .int .i64 b, .int .i64 c] w fun e w' => e = .returned (.tuple #[]) ∧ ∃ ra rn rc, Eng w' B H sg A R M X s6 g9 g10 (.slice ra rn rc) wt tk (rs ++ [(a, b, c)]) ∧ Tn (fun b => b = H ∨ rv.ownBlock = some b) w w' := by
  obtain ⟨i0, hi, hz0, hz1, hz2⟩ := info_parts Tryz.infoRc
  obtain ⟨ra, rm, rp, rfl⟩ := row_form h.r
  obtain ⟨_, _, y9⟩ := eng_cells h.o
  have f9 := froz h.o 11
  have hHl := lt_of_block h.o
  have HH := hid h
  clear h
  go_enter Tryz.func77, Tryz.ntmps77
  go_wp2_with (at_builtin; refine wpList_append_own _ rfl (.tmp 12) (.tmp 17) 36 rfl B 106 i0 (.agg #[.int .i64 0, .int .i64 0, .int .i64 0]) 3 24 Tryz.underlying36 hi hz0 hz1 hz2 rfl (by decide) (.slice ra rm rp) rs.length (rcC rs) rfl (ownsRow_below HH.out.r (below1 _ _)) ⟨w.heap.size, 0, none⟩ 1 1 [.int .i64 a, .int .i64 b, .int .i64 c] rfl rfl (World.news_of_block (heap_alloc_new w _)) (one3 _ _ _) (by unfold maxLen; omega) (by omega) (by simp; omega) ?_; intro v1 w1 hown hgrow _; obtain ⟨za, zm, zc, rfl⟩ := row_form hown; have N := HH.out.note1 (x := (a, b, c)) (below1 _ _) hgrow hown; have NW := hid N.2; obtain ⟨_, _, z9⟩ := eng_cells N.1; have g9' := froz N.1 11; have zl := lt_of_block N.1; clear hown hgrow N)
  go_end0
  exact ⟨rfl, _, _, _, NW.out.1, NW.out.2⟩
end Go.Proofs.YthaklmdhkkfigaaGreat
namespace Go.Proofs.YthaklmdhkkfigaaGreat
open Go.RowKit Go.Sort Go.MuLone
set_option linter.unusedVariables false
attribute [local go_sem ↓] Go.wp_at_zero Go.wp_at_succ

theorem tn_undrew {S : Nat → Prop} {w w' : World} (h : Tn S w.drew w') : Tn S w w' := ⟨h.os, h.tape, h.output, h.size, h.block⟩
section
variable {w Y : World} {B H : Nat} {sg : Int} {A R M X s6 g9 g10 rv : Value} {wt tk : Int} {rs : List (Int × Int × Int)}
/-- Something more waits. -/
theorem Eng.count (h : Eng w B H sg A R M X s6 g9 g10 rv wt tk rs) (z : Int) : Eng (((w.setCell ⟨H, 5, none⟩ (.int .i32 1)).setCell ⟨H, 7, none⟩ (.int .i64 z)).setCell ⟨H, 5, none⟩ (.int .i32 0)) B H sg A R M X s6 g9 g10 rv z tk rs ∧ Tn (· = H) w (((w.setCell ⟨H, 5, none⟩ (.int .i32 1)).setCell ⟨H, 7, none⟩ (.int .i64 z)).setCell ⟨H, 5, none⟩ (.int .i32 0)) := by
  have o1 := heap_setCell_same w H 5 _ _ (.int .i32 1) h.o
  have o2 := heap_setCell_same _ H 7 _ _ (.int .i64 z) o1
  have o3 := heap_setCell_same _ H 5 _ _ (.int .i32 0) o2
  have k1 : Kp [106] w (w.setCell ⟨H, 5, none⟩ (.int .i32 1)) := Kp.set h.o (by decide) _
  have k2 : Kp [106] (w.setCell ⟨H, 5, none⟩ (.int .i32 1)) ((w.setCell ⟨H, 5, none⟩ (.int .i32 1)).setCell ⟨H, 7, none⟩ (.int .i64 z)) := Kp.set o1 (by decide) _
  have k3 : Kp [106] ((w.setCell ⟨H, 5, none⟩ (.int .i32 1)).setCell ⟨H, 7, none⟩ (.int .i64 z)) (((w.setCell ⟨H, 5, none⟩ (.int .i32 1)).setCell ⟨H, 7, none⟩ (.int .i64 z)).setCell ⟨H, 5, none⟩ (.int .i32 0)) := Kp.set o2 (by decide) _
  exact ⟨⟨by rw [o3]; rfl, h.hH, ((k1.trans k2).trans k3).own h.r (by simp)⟩, ((Tn.one _).trans (Tn.one _)).trans (Tn.one _)⟩
end
set_option maxRecDepth 100000 in
set_option maxHeartbeats 1600000 in
theorem notePut_room (B H a : Nat) (sg : Int) (A R M X s6 g9 g10 rv : Value) (wt tk x1 x2 : Int) (rs : List (Int × Int × Int)) (w : World) (h : Eng w B H sg A R M X s6 g9 g10 rv wt tk rs) :
    Calls Tryz.prog 108 #[.pointer (some ⟨H, 0, none⟩), .pointer (some ⟨a, 0, none⟩), .agg #[.int .i64 x1, .int .i64 x2], .bool true] w fun e w' => e = .returned (.tuple #[]) ∧ Eng w' B H sg A R M X s6 g9 g10 rv (wrap64 (wt + 1)) tk rs ∧ Tn (· = H) w w' := by
  have h1 := h.below (below1 w (.cells #[.int .i64 x1, .int .i64 x2] 70))
  obtain ⟨_, ⟨y5, y7⟩, _⟩ := eng_cells h1.o
  have C := hid (countPut_low H 5 wt 1 _ y5 y7 (froz h1.o 5) (froz h1.o 7))
  have E1 := hid (h1.count (wrap64 (wt + 1)))
  have T1 := hid (Tn.of_below (S := (· = H)) (below1 w (.cells #[.int .i64 x1, .int .i64 x2] 70)))
  clear h h1 y5 y7
  go_enter Tryz.func108, Tryz.ntmps108
  go_wp2_with (go_at_call 74; with_reducible refine C.out.mono ?_; rintro e w1 ⟨rfl, hw1⟩; have EW : Hid (Eng w1 B H sg A R M X s6 g9 g10 rv (wrap64 (wt + 1)) tk rs ∧ Tn (· = H) w w1) := hid (by rw [hw1]; exact ⟨E1.out.1, T1.out.trans E1.out.2⟩); clear hw1)
  go_end0
  exact ⟨rfl, EW.out.1, EW.out.2⟩
set_option maxRecDepth 100000 in
set_option maxHeartbeats 1600000 in
theorem notePut_full (B H a : Nat) (sg : Int) (A R M X s6 g9 g10 rv : Value) (wt tk x1 x2 i : Int) (rs : List (Int × Int × Int)) (w : World) (hB : B ≤ w.heap.size) (hl : rs.length ≤ 1048576) (cs : Array Value) (ha : w.heap[a]? = some (.cells cs 155 (0, 0))) (hi : cs[0]? = some (.int .i64 i)) (h : Eng w B H sg A R M X s6 g9 g10 rv wt tk rs) :
    Calls Tryz.prog 108 #[.pointer (some ⟨H, 0, none⟩), .pointer (some ⟨a, 0, none⟩), .agg #[.int .i64 x1, .int .i64 x2], .bool false] w fun e w' => e = .returned (.tuple #[]) ∧ ∃ ra rn rc, Eng w' B H sg A R M X s6 g9 g10 (.slice ra rn rc) wt tk (rs ++ [(2, i, x1)]) ∧ Tn (fun b => b = H ∨ rv.ownBlock = some b) w w' := by
  obtain ⟨U, hU⟩ : ∃ U, U = w.alloc (.cells #[.int .i64 x1, .int .i64 x2] 70) := ⟨_, rfl⟩
  have B1 : Below w.heap.size w U := by rw [hU]; exact below1 _ _
  have u1 : U.heap[w.heap.size]? = some (.cells #[.int .i64 x1, .int .i64 x2] 70 (0, 0)) := by rw [hU]; exact heap_alloc_new _ _
  obtain ⟨y0, y1⟩ := two_cells u1
  have ha1 := block_below ha B1
  have hi1 : U.cell? ⟨a, 0, none⟩ = some (.int .i64 i) := by simp [World.cell?, ha1, hi]
  have hT1 : ∀ b cs' t, t ≠ 100 → t ≠ 106 → U.heap[b]? = some (.cells cs' t (0, 0)) → ¬ (b = H ∨ rv.ownBlock = some b) := by
    rintro b cs' t t1 t2 hb (rfl | e)
    · have := (h.below B1).o
      rw [hb] at this
      simp at this
      exact t1 this.2
    · exact own_far2 (h.below B1).r t2 hb e
  have N1 := hid (hT1 a cs _ (by decide) (by decide) ha1)
  have N2 := hid (hT1 w.heap.size _ _ (by decide) (by decide) u1)
  have HA := hid ha1
  have HU1 := hid u1
  have C := hid (record_any B H sg A R M X s6 g9 g10 rv wt tk rs 2 i x1 U.drew (Nat.le_trans hB B1.size) hl ((h.below B1).below (Below.refl _ _).drew))
  have T1 := hid (Tn.of_below (S := (fun b => b = H ∨ rv.ownBlock = some b)) B1)
  have HU := hid hU
  clear h B1 u1 hU ha ha1 hT1
  go_enter Tryz.func108, Tryz.ntmps108
  go_wp2_with fail
  rw [← HU.out]
  go_region_held3 (fun X => X.cell? ⟨a, 0, none⟩ = some (.int .i64 i) ∧ X.cell? ⟨w.heap.size, 0, none⟩ = some (.int .i64 x1)) (first | (with_reducible exact SX.out) | go_keep)
    (first | (go_at_call 77; with_reducible refine C.out.mono ?_; rintro e w1 ⟨rfl, ra, rn, rc, hE, hT0⟩; have hT := tn_undrew hT0; have EW := hid hE; have TW := hid (T1.out.trans hT); have SX : Hid (w1.cell? ⟨a, 0, none⟩ = some (.int .i64 i) ∧ w1.cell? ⟨w.heap.size, 0, none⟩ = some (.int .i64 x1)) := hid ⟨(cell_same (hT.block a (lt_of_block HA.out) N1.out) 0).trans hi1, (cell_same (hT.block w.heap.size (lt_of_block HU1.out) N2.out) 0).trans y0⟩; clear hE hT hT0))
  all_goals
    go_wp2
    refine bodyPost_ret (results_none rfl _ _ _) rfl ?_
    exact ⟨rfl, ra, rn, rc, EW.out, TW.out⟩
end Go.Proofs.YthaklmdhkkfigaaGreat
namespace Go.Proofs.YthaklmdhkkfigaaGreat
open Go.RowKit Go.Sort
set_option linter.unusedVariables false
attribute [local go_sem ↓] Go.wp_at_zero Go.wp_at_succ

theorem tag_ne {w : World} {a b : Nat} {ca cb : Array Value} {ta tb : TypeId} {fa fb : Nat × Nat} (ha : w.heap[a]? = some (.cells ca ta fa)) (hb : w.heap[b]? = some (.cells cb tb fb)) (h : ta ≠ tb) : a ≠ b := by
  rintro rfl
  rw [ha] at hb
  simp at hb
  exact h hb.2.1
theorem RingAt.boxes {w : World} {B P S cap : Nat} {es : List (Int × Int)} (h : RingAt w B P S cap es) : (∃ c, w.heap[P]? = some (.cells c 182 (0, 0))) ∧ ∃ c, w.heap[S]? = some (.cells c 70 (0, 0)) := by
  obtain ⟨_, _, _, _, f, F, h1, ⟨c, h2, _⟩, _⟩ := h
  exact ⟨⟨_, h1⟩, ⟨_, h2⟩⟩
theorem RingAt.tn {K : Nat → Prop} {w w' : World} {B P S cap : Nat} {es : List (Int × Int)} (h : RingAt w B P S cap es) (t : Tn K w w') (hP : ¬ K P) (hS : ¬ K S) : RingAt w' B P S cap es := by
  obtain ⟨a, b, c, d, f, F, h1, h2, h3, h4⟩ := h
  exact ⟨a, b, c, d, f, F, t.at h1 hP, h2.of_block (t.block _ h2.lt hS), h3, h4⟩
set_option maxRecDepth 100000 in
set_option maxHeartbeats 1600000 in
theorem putLast_room (B H a P S cap : Nat) (sg : Int) (A R M X s6 g9 g10 rv : Value) (wt tk x1 x2 : Int) (rs : List (Int × Int × Int)) (es : List (Int × Int)) (w : World) (cs : Array Value) (ha : w.heap[a]? = some (.cells cs 155 (0, 0))) (hq : cs[17]? = some (.pointer (some ⟨P, 0, none⟩))) (hr : es.length < cap) (hR : RingAt w B P S cap es) (h : Eng w B H sg A R M X s6 g9 g10 rv wt tk rs) :
    Calls Tryz.prog 78 #[.pointer (some ⟨H, 0, none⟩), .pointer (some ⟨a, 0, none⟩), .agg #[.int .i64 x1, .int .i64 x2]] w fun e w' => e = .returned (.tuple #[]) ∧ Eng w' B H sg A R M X s6 g9 g10 rv (wrap64 (wt + 1)) tk rs ∧ RingAt w' B P S cap (es ++ [(x1, x2)]) ∧ Tn (fun b => b = H ∨ b = P ∨ b = S) w w' := by
  obtain ⟨U, hU⟩ : ∃ U, U = w.alloc (.cells #[.int .i64 x1, .int .i64 x2] 70) := ⟨_, rfl⟩
  have B1 : Below w.heap.size w U := by rw [hU]; exact below1 _ _
  have u1 : U.heap[w.heap.size]? = some (.cells #[.int .i64 x1, .int .i64 x2] 70 (0, 0)) := by rw [hU]; exact heap_alloc_new _ _
  obtain ⟨y0, y1⟩ := two_cells u1
  have ha1 := block_below ha B1
  have hi1 : U.cell? ⟨a, 17, none⟩ = some (.pointer (some ⟨P, 0, none⟩)) := by simp [World.cell?, ha1, hq]
  have hE1 := h.below B1
  have hR1 := hR.below B1
  obtain ⟨⟨cP, bP⟩, ⟨cS, bS⟩⟩ := hR1.boxes
  have aP := tag_ne ha1 bP (by decide)
  have aS := tag_ne ha1 bS (by decide)
  have aH := tag_ne ha1 hE1.o (by decide)
  have HP := tag_ne hE1.o bP (by decide)
  have HS := tag_ne hE1.o bS (by decide)
  have wP := tag_ne u1 bP (by decide)
  have wS : w.heap.size ≠ S := by obtain ⟨_, ⟨_, b⟩⟩ := hR.boxes; have := lt_of_block b; omega
  have wH : w.heap.size ≠ H := by have := lt_of_block h.o; omega
  have rP : ∀ b, rv.ownBlock = some b → ¬ (b = P ∨ b = S) := by
    rintro b e (rfl | rfl)
    · exact own_far2 hE1.r (by decide) bP e
    · exact own_far2 hE1.r (by decide) bS e
  have nH : ¬ (H = P ∨ H = S) := fun e => by rcases e with e | e; exact HP e; exact HS e
  have nA : ¬ (a = P ∨ a = S) := fun e => by rcases e with e | e; exact aP e; exact aS e
  have nW : ¬ (w.heap.size = P ∨ w.heap.size = S) := fun e => by rcases e with e | e; exact wP e; exact wS e
  have nAH : ¬ a = H := aH
  have nWH : ¬ w.heap.size = H := wH
  have NN := hid (And.intro nH (And.intro nA nW))
  have C1 := hid (addLast_room B P S cap es x1 x2 U.drew hr (hR1.below (Below.refl _ _).drew))
  have T0 := hid (Tn.of_below (S := fun b => b = H ∨ b = P ∨ b = S) B1)
  have hal := lt_of_block ha1
  have hul := lt_of_block u1
  have HE := hid hE1
  have HU := hid hU
  have RP := hid rP
  clear h hR hE1 hR1 B1 u1 hU ha ha1 bP bS rP nH nA nW
  go_enter Tryz.func78, Tryz.ntmps78
  go_wp2_with fail
  rw [← HU.out]
  go_region_held3 (fun X => X.cell? ⟨a, 17, none⟩ = some (.pointer (some ⟨P, 0, none⟩)) ∧ X.cell? ⟨w.heap.size, 0, none⟩ = some (.int .i64 x1) ∧ X.cell? ⟨w.heap.size, 1, none⟩ = some (.int .i64 x2)) (first | (with_reducible exact SY.out) | (with_reducible exact SX.out) | go_keep)
    (first
      | (go_at_call 109; with_reducible refine C1.out.mono ?_; rintro e w1 ⟨rfl, hr1, ht0⟩; have ht1 := tn_undrew ht0; have R1 := hid hr1; have E1 := hid (HE.out.tn ht1 NN.out.1 RP.out); have T1 := hid ht1; have SX : Hid (w1.cell? ⟨a, 17, none⟩ = some (.pointer (some ⟨P, 0, none⟩)) ∧ w1.cell? ⟨w.heap.size, 0, none⟩ = some (.int .i64 x1) ∧ w1.cell? ⟨w.heap.size, 1, none⟩ = some (.int .i64 x2)) := hid ⟨(cell_same (ht1.block a hal NN.out.2.1) 17).trans hi1, (cell_same (ht1.block w.heap.size hul NN.out.2.2) 0).trans y0, (cell_same (ht1.block w.heap.size hul NN.out.2.2) 1).trans y1⟩; have C2 := hid (notePut_room B H a sg A R M X s6 g9 g10 rv wt tk x1 x2 rs w1 E1.out); have z1 := Nat.lt_of_lt_of_le hal ht1.size; have z2 := Nat.lt_of_lt_of_le hul ht1.size; clear hr1 ht0 ht1)
      | (go_at_call 108; with_reducible refine C2.out.mono ?_; rintro e w2 ⟨rfl, he2, ht2⟩; have E2 := hid he2; have T2 := hid ht2; have SY : Hid (w2.cell? ⟨a, 17, none⟩ = some (.pointer (some ⟨P, 0, none⟩)) ∧ w2.cell? ⟨w.heap.size, 0, none⟩ = some (.int .i64 x1) ∧ w2.cell? ⟨w.heap.size, 1, none⟩ = some (.int .i64 x2)) := hid ⟨(cell_same (ht2.block a z1 nAH) 17).trans SX.out.1, (cell_same (ht2.block w.heap.size z2 nWH) 0).trans SX.out.2.1, (cell_same (ht2.block w.heap.size z2 nWH) 1).trans SX.out.2.2⟩; clear he2 ht2))
  all_goals
    go_wp2
    go_end0
    exact ⟨rfl, E2.out, R1.out.tn T2.out (fun e => HP e.symm) (fun e => HS e.symm), (T0.out.trans (T1.out.mono (fun i _ e => .inr e))).trans (T2.out.mono (fun i _ e => .inl e))⟩
end Go.Proofs.YthaklmdhkkfigaaGreat
namespace Go.Proofs.YthaklmdhkkfigaaGreat
open Go.RowKit Go.Sort
set_option linter.unusedVariables false
attribute [local go_sem ↓] Go.wp_at_zero Go.wp_at_succ

theorem undrewL {w w' : World} (h : Below w.drew.heap.size w.drew w') : Below w.heap.size w w' := ⟨h.os, h.tape, h.output, h.size, h.block⟩
set_option maxRecDepth 100000 in
set_option maxHeartbeats 1600000 in
theorem putLast_full (B H a P S cap : Nat) (sg : Int) (A R M X s6 g9 g10 rv : Value) (wt tk x1 x2 i : Int) (rs : List (Int × Int × Int)) (es : List (Int × Int)) (w : World) (cs : Array Value) (hB : B ≤ w.heap.size) (hl : rs.length ≤ 1048576) (ha : w.heap[a]? = some (.cells cs 155 (0, 0))) (hi : cs[0]? = some (.int .i64 i)) (hq : cs[17]? = some (.pointer (some ⟨P, 0, none⟩))) (hr : es.length = cap) (hR : RingAt w B P S cap es) (h : Eng w B H sg A R M X s6 g9 g10 rv wt tk rs) :
    Calls Tryz.prog 78 #[.pointer (some ⟨H, 0, none⟩), .pointer (some ⟨a, 0, none⟩), .agg #[.int .i64 x1, .int .i64 x2]] w fun e w' => e = .returned (.tuple #[]) ∧ (∃ ra rn rc, Eng w' B H sg A R M X s6 g9 g10 (.slice ra rn rc) wt tk (rs ++ [(2, i, x1)])) ∧ Tn (fun b => b = H ∨ rv.ownBlock = some b) w w' := by
  obtain ⟨U, hU⟩ : ∃ U, U = w.alloc (.cells #[.int .i64 x1, .int .i64 x2] 70) := ⟨_, rfl⟩
  have B1 : Below w.heap.size w U := by rw [hU]; exact below1 _ _
  have u1 : U.heap[w.heap.size]? = some (.cells #[.int .i64 x1, .int .i64 x2] 70 (0, 0)) := by rw [hU]; exact heap_alloc_new _ _
  obtain ⟨y0, y1⟩ := two_cells u1
  have ha1 := block_below ha B1
  have hi1 : U.cell? ⟨a, 17, none⟩ = some (.pointer (some ⟨P, 0, none⟩)) := by simp [World.cell?, ha1, hq]
  have hE1 := h.below B1
  have C1 := hid (addLast_full B P S cap es x1 x2 U.drew hr ((hR.below B1).below (Below.refl _ _).drew))
  have T0 := hid (Tn.of_below (S := fun b => b = H ∨ rv.ownBlock = some b) B1)
  have far : ∀ Z, Below U.heap.size U Z → (¬ (a = H ∨ rv.ownBlock = some a)) ∧ ¬ (w.heap.size = H ∨ rv.ownBlock = some w.heap.size) := fun Z _ => by
    refine ⟨?_, ?_⟩
    · rintro (e | e)
      · exact tag_ne ha1 hE1.o (by decide) e
      · exact own_far2 hE1.r (by decide) ha1 e
    · rintro (e | e)
      · exact tag_ne u1 hE1.o (by decide) e
      · exact own_far2 hE1.r (by decide) u1 e
  have FA := hid (far U (Below.refl _ _))
  have hal := lt_of_block ha1
  have hul := lt_of_block u1
  have hBU := hid (Nat.le_trans hB B1.size)
  have HE := hid hE1
  have HA := hid ha1
  have HU1 := hid u1
  have HU := hid hU
  clear h hR hE1 B1 u1 hU ha ha1 far
  go_enter Tryz.func78, Tryz.ntmps78
  go_wp2_with fail
  rw [← HU.out]
  go_region_held3 (fun X => X.cell? ⟨a, 17, none⟩ = some (.pointer (some ⟨P, 0, none⟩)) ∧ X.cell? ⟨w.heap.size, 0, none⟩ = some (.int .i64 x1) ∧ X.cell? ⟨w.heap.size, 1, none⟩ = some (.int .i64 x2)) (first | (with_reducible exact SY.out) | (with_reducible exact SX.out) | go_keep)
    (first
      | (go_at_call 109; with_reducible refine C1.out.mono ?_; rintro e w1 ⟨rfl, hb0⟩; have hb := undrewL hb0; have BB := hid hb; have A1 := hid (block_below HA.out hb); have E1 := hid (HE.out.below hb); have SX : Hid (w1.cell? ⟨a, 17, none⟩ = some (.pointer (some ⟨P, 0, none⟩)) ∧ w1.cell? ⟨w.heap.size, 0, none⟩ = some (.int .i64 x1) ∧ w1.cell? ⟨w.heap.size, 1, none⟩ = some (.int .i64 x2)) := hid ⟨(cell_same (hb.block a hal) 17).trans hi1, (cell_same (hb.block w.heap.size hul) 0).trans y0, (cell_same (hb.block w.heap.size hul) 1).trans y1⟩; have C2 := hid (notePut_full B H a sg A R M X s6 g9 g10 rv wt tk x1 x2 i rs w1 (Nat.le_trans hBU.out hb.size) hl cs A1.out hi E1.out); have z1 := Nat.lt_of_lt_of_le hal hb.size; have z2 := Nat.lt_of_lt_of_le hul hb.size; clear hb0 hb)
      | (go_at_call 108; with_reducible refine C2.out.mono ?_; rintro e w2 ⟨rfl, ra, rn, rc, he2, ht2⟩; have E2 := hid he2; have T2 := hid ht2; have SY : Hid (w2.cell? ⟨a, 17, none⟩ = some (.pointer (some ⟨P, 0, none⟩)) ∧ w2.cell? ⟨w.heap.size, 0, none⟩ = some (.int .i64 x1) ∧ w2.cell? ⟨w.heap.size, 1, none⟩ = some (.int .i64 x2)) := hid ⟨(cell_same (ht2.block a z1 FA.out.1) 17).trans SX.out.1, (cell_same (ht2.block w.heap.size z2 FA.out.2) 0).trans SX.out.2.1, (cell_same (ht2.block w.heap.size z2 FA.out.2) 1).trans SX.out.2.2⟩; clear he2 ht2))
  all_goals
    go_wp2
    go_end0
    exact ⟨rfl, ⟨_, _, _, E2.out⟩, (T0.out.trans (Tn.of_below BB.out)).trans T2.out⟩
end Go.Proofs.YthaklmdhkkfigaaGreat
