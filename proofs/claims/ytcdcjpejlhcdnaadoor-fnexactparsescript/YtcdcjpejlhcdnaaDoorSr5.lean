import Derived.Test.YtcdcjpejlhcdnaaDoorSr4
import Derived.Lib.Builder
namespace Go.Proofs.YtcdcjpejlhcdnaaDoor
open Go.RowKit Go.Sort
set_option linter.unusedVariables false
attribute [local go_sem ↓] Go.wp_at_zero Go.wp_at_succ

/-- An item of a script. -/
structure ScI where
  k : Int
  o : Int
  s : Int
  v : Int
def kPost : List UInt8 := [112, 111, 115, 116]
def kPub : List UInt8 := [112, 117, 98, 108, 105, 115, 104]
def kTick : List UInt8 := [116, 105, 99, 107]
def kRun : List UInt8 := [114, 117, 110]
/-- The item that a line's fields are. -/
def itemP (r : List (List UInt8)) : Option ScI := match nums r with | some [a, b, c] => some ⟨1, a, b, c⟩ | _ => none
def itemU (r : List (List UInt8)) : Option ScI := match nums r with | some [a, b] => some ⟨2, 0, a, b⟩ | _ => none
def itemT (r : List (List UInt8)) : Option ScI := match nums r with | some [a] => if 1 ≤ a ∧ a ≤ 100 then some ⟨3, 0, 0, a⟩ else none | _ => none
def itemR (r : List (List UInt8)) : Option ScI := match nums r with | some [a] => if 0 ≤ a ∧ a ≤ 10000 then some ⟨4, 0, 0, a⟩ else none | _ => none
def itemOf (fs : List (List UInt8)) : Option ScI :=
  if fs.getD 0 [] = kPost then itemP fs.tail else if fs.getD 0 [] = kPub then itemU fs.tail else if fs.getD 0 [] = kTick then itemT fs.tail else if fs.getD 0 [] = kRun then itemR fs.tail else none
def itemB (l : List UInt8) : Prop := True
/-- How an item is answered. -/
def itemE (o : Option ScI) (e : Ending) : Prop := ∃ x : ScI, e = .returned (.tuple #[.agg #[.int .i64 x.k, .int .i64 x.o, .int .i64 x.s, .int .i64 x.v], .bool o.isSome]) ∧ ∀ y, o = some y → x = y
theorem itemE_no {o : Option ScI} (h : o = none) (k a s v : Int) : itemE o (.returned (.tuple #[.agg #[.int .i64 k, .int .i64 a, .int .i64 s, .int .i64 v], .bool false])) := ⟨⟨k, a, s, v⟩, by rw [h]; rfl, fun y hy => by rw [h] at hy; cases hy⟩
theorem itemE_yes {o : Option ScI} {k a s v : Int} (h : o = some ⟨k, a, s, v⟩) : itemE o (.returned (.tuple #[.agg #[.int .i64 k, .int .i64 a, .int .i64 s, .int .i64 v], .bool true])) := ⟨⟨k, a, s, v⟩, by rw [h]; rfl, fun y hy => by rw [h] at hy; injection hy⟩
/-- The count that a keyword asks for. -/
def kwds : List (List UInt8) := [kPost, kPub, kTick, kRun]
def cnts : List Int := [3, 2, 1, 1]
theorem place_kwds (x : List UInt8) : placeN kwds x 0 = if x = kPost then 0 else if x = kPub then 1 else if x = kTick then 2 else if x = kRun then 3 else -1 := by
  simp only [placeN, kwds]
  simp only [eq_comm]
  rfl
theorem nums_all (fs : List (List UInt8)) : numsN fs fs.length = nums fs := by unfold numsN; rw [if_pos (Nat.le_refl _), List.take_length]

abbrev wItem (w : World) : World := ((w.alloc (.cells #[.int .i64 0, .int .i64 0, .int .i64 0, .int .i64 0] 31)).alloc (.cells #[.int .i64 3, .int .i64 2, .int .i64 1, .int .i64 1] 3)).alloc (.cells #[.string ⟨#[112, 111, 115, 116]⟩, .string ⟨#[112, 117, 98, 108, 105, 115, 104]⟩, .string ⟨#[116, 105, 99, 107]⟩, .string ⟨#[114, 117, 110]⟩] 9)
theorem new_cell (w : World) (cs : Array Value) (t : TypeId) (i : Nat) (v : Value) (h : cs[i]? = some v) : (w.alloc (.cells cs t)).cell? ⟨w.heap.size, i, none⟩ = some v := by
  have := heap_alloc_new w (.cells cs t)
  unfold World.cell?
  simp only []
  rw [this]
  exact h
theorem kwds_at (w : World) : StrsOf (wItem w) (some ⟨w.heap.size + 1 + 1, 0, none⟩) 4 kwds :=
  ⟨rfl, fun _ => ⟨_, 0, rfl, by simp, fun i hi => by
    have : i = 0 ∨ i = 1 ∨ i = 2 ∨ i = 3 := by omega
    have hz : ((w.alloc (.cells #[.int .i64 0, .int .i64 0, .int .i64 0, .int .i64 0] 31)).alloc (.cells #[.int .i64 3, .int .i64 2, .int .i64 1, .int .i64 1] 3)).heap.size = w.heap.size + 1 + 1 := by simp
    unfold wItem
    rw [← hz, Nat.zero_add]
    refine new_cell _ _ _ _ _ ?_
    rcases this with rfl | rfl | rfl | rfl <;> rfl⟩⟩
theorem wItem_old (w : World) {b off : Nat} {v : Value} (h : w.cell? ⟨b, off, none⟩ = some v) (hb : b < w.heap.size) : (wItem w).cell? ⟨b, off, none⟩ = some v := ((below3 w _ _ _).cell (p := ⟨b, off, none⟩) hb).trans h
theorem wItem_cnt (w : World) : (wItem w).cell? ⟨w.heap.size + 1, 0, none⟩ = some (.int .i64 3) ∧ (wItem w).cell? ⟨w.heap.size + 1, 1, none⟩ = some (.int .i64 2) ∧ (wItem w).cell? ⟨w.heap.size + 1, 2, none⟩ = some (.int .i64 1) ∧ (wItem w).cell? ⟨w.heap.size + 1, 3, none⟩ = some (.int .i64 1) := by
  have hz : (w.alloc (.cells #[.int .i64 0, .int .i64 0, .int .i64 0, .int .i64 0] 31)).heap.size = w.heap.size + 1 := by simp
  refine ⟨?_, ?_, ?_, ?_⟩ <;> (unfold wItem; rw [World.cell?_alloc_lt _ _ _ (by simp), ← hz]; exact new_cell _ _ _ _ _ rfl)
theorem wItem_res (w : World) (i : Nat) (hi : i < 4) : (wItem w).cell? ⟨w.heap.size, i, none⟩ = some (.int .i64 0) := by
  unfold wItem
  rw [World.cell?_alloc_lt _ _ _ (by simp; omega), World.cell?_alloc_lt _ _ _ (by simp)]
  refine new_cell _ _ _ _ _ ?_
  have : i = 0 ∨ i = 1 ∨ i = 2 ∨ i = 3 := by omega
  rcases this with rfl | rfl | rfl | rfl <;> rfl
theorem ints_at {w : World} {B : Nat} {v : Value} {zs : List Int} (h : IntRow w B v zs) (h0 : 0 < zs.length) : ∃ g cap, v = .slice (some ⟨g, 0, none⟩) zs.length cap ∧ B ≤ g ∧ g < w.heap.size ∧ ∀ i, i < zs.length → w.cell? ⟨g, i, none⟩ = some (.int .i64 (zs.getD i 0)) := by
  rcases h.2 with ⟨_, h1⟩ | ⟨g, cap, cur, h1, h2, h3, h4⟩
  · omega
  · refine ⟨g, cap, h1, h2, lt_of_block h3, fun i hi => ?_⟩
    have := World.ownsRow.cells (g := g) h (by rw [h1]; rfl) i (.int .i64 (zs.getD i 0)) (by simp [List.getD_eq_getElem?_getD, hi])
    simpa [addr_plus] using this
theorem set4 {w : World} {H : Nat} {a b c d : Value} {t : TypeId} (k : w.heap[H]? = some (.cells #[a, b, c, d] t (0, 0))) (v0 v1 v2 v3 : Value) : ((((w.setCell ⟨H, 0, none⟩ v0).setCell ⟨H, 1, none⟩ v1).setCell ⟨H, 2, none⟩ v2).setCell ⟨H, 3, none⟩ v3).heap[H]? = some (.cells #[v0, v1, v2, v3] t (0, 0)) := by
  have h0 := heap_setCell_same w H 0 _ _ v0 k
  have h1 := heap_setCell_same _ H 1 _ _ v1 h0
  have h2 := heap_setCell_same _ H 2 _ _ v2 h1
  have h3 := heap_setCell_same _ H 3 _ _ v3 h2
  simpa using h3
theorem below_set4 {B H : Nat} {w w2 : World} (h : Below B w w2) (hB : B ≤ H) (v0 v1 v2 v3 : Value) : Below B w ((((w2.setCell ⟨H, 0, none⟩ v0).setCell ⟨H, 1, none⟩ v1).setCell ⟨H, 2, none⟩ v2).setCell ⟨H, 3, none⟩ v3) :=
  (((h.setCell (p := ⟨H, 0, none⟩) hB v0).setCell (p := ⟨H, 1, none⟩) hB v1).setCell (p := ⟨H, 2, none⟩) hB v2).setCell (p := ⟨H, 3, none⟩) hB v3
theorem l1Bet (x lo hi : Int) (b : Bool) (h : b = decide (lo ≤ x ∧ x ≤ hi)) (w : World) : Calls Tryd.prog 16 #[.int .i64 x, .int .i64 lo, .int .i64 hi] w fun e w' => e = .returned (.bool b) ∧ w' = w := by
  rw [h]; exact l1Between_any x lo hi w

set_option maxRecDepth 100000 in
set_option maxHeartbeats 3200000 in
theorem item_post (b off n c : Nat) (fs : List (List UInt8)) (w : World) (hn : n + 1 ≤ 1048576) (hc : n + 1 ≤ c) (hf : ∀ f ∈ fs, f.length ≤ 1048576) (h : StrsOf w (some ⟨b, off, none⟩) (n + 1) fs) (hx : fs.getD 0 [] = kPost) :
    Calls Tryd.prog 10 #[.slice (some ⟨b, off, none⟩) (n + 1) c] w fun e w' => itemE (itemP fs.tail) e ∧ Below w.heap.size w w' := by
  obtain ⟨c0, hbl, ht⟩ := h.one
  have HL := hid h.1
  rw [hx] at c0
  obtain ⟨s, hs⟩ : ∃ s : ByteArray, s = ⟨kPost.toArray⟩ := ⟨_, rfl⟩
  have c0' : w.cell? ⟨b, off, none⟩ = some (.string s) := by rw [hs]; exact c0
  have PL := hid (l5Place_any (some ⟨w.heap.size + 1 + 1, 0, none⟩) 4 4 kwds s (wItem w) (by decide) (kwds_at w))
  have e0 : placeN kwds (bl s) 0 = 0 := by rw [place_kwds, hs]; rfl
  rw [e0] at PL
  have c3 := wItem_old w c0' hbl
  obtain ⟨n0, n1, n2, n3⟩ := wItem_cnt w
  clear c0 hs e0 hx
  by_cases h3 : n = 3
  · subst h3
    have T := hid (ht (some ⟨b, off + 1, none⟩) (.inl rfl))
    have TL : fs.tail.length = 3 := by have := HL.out; simp at *; omega
    have en : numsN fs.tail 3 = nums fs.tail := by rw [← TL]; exact nums_all _
    have C : Hid (∀ W, Below w.heap.size w W → Calls Tryd.prog 15 #[.slice (some ⟨b, off + 1, none⟩) 3 (c - 1), .int .i64 3] W fun e w' => (∃ v, e = .returned (.tuple #[v, .bool (nums fs.tail).isSome]) ∧ (∃ a l c, v = .slice a l c) ∧ ∀ zs, nums fs.tail = some zs → IntRow w' W.heap.size v zs) ∧ Below W.heap.size W w') := hid (fun W hW => by
      have := l5Numbers_any (some ⟨b, off + 1, none⟩) 3 (c - 1) 3 fs.tail W (by decide) (by decide) (fun f hf' => hf f (List.mem_of_mem_tail hf')) (T.out.below hW)
      rw [en] at this
      exact this)
    have hc1 : ¬ c = 1 := by omega
    have NI : Hid (∀ z, nums fs.tail = some z → ∃ p q r, z = [p, q, r]) := hid (by
      intro z hz
      have := nums_len hz
      rw [TL] at this
      match z, this with
      | [p, q, r], _ => exact ⟨p, q, r, rfl⟩)
    have n0' := n0
    have BW : Below w.heap.size w (wItem w) := below3 _ _ _ _
    have QW : (wItem w).heap[w.heap.size]? = some (.cells #[.int .i64 0, .int .i64 0, .int .i64 0, .int .i64 0] 31 (0, 0)) := block_below (heap_alloc_new w _) (below2 _ _ _)
    obtain ⟨W, hW⟩ : ∃ W, W = wItem w := ⟨_, rfl⟩
    rw [← hW] at n0' BW QW
    have HW := hid hW
    have HBW := hid BW
    have HQW := hid QW
    have hzW := lt_of_block QW
    dsimp only [wItem] at c3 n0 n1 n2 n3
    clear h ht TL en hW BW QW
    go_enter Tryd.func10, Tryd.ntmps10
    go_wp2_with (go_at_call 14; with_reducible refine PL.out.mono ?_; rintro e w1 ⟨rfl, hw1⟩; obtain rfl := hw1.symm)
    rw [← HW.out]
    clear c3 n0 n1 n2 n3 HW PL
    go_region_with (go_at_call 15; with_reducible refine (C.out _ (HBW.out.trans ((Below.refl _ _).drew))).mono ?_; rintro e w2 ⟨⟨v, rfl, ⟨va, vl, vc, rfl⟩, hv⟩, hb2⟩; have HV := hid hv; have B2 := hid hb2; clear hv hb2)
    all_goals
      have HQ2 := hid (block_below (show W.drew.heap[w.heap.size]? = _ from HQW.out) B2.out)
      have BT := hid (HBW.out.trans ((((Below.refl _ _).drew).trans B2.out).mono HBW.out.size))
      obtain ⟨q0, q1, q2, q3⟩ := quad_cells HQ2.out
      have fz := fun i => Lib.frozen_of_heap HQ2.out i
      have hz2 := lt_of_block HQ2.out
      cases hz : nums fs.tail with
      | none =>
        have NO : Hid (itemP fs.tail = none) := hid (by unfold itemP; rw [hz])
        clear HV NI hz
        go_wp2
        obtain ⟨u0, u1, u2, u3⟩ := quad_cells (set4 HQ2.out (.int .i64 0) (.int .i64 0) (.int .i64 0) (.int .i64 0))
        exact bodyPost_ret (v := .tuple #[.agg #[.int .i64 0, .int .i64 0, .int .i64 0, .int .i64 0], .bool false]) (by simp [results, Tryd.results10, go_sem, u0, u1, u2, u3]) rfl ⟨itemE_no NO.out _ _ _ _, below_set4 BT.out (Nat.le_refl _) _ _ _ _⟩
      | some z =>
        obtain ⟨x, y, u, rfl⟩ := NI.out z hz
        obtain ⟨g, cap, hvv, hg1, hg2, hgc⟩ := ints_at (HV.out _ hz) (by simp)
        simp only [Value.slice.injEq] at hvv
        obtain ⟨rfl, rfl, rfl⟩ := hvv
        have g0 : w2.cell? ⟨g, 0, none⟩ = some (.int .i64 x) := hgc 0 (by simp)
        have g1 : w2.cell? ⟨g, 1, none⟩ = some (.int .i64 y) := hgc 1 (by simp)
        have g2 : w2.cell? ⟨g, 2, none⟩ = some (.int .i64 u) := hgc 2 (by simp)
        have YES : Hid (itemP fs.tail = some ⟨1, x, y, u⟩) := hid (by unfold itemP; rw [hz])
        clear HV NI hz hgc
        go_wp2
        go_region
        all_goals
          go_wp2
          obtain ⟨u0, u1, u2, u3⟩ := quad_cells (set4 HQ2.out (.int .i64 1) (.int .i64 x) (.int .i64 y) (.int .i64 u))
          exact bodyPost_ret (v := .tuple #[.agg #[.int .i64 1, .int .i64 x, .int .i64 y, .int .i64 u], .bool true]) (by simp [results, Tryd.results10, go_sem, u0, u1, u2, u3]) rfl ⟨itemE_yes YES.out, (below_set4 BT.out (Nat.le_refl _) _ _ _ _).trans ((Below.refl _ _).drew)⟩
  · have h3' : ((n : Int) + 1 != 4) = true := by simp; omega
    have NO : Hid (itemP fs.tail = none) := hid (by
      unfold itemP
      split
      · rename_i e
        have := nums_len e
        have := HL.out
        simp at *
        omega
      · rfl)
    dsimp only [wItem] at c3 n0 n1 n2 n3
    clear h ht
    go_enter Tryd.func10, Tryd.ntmps10
    go_wp2_with (go_at_call 14; with_reducible refine PL.out.mono ?_; rintro e w1 ⟨rfl, hw1⟩; obtain rfl := hw1.symm)
    have r0 := wItem_res w 0 (by decide)
    have r1 := wItem_res w 1 (by decide)
    have r2 := wItem_res w 2 (by decide)
    have r3 := wItem_res w 3 (by decide)
    exact bodyPost_ret (v := .tuple #[.agg #[.int .i64 0, .int .i64 0, .int .i64 0, .int .i64 0], .bool false]) (by simp [results, Tryd.results10, go_sem, r0, r1, r2, r3]) rfl ⟨itemE_no NO.out _ _ _ _, below3 _ _ _ _⟩

set_option maxRecDepth 100000 in
set_option maxHeartbeats 3200000 in
theorem item_pub (b off n c : Nat) (fs : List (List UInt8)) (w : World) (hn : n + 1 ≤ 1048576) (hc : n + 1 ≤ c) (hf : ∀ f ∈ fs, f.length ≤ 1048576) (h : StrsOf w (some ⟨b, off, none⟩) (n + 1) fs) (hx : fs.getD 0 [] = kPub) :
    Calls Tryd.prog 10 #[.slice (some ⟨b, off, none⟩) (n + 1) c] w fun e w' => itemE (itemU fs.tail) e ∧ Below w.heap.size w w' := by
  obtain ⟨c0, hbl, ht⟩ := h.one
  have HL := hid h.1
  rw [hx] at c0
  obtain ⟨s, hs⟩ : ∃ s : ByteArray, s = ⟨kPub.toArray⟩ := ⟨_, rfl⟩
  have c0' : w.cell? ⟨b, off, none⟩ = some (.string s) := by rw [hs]; exact c0
  have PL := hid (l5Place_any (some ⟨w.heap.size + 1 + 1, 0, none⟩) 4 4 kwds s (wItem w) (by decide) (kwds_at w))
  have e0 : placeN kwds (bl s) 0 = 1 := by rw [place_kwds, hs]; rfl
  rw [e0] at PL
  have c3 := wItem_old w c0' hbl
  obtain ⟨n0, n1, n2, n3⟩ := wItem_cnt w
  clear c0 hs e0 hx
  by_cases h3 : n = 2
  · subst h3
    have T := hid (ht (some ⟨b, off + 1, none⟩) (.inl rfl))
    have TL : fs.tail.length = 2 := by have := HL.out; simp at *; omega
    have en : numsN fs.tail 2 = nums fs.tail := by rw [← TL]; exact nums_all _
    have C : Hid (∀ W, Below w.heap.size w W → Calls Tryd.prog 15 #[.slice (some ⟨b, off + 1, none⟩) 2 (c - 1), .int .i64 2] W fun e w' => (∃ v, e = .returned (.tuple #[v, .bool (nums fs.tail).isSome]) ∧ (∃ a l c, v = .slice a l c) ∧ ∀ zs, nums fs.tail = some zs → IntRow w' W.heap.size v zs) ∧ Below W.heap.size W w') := hid (fun W hW => by
      have := l5Numbers_any (some ⟨b, off + 1, none⟩) 2 (c - 1) 2 fs.tail W (by decide) (by decide) (fun f hf' => hf f (List.mem_of_mem_tail hf')) (T.out.below hW)
      rw [en] at this
      exact this)
    have hc1 : ¬ c = 1 := by omega
    have NI : Hid (∀ z, nums fs.tail = some z → ∃ p q, z = [p, q]) := hid (by
      intro z hz
      have := nums_len hz
      rw [TL] at this
      match z, this with
      | [p, q], _ => exact ⟨p, q, rfl⟩)
    have n1' := n1
    have BW : Below w.heap.size w (wItem w) := below3 _ _ _ _
    have QW : (wItem w).heap[w.heap.size]? = some (.cells #[.int .i64 0, .int .i64 0, .int .i64 0, .int .i64 0] 31 (0, 0)) := block_below (heap_alloc_new w _) (below2 _ _ _)
    obtain ⟨W, hW⟩ : ∃ W, W = wItem w := ⟨_, rfl⟩
    rw [← hW] at n1' BW QW
    have HW := hid hW
    have HBW := hid BW
    have HQW := hid QW
    have hzW := lt_of_block QW
    dsimp only [wItem] at c3 n0 n1 n2 n3
    clear h ht TL en hW BW QW
    go_enter Tryd.func10, Tryd.ntmps10
    go_wp2_with (go_at_call 14; with_reducible refine PL.out.mono ?_; rintro e w1 ⟨rfl, hw1⟩; obtain rfl := hw1.symm)
    rw [← HW.out]
    clear c3 n0 n1 n2 n3 HW PL
    go_region_with (go_at_call 15; with_reducible refine (C.out _ (HBW.out.trans ((Below.refl _ _).drew))).mono ?_; rintro e w2 ⟨⟨v, rfl, ⟨va, vl, vc, rfl⟩, hv⟩, hb2⟩; have HV := hid hv; have B2 := hid hb2; clear hv hb2)
    all_goals
      have HQ2 := hid (block_below (show W.drew.heap[w.heap.size]? = _ from HQW.out) B2.out)
      have BT := hid (HBW.out.trans ((((Below.refl _ _).drew).trans B2.out).mono HBW.out.size))
      obtain ⟨q0, q1, q2, q3⟩ := quad_cells HQ2.out
      have fz := fun i => Lib.frozen_of_heap HQ2.out i
      have hz2 := lt_of_block HQ2.out
      cases hz : nums fs.tail with
      | none =>
        have NO : Hid (itemU fs.tail = none) := hid (by unfold itemU; rw [hz])
        clear HV NI hz
        go_wp2
        obtain ⟨u0, u1, u2, u3⟩ := quad_cells (set4 HQ2.out (.int .i64 0) (.int .i64 0) (.int .i64 0) (.int .i64 0))
        exact bodyPost_ret (v := .tuple #[.agg #[.int .i64 0, .int .i64 0, .int .i64 0, .int .i64 0], .bool false]) (by simp [results, Tryd.results10, go_sem, u0, u1, u2, u3]) rfl ⟨itemE_no NO.out _ _ _ _, below_set4 BT.out (Nat.le_refl _) _ _ _ _⟩
      | some z =>
        obtain ⟨x, y, rfl⟩ := NI.out z hz
        obtain ⟨g, cap, hvv, hg1, hg2, hgc⟩ := ints_at (HV.out _ hz) (by simp)
        simp only [Value.slice.injEq] at hvv
        obtain ⟨rfl, rfl, rfl⟩ := hvv
        have g0 : w2.cell? ⟨g, 0, none⟩ = some (.int .i64 x) := hgc 0 (by simp)
        have g1 : w2.cell? ⟨g, 1, none⟩ = some (.int .i64 y) := hgc 1 (by simp)
        have YES : Hid (itemU fs.tail = some ⟨2, 0, x, y⟩) := hid (by unfold itemU; rw [hz])
        clear HV NI hz hgc
        go_wp2
        go_region
        all_goals
          go_wp2
          obtain ⟨u0, u1, u2, u3⟩ := quad_cells (set4 HQ2.out (.int .i64 2) (.int .i64 0) (.int .i64 x) (.int .i64 y))
          exact bodyPost_ret (v := .tuple #[.agg #[.int .i64 2, .int .i64 0, .int .i64 x, .int .i64 y], .bool true]) (by simp [results, Tryd.results10, go_sem, u0, u1, u2, u3]) rfl ⟨itemE_yes YES.out, (below_set4 BT.out (Nat.le_refl _) _ _ _ _).trans ((Below.refl _ _).drew)⟩
  · have h3' : ((n : Int) + 1 != 3) = true := by simp; omega
    have NO : Hid (itemU fs.tail = none) := hid (by
      unfold itemU
      split
      · rename_i e
        have := nums_len e
        have := HL.out
        simp at *
        omega
      · rfl)
    dsimp only [wItem] at c3 n0 n1 n2 n3
    clear h ht
    go_enter Tryd.func10, Tryd.ntmps10
    go_wp2_with (go_at_call 14; with_reducible refine PL.out.mono ?_; rintro e w1 ⟨rfl, hw1⟩; obtain rfl := hw1.symm)
    have r0 := wItem_res w 0 (by decide)
    have r1 := wItem_res w 1 (by decide)
    have r2 := wItem_res w 2 (by decide)
    have r3 := wItem_res w 3 (by decide)
    exact bodyPost_ret (v := .tuple #[.agg #[.int .i64 0, .int .i64 0, .int .i64 0, .int .i64 0], .bool false]) (by simp [results, Tryd.results10, go_sem, r0, r1, r2, r3]) rfl ⟨itemE_no NO.out _ _ _ _, below3 _ _ _ _⟩

set_option maxRecDepth 100000 in
set_option maxHeartbeats 3200000 in
theorem item_tick (b off n c : Nat) (fs : List (List UInt8)) (w : World) (hn : n + 1 ≤ 1048576) (hc : n + 1 ≤ c) (hf : ∀ f ∈ fs, f.length ≤ 1048576) (h : StrsOf w (some ⟨b, off, none⟩) (n + 1) fs) (hx : fs.getD 0 [] = kTick) :
    Calls Tryd.prog 10 #[.slice (some ⟨b, off, none⟩) (n + 1) c] w fun e w' => itemE (itemT fs.tail) e ∧ Below w.heap.size w w' := by
  obtain ⟨c0, hbl, ht⟩ := h.one
  have HL := hid h.1
  rw [hx] at c0
  obtain ⟨s, hs⟩ : ∃ s : ByteArray, s = ⟨kTick.toArray⟩ := ⟨_, rfl⟩
  have c0' : w.cell? ⟨b, off, none⟩ = some (.string s) := by rw [hs]; exact c0
  have PL := hid (l5Place_any (some ⟨w.heap.size + 1 + 1, 0, none⟩) 4 4 kwds s (wItem w) (by decide) (kwds_at w))
  have e0 : placeN kwds (bl s) 0 = 2 := by rw [place_kwds, hs]; rfl
  rw [e0] at PL
  have c3 := wItem_old w c0' hbl
  obtain ⟨n0, n1, n2, n3⟩ := wItem_cnt w
  clear c0 hs e0 hx
  by_cases h3 : n = 1
  · subst h3
    have T := hid (ht (some ⟨b, off + 1, none⟩) (.inl rfl))
    have TL : fs.tail.length = 1 := by have := HL.out; simp at *; omega
    have en : numsN fs.tail 1 = nums fs.tail := by rw [← TL]; exact nums_all _
    have C : Hid (∀ W, Below w.heap.size w W → Calls Tryd.prog 15 #[.slice (some ⟨b, off + 1, none⟩) 1 (c - 1), .int .i64 1] W fun e w' => (∃ v, e = .returned (.tuple #[v, .bool (nums fs.tail).isSome]) ∧ (∃ a l c, v = .slice a l c) ∧ ∀ zs, nums fs.tail = some zs → IntRow w' W.heap.size v zs) ∧ Below W.heap.size W w') := hid (fun W hW => by
      have := l5Numbers_any (some ⟨b, off + 1, none⟩) 1 (c - 1) 1 fs.tail W (by decide) (by decide) (fun f hf' => hf f (List.mem_of_mem_tail hf')) (T.out.below hW)
      rw [en] at this
      exact this)
    have hc1 : ¬ c = 1 := by omega
    have NI : Hid (∀ z, nums fs.tail = some z → ∃ p, z = [p]) := hid (by
      intro z hz
      have := nums_len hz
      rw [TL] at this
      match z, this with
      | [p], _ => exact ⟨p, rfl⟩)
    have n2' := n2
    have BW : Below w.heap.size w (wItem w) := below3 _ _ _ _
    have QW : (wItem w).heap[w.heap.size]? = some (.cells #[.int .i64 0, .int .i64 0, .int .i64 0, .int .i64 0] 31 (0, 0)) := block_below (heap_alloc_new w _) (below2 _ _ _)
    obtain ⟨W, hW⟩ : ∃ W, W = wItem w := ⟨_, rfl⟩
    rw [← hW] at n2' BW QW
    have HW := hid hW
    have HBW := hid BW
    have HQW := hid QW
    have hzW := lt_of_block QW
    dsimp only [wItem] at c3 n0 n1 n2 n3
    clear h ht TL en hW BW QW
    go_enter Tryd.func10, Tryd.ntmps10
    go_wp2_with (go_at_call 14; with_reducible refine PL.out.mono ?_; rintro e w1 ⟨rfl, hw1⟩; obtain rfl := hw1.symm)
    rw [← HW.out]
    clear c3 n0 n1 n2 n3 HW PL
    go_region_with (go_at_call 15; with_reducible refine (C.out _ (HBW.out.trans ((Below.refl _ _).drew))).mono ?_; rintro e w2 ⟨⟨v, rfl, ⟨va, vl, vc, rfl⟩, hv⟩, hb2⟩; have HV := hid hv; have B2 := hid hb2; clear hv hb2)
    all_goals
      have HQ2 := hid (block_below (show W.drew.heap[w.heap.size]? = _ from HQW.out) B2.out)
      have BT := hid (HBW.out.trans ((((Below.refl _ _).drew).trans B2.out).mono HBW.out.size))
      obtain ⟨q0, q1, q2, q3⟩ := quad_cells HQ2.out
      have fz := fun i => Lib.frozen_of_heap HQ2.out i
      have hz2 := lt_of_block HQ2.out
      cases hz : nums fs.tail with
      | none =>
        have NO : Hid (itemT fs.tail = none) := hid (by unfold itemT; rw [hz])
        clear HV NI hz
        go_wp2
        obtain ⟨u0, u1, u2, u3⟩ := quad_cells (set4 HQ2.out (.int .i64 0) (.int .i64 0) (.int .i64 0) (.int .i64 0))
        exact bodyPost_ret (v := .tuple #[.agg #[.int .i64 0, .int .i64 0, .int .i64 0, .int .i64 0], .bool false]) (by simp [results, Tryd.results10, go_sem, u0, u1, u2, u3]) rfl ⟨itemE_no NO.out _ _ _ _, below_set4 BT.out (Nat.le_refl _) _ _ _ _⟩
      | some z =>
        obtain ⟨x, rfl⟩ := NI.out z hz
        obtain ⟨g, cap, hvv, hg1, hg2, hgc⟩ := ints_at (HV.out _ hz) (by simp)
        simp only [Value.slice.injEq] at hvv
        obtain ⟨rfl, rfl, rfl⟩ := hvv
        have g0 : w2.cell? ⟨g, 0, none⟩ = some (.int .i64 x) := hgc 0 (by simp)
        obtain ⟨bb, hbb⟩ : ∃ bb : Bool, bb = decide (1 ≤ x ∧ x ≤ 100) := ⟨_, rfl⟩
        have LB := hid (l1Bet x 1 100 bb hbb)
        have YES : Hid (itemE (itemT fs.tail) (.returned (.tuple #[.agg #[.int .i64 3, .int .i64 0, .int .i64 0, .int .i64 x], .bool bb]))) := hid (by
          cases bb with
          | true => exact itemE_yes (by unfold itemT; rw [hz]; simp only []; rw [if_pos (of_decide_eq_true hbb.symm)])
          | false => exact itemE_no (by unfold itemT; rw [hz]; simp only []; rw [if_neg (of_decide_eq_false hbb.symm)]) _ _ _ _)
        clear HV NI hz hgc hbb
        go_wp2
        go_region_with (go_at_call 16; with_reducible refine (LB.out _).mono ?_; rintro e w4 ⟨rfl, hw4⟩; obtain rfl := hw4.symm)
        all_goals
          go_wp2
          obtain ⟨u0, u1, u2, u3⟩ := quad_cells (set4 HQ2.out (.int .i64 3) (.int .i64 0) (.int .i64 0) (.int .i64 x))
          exact bodyPost_ret (v := .tuple #[.agg #[.int .i64 3, .int .i64 0, .int .i64 0, .int .i64 x], .bool bb]) (by simp [results, Tryd.results10, go_sem, u0, u1, u2, u3]) rfl ⟨YES.out, (below_set4 BT.out (Nat.le_refl _) _ _ _ _).trans ((Below.refl _ _).drew)⟩
  · have h3' : ((n : Int) + 1 != 2) = true := by simp; omega
    have NO : Hid (itemT fs.tail = none) := hid (by
      unfold itemT
      split
      · rename_i e
        have := nums_len e
        have := HL.out
        simp at *
        omega
      · rfl)
    dsimp only [wItem] at c3 n0 n1 n2 n3
    clear h ht
    go_enter Tryd.func10, Tryd.ntmps10
    go_wp2_with (go_at_call 14; with_reducible refine PL.out.mono ?_; rintro e w1 ⟨rfl, hw1⟩; obtain rfl := hw1.symm)
    have r0 := wItem_res w 0 (by decide)
    have r1 := wItem_res w 1 (by decide)
    have r2 := wItem_res w 2 (by decide)
    have r3 := wItem_res w 3 (by decide)
    exact bodyPost_ret (v := .tuple #[.agg #[.int .i64 0, .int .i64 0, .int .i64 0, .int .i64 0], .bool false]) (by simp [results, Tryd.results10, go_sem, r0, r1, r2, r3]) rfl ⟨itemE_no NO.out _ _ _ _, below3 _ _ _ _⟩

set_option maxRecDepth 100000 in
set_option maxHeartbeats 3200000 in
theorem item_run (b off n c : Nat) (fs : List (List UInt8)) (w : World) (hn : n + 1 ≤ 1048576) (hc : n + 1 ≤ c) (hf : ∀ f ∈ fs, f.length ≤ 1048576) (h : StrsOf w (some ⟨b, off, none⟩) (n + 1) fs) (hx : fs.getD 0 [] = kRun) :
    Calls Tryd.prog 10 #[.slice (some ⟨b, off, none⟩) (n + 1) c] w fun e w' => itemE (itemR fs.tail) e ∧ Below w.heap.size w w' := by
  obtain ⟨c0, hbl, ht⟩ := h.one
  have HL := hid h.1
  rw [hx] at c0
  obtain ⟨s, hs⟩ : ∃ s : ByteArray, s = ⟨kRun.toArray⟩ := ⟨_, rfl⟩
  have c0' : w.cell? ⟨b, off, none⟩ = some (.string s) := by rw [hs]; exact c0
  have PL := hid (l5Place_any (some ⟨w.heap.size + 1 + 1, 0, none⟩) 4 4 kwds s (wItem w) (by decide) (kwds_at w))
  have e0 : placeN kwds (bl s) 0 = 3 := by rw [place_kwds, hs]; rfl
  rw [e0] at PL
  have c3 := wItem_old w c0' hbl
  obtain ⟨n0, n1, n2, n3⟩ := wItem_cnt w
  clear c0 hs e0 hx
  by_cases h3 : n = 1
  · subst h3
    have T := hid (ht (some ⟨b, off + 1, none⟩) (.inl rfl))
    have TL : fs.tail.length = 1 := by have := HL.out; simp at *; omega
    have en : numsN fs.tail 1 = nums fs.tail := by rw [← TL]; exact nums_all _
    have C : Hid (∀ W, Below w.heap.size w W → Calls Tryd.prog 15 #[.slice (some ⟨b, off + 1, none⟩) 1 (c - 1), .int .i64 1] W fun e w' => (∃ v, e = .returned (.tuple #[v, .bool (nums fs.tail).isSome]) ∧ (∃ a l c, v = .slice a l c) ∧ ∀ zs, nums fs.tail = some zs → IntRow w' W.heap.size v zs) ∧ Below W.heap.size W w') := hid (fun W hW => by
      have := l5Numbers_any (some ⟨b, off + 1, none⟩) 1 (c - 1) 1 fs.tail W (by decide) (by decide) (fun f hf' => hf f (List.mem_of_mem_tail hf')) (T.out.below hW)
      rw [en] at this
      exact this)
    have hc1 : ¬ c = 1 := by omega
    have NI : Hid (∀ z, nums fs.tail = some z → ∃ p, z = [p]) := hid (by
      intro z hz
      have := nums_len hz
      rw [TL] at this
      match z, this with
      | [p], _ => exact ⟨p, rfl⟩)
    have n3' := n3
    have BW : Below w.heap.size w (wItem w) := below3 _ _ _ _
    have QW : (wItem w).heap[w.heap.size]? = some (.cells #[.int .i64 0, .int .i64 0, .int .i64 0, .int .i64 0] 31 (0, 0)) := block_below (heap_alloc_new w _) (below2 _ _ _)
    obtain ⟨W, hW⟩ : ∃ W, W = wItem w := ⟨_, rfl⟩
    rw [← hW] at n3' BW QW
    have HW := hid hW
    have HBW := hid BW
    have HQW := hid QW
    have hzW := lt_of_block QW
    dsimp only [wItem] at c3 n0 n1 n2 n3
    clear h ht TL en hW BW QW
    go_enter Tryd.func10, Tryd.ntmps10
    go_wp2_with (go_at_call 14; with_reducible refine PL.out.mono ?_; rintro e w1 ⟨rfl, hw1⟩; obtain rfl := hw1.symm)
    rw [← HW.out]
    clear c3 n0 n1 n2 n3 HW PL
    go_region_with (go_at_call 15; with_reducible refine (C.out _ (HBW.out.trans ((Below.refl _ _).drew))).mono ?_; rintro e w2 ⟨⟨v, rfl, ⟨va, vl, vc, rfl⟩, hv⟩, hb2⟩; have HV := hid hv; have B2 := hid hb2; clear hv hb2)
    all_goals
      have HQ2 := hid (block_below (show W.drew.heap[w.heap.size]? = _ from HQW.out) B2.out)
      have BT := hid (HBW.out.trans ((((Below.refl _ _).drew).trans B2.out).mono HBW.out.size))
      obtain ⟨q0, q1, q2, q3⟩ := quad_cells HQ2.out
      have fz := fun i => Lib.frozen_of_heap HQ2.out i
      have hz2 := lt_of_block HQ2.out
      cases hz : nums fs.tail with
      | none =>
        have NO : Hid (itemR fs.tail = none) := hid (by unfold itemR; rw [hz])
        clear HV NI hz
        go_wp2
        obtain ⟨u0, u1, u2, u3⟩ := quad_cells (set4 HQ2.out (.int .i64 0) (.int .i64 0) (.int .i64 0) (.int .i64 0))
        exact bodyPost_ret (v := .tuple #[.agg #[.int .i64 0, .int .i64 0, .int .i64 0, .int .i64 0], .bool false]) (by simp [results, Tryd.results10, go_sem, u0, u1, u2, u3]) rfl ⟨itemE_no NO.out _ _ _ _, below_set4 BT.out (Nat.le_refl _) _ _ _ _⟩
      | some z =>
        obtain ⟨x, rfl⟩ := NI.out z hz
        obtain ⟨g, cap, hvv, hg1, hg2, hgc⟩ := ints_at (HV.out _ hz) (by simp)
        simp only [Value.slice.injEq] at hvv
        obtain ⟨rfl, rfl, rfl⟩ := hvv
        have g0 : w2.cell? ⟨g, 0, none⟩ = some (.int .i64 x) := hgc 0 (by simp)
        obtain ⟨bb, hbb⟩ : ∃ bb : Bool, bb = decide (0 ≤ x ∧ x ≤ 10000) := ⟨_, rfl⟩
        have LB := hid (l1Bet x 0 10000 bb hbb)
        have YES : Hid (itemE (itemR fs.tail) (.returned (.tuple #[.agg #[.int .i64 4, .int .i64 0, .int .i64 0, .int .i64 x], .bool bb]))) := hid (by
          cases bb with
          | true => exact itemE_yes (by unfold itemR; rw [hz]; simp only []; rw [if_pos (of_decide_eq_true hbb.symm)])
          | false => exact itemE_no (by unfold itemR; rw [hz]; simp only []; rw [if_neg (of_decide_eq_false hbb.symm)]) _ _ _ _)
        clear HV NI hz hgc hbb
        go_wp2
        go_region_with (go_at_call 16; with_reducible refine (LB.out _).mono ?_; rintro e w4 ⟨rfl, hw4⟩; obtain rfl := hw4.symm)
        all_goals
          go_wp2
          obtain ⟨u0, u1, u2, u3⟩ := quad_cells (set4 HQ2.out (.int .i64 4) (.int .i64 0) (.int .i64 0) (.int .i64 x))
          exact bodyPost_ret (v := .tuple #[.agg #[.int .i64 4, .int .i64 0, .int .i64 0, .int .i64 x], .bool bb]) (by simp [results, Tryd.results10, go_sem, u0, u1, u2, u3]) rfl ⟨YES.out, (below_set4 BT.out (Nat.le_refl _) _ _ _ _).trans ((Below.refl _ _).drew)⟩
  · have h3' : ((n : Int) + 1 != 2) = true := by simp; omega
    have NO : Hid (itemR fs.tail = none) := hid (by
      unfold itemR
      split
      · rename_i e
        have := nums_len e
        have := HL.out
        simp at *
        omega
      · rfl)
    dsimp only [wItem] at c3 n0 n1 n2 n3
    clear h ht
    go_enter Tryd.func10, Tryd.ntmps10
    go_wp2_with (go_at_call 14; with_reducible refine PL.out.mono ?_; rintro e w1 ⟨rfl, hw1⟩; obtain rfl := hw1.symm)
    have r0 := wItem_res w 0 (by decide)
    have r1 := wItem_res w 1 (by decide)
    have r2 := wItem_res w 2 (by decide)
    have r3 := wItem_res w 3 (by decide)
    exact bodyPost_ret (v := .tuple #[.agg #[.int .i64 0, .int .i64 0, .int .i64 0, .int .i64 0], .bool false]) (by simp [results, Tryd.results10, go_sem, r0, r1, r2, r3]) rfl ⟨itemE_no NO.out _ _ _ _, below3 _ _ _ _⟩

set_option maxRecDepth 100000 in
set_option maxHeartbeats 3200000 in
theorem item_none (b off n c : Nat) (fs : List (List UInt8)) (w : World) (h : StrsOf w (some ⟨b, off, none⟩) (n + 1) fs) (hx : placeN kwds (fs.getD 0 []) 0 = -1) :
    Calls Tryd.prog 10 #[.slice (some ⟨b, off, none⟩) (n + 1) c] w fun e w' => itemE none e ∧ Below w.heap.size w w' := by
  obtain ⟨c0, hbl, ht⟩ := h.one
  obtain ⟨s, hs⟩ : ∃ s : ByteArray, s = ⟨(fs.getD 0 []).toArray⟩ := ⟨_, rfl⟩
  have c0' : w.cell? ⟨b, off, none⟩ = some (.string s) := by rw [hs]; exact c0
  have PL := hid (l5Place_any (some ⟨w.heap.size + 1 + 1, 0, none⟩) 4 4 kwds s (wItem w) (by decide) (kwds_at w))
  have e0 : placeN kwds (bl s) 0 = -1 := by rw [hs]; exact hx
  rw [e0] at PL
  have c3 := wItem_old w c0' hbl
  dsimp only [wItem] at c3
  clear h ht c0 hs e0 hx
  go_enter Tryd.func10, Tryd.ntmps10
  go_wp2_with (go_at_call 14; with_reducible refine PL.out.mono ?_; rintro e w1 ⟨rfl, hw1⟩; obtain rfl := hw1.symm)
  have r0 := wItem_res w 0 (by decide)
  have r1 := wItem_res w 1 (by decide)
  have r2 := wItem_res w 2 (by decide)
  have r3 := wItem_res w 3 (by decide)
  exact bodyPost_ret (v := .tuple #[.agg #[.int .i64 0, .int .i64 0, .int .i64 0, .int .i64 0], .bool false]) (by simp [results, Tryd.results10, go_sem, r0, r1, r2, r3]) rfl ⟨itemE_no rfl _ _ _ _, below3 _ _ _ _⟩

/-- A line's item (the model's). -/
theorem l5ScriptItem_any (b off n c : Nat) (fs : List (List UInt8)) (w : World) (hn : n + 1 ≤ 1048576) (hc : n + 1 ≤ c) (hf : ∀ f ∈ fs, f.length ≤ 1048576) (h : StrsOf w (some ⟨b, off, none⟩) (n + 1) fs) :
    Calls Tryd.prog 10 #[.slice (some ⟨b, off, none⟩) (n + 1) c] w fun e w' => itemE (itemOf fs) e ∧ Below w.heap.size w w' := by
  unfold itemOf
  by_cases h1 : fs.getD 0 [] = kPost
  · rw [if_pos h1]; exact item_post b off n c fs w hn hc hf h h1
  · rw [if_neg h1]
    by_cases h2 : fs.getD 0 [] = kPub
    · rw [if_pos h2]; exact item_pub b off n c fs w hn hc hf h h2
    · rw [if_neg h2]
      by_cases h3 : fs.getD 0 [] = kTick
      · rw [if_pos h3]; exact item_tick b off n c fs w hn hc hf h h3
      · rw [if_neg h3]
        by_cases h4 : fs.getD 0 [] = kRun
        · rw [if_pos h4]; exact item_run b off n c fs w hn hc hf h h4
        · rw [if_neg h4]
          exact item_none b off n c fs w h (by rw [place_kwds, if_neg h1, if_neg h2, if_neg h3, if_neg h4])
end Go.Proofs.YtcdcjpejlhcdnaaDoor
