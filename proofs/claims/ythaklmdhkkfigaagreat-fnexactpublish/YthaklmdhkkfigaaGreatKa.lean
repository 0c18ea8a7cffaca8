import Derived.Test.YthaklmdhkkfigaaGreatProg
import Derived.WalkKit
import Derived.WalkSpells
import Derived.WalkLawsBesides
import Derived.Deep.OwnRows
import Derived.Deep.QuietTactic
import Derived.BigQuiet
import Derived.Lib.QuietBelow
import Derived.Laws.EntriesVeiled
import Derived.Deep.RegionWith
import Derived.Deep.DrawnRows
import Derived.Maps.AppendAt
namespace Go.Proofs.YthaklmdhkkfigaaGreat
open Go.RowKit Go.Sort

theorem ret_int {k : IntKind} {a b : Int} (h : a = b) : Ending.returned (.int k a) = .returned (.int k b) := by rw [h]

theorem ret_bool {a b : Bool} (h : a = b) : Ending.returned (.bool a) = .returned (.bool b) := by rw [h]

theorem below1 (w : World) (o1 : Obj) : Below w.heap.size w (w.alloc o1) := (Below.refl _ _).alloc (Nat.le_refl _) o1

theorem below2 (w : World) (o1 o2 : Obj) : Below w.heap.size w ((w.alloc o1).alloc o2) := (below1 w o1).alloc (by simp) o2

theorem below3 (w : World) (o1 o2 o3 : Obj) : Below w.heap.size w (((w.alloc o1).alloc o2).alloc o3) := (below2 w o1 o2).alloc (by simp; omega) o3

theorem hid {p : Prop} (h : p) : Hid p := h

theorem belowDraws {B : Nat} {w w' : World} (h : Below B w w') (n : Nat) : Below B w (w'.drewN n) := ⟨h.os, h.tape, h.output, h.size, h.block⟩

theorem bcell2 {W w1 : World} (hb : Below W.heap.size W w1) : (∀ b o, b < W.heap.size → w1.cell? ⟨b, o, none⟩ = W.cell? ⟨b, o, none⟩) ∧ (∀ b o, b < W.heap.size → w1.frozen? ⟨b, o, none⟩ = W.frozen? ⟨b, o, none⟩) :=
  ⟨fun b o h => hb.cell (p := ⟨b, o, none⟩) h, fun b o h => hb.frozen (p := ⟨b, o, none⟩) h⟩

theorem quad_cells {w : World} {H : Nat} {a b c d : Value} {t : TypeId} (h : w.heap[H]? = some (.cells #[a, b, c, d] t (0, 0))) : w.cell? ⟨H, 0, none⟩ = some a ∧ w.cell? ⟨H, 1, none⟩ = some b ∧ w.cell? ⟨H, 2, none⟩ = some c ∧ w.cell? ⟨H, 3, none⟩ = some d := by
  simp [World.cell?, h]

theorem block_below {w w' : World} {H : Nat} {ob : Obj} (h : w.heap[H]? = some ob) (hb : Below w.heap.size w w') : w'.heap[H]? = some ob := (hb.block _ (lt_of_block h)).trans h

theorem ret_two {a b c d : Int} (h1 : a = c) (h2 : b = d) : Ending.returned (.tuple #[.int .i64 a, .int .i64 b]) = .returned (.tuple #[.int .i64 c, .int .i64 d]) := by rw [h1, h2]

theorem ownsRow_below {w w' : World} {base : Nat} {e : TypeId} {size : Nat} {v : Value} {n : Nat} {xs : List Value} (h : w.ownsRow base e size v n xs) (hb : Below w.heap.size w w') : w'.ownsRow base e size v n xs := by
  refine ⟨h.1, ?_⟩
  rcases h.2 with h0 | ⟨g, cap, cur, h1, h2, h3, h4⟩
  · exact .inl h0
  · exact .inr ⟨g, cap, cur, h1, h2, (hb.block _ (lt_of_block h3)).trans h3, h4⟩

theorem grown_block {w w' : World} {row : Option Nat} (h : w.grownBy w' row) {k : Nat} (hk : k < w.heap.size) (hr : row ≠ some k) : w'.heap[k]? = w.heap[k]? := h.block k hk (fun e => hr e.symm)

/-- A slice of numbers as the walk is told of it: where there is an element it has an address, below the heap's end, and its cells hold the numbers. -/
def SliceOf (w : World) (ao : Option Addr) (n : Nat) (zs : List Int) : Prop :=
  zs.length = n ∧ (0 < n → ∃ b off, ao = some ⟨b, off, none⟩ ∧ b < w.heap.size ∧ ∀ i, i < n → w.cell? ⟨b, off + i, none⟩ = some (.int .i64 (zs.getD i 0)))

theorem SliceOf.below {w w' : World} {ao : Option Addr} {n : Nat} {zs : List Int} (h : SliceOf w ao n zs) (hb : Below w.heap.size w w') : SliceOf w' ao n zs :=
  ⟨h.1, fun hn => by
    obtain ⟨b, off, e, hlt, hc⟩ := h.2 hn
    exact ⟨b, off, e, Nat.lt_of_lt_of_le hlt hb.size, fun i hi => (hb.cell (p := ⟨b, off + i, none⟩) hlt).trans (hc i hi)⟩⟩

theorem SliceOf.row {w : World} {b n : Nat} {zs : List Int} (hz : zs.length = n) (h : w.rowIs b 3 n (fun i => .int .i64 (zs.getD i 0))) : SliceOf w (some ⟨b, 0, none⟩) n zs :=
  ⟨hz, fun _ => ⟨b, 0, rfl, h.lt, fun i hi => by simpa using h.cell hi⟩⟩

set_option maxHeartbeats 400000 in
theorem eqIntS_any (ao bo : Option Addr) (n m c d : Nat) (xs ys : List Int) (w : World) (hn : n ≤ 1048576) (hm : m ≤ 9223372036854775807) (hx : SliceOf w ao n xs) (hy : SliceOf w bo m ys) :
    Calls Tryz.prog 43 #[.slice ao n c, .slice bo m d] w fun e w' => e = .returned (.bool (decide (xs = ys))) ∧ ∃ q, w' = w.drewN q := by
  by_cases hnm : n = m
  · subst hnm
    have hl : xs.length = ys.length := by rw [hx.1, hy.1]
    go_enter Tryz.func43, Tryz.ntmps43
    go_wp2
    go_loopw [5] (fun i wr => ∃ k : Nat, k ≤ n ∧ i = .int .i64 k ∧ (∀ j, j < k → xs.getD j 0 = ys.getD j 0) ∧ ∃ q, wr = w.drewN q) (fun i _ => n - (intOf i).toNat)
    case atStart => exact ⟨0, Nat.zero_le _, rfl, fun j h => absurd h (by omega), 0, rfl⟩
    case round =>
      obtain ⟨k, hk, rfl, he, q, rfl⟩ := hrel
      have HE : Hid (∀ j, j < k → xs.getD j 0 = ys.getD j 0) := he
      clear he
      by_cases hlt : k < n
      · obtain ⟨b, off, rfl, hbl, hc⟩ := hx.2 (by omega)
        obtain ⟨b2, off2, rfl, hbl2, hc2⟩ := hy.2 (by omega)
        have h1 := hc k hlt
        have h2 := hc2 k hlt
        have hi : (k : Int) < (n : Int) := by omega
        obtain ⟨x, ex⟩ : ∃ x, x = xs.getD k 0 := ⟨_, rfl⟩
        obtain ⟨y, ey⟩ : ∃ y, y = ys.getD k 0 := ⟨_, rfl⟩
        rw [← ex] at h1
        rw [← ey] at h2
        have EX : Hid (x = xs.getD k 0) := ex
        have EY : Hid (y = ys.getD k 0) := ey
        have HL : Hid (xs.length = ys.length ∧ xs.length = n ∧ ys.length = n) := ⟨hl, hx.1, hy.1⟩
        clear ex ey hc hc2 hx hy hl
        by_cases hxy : x = y
        · subst hxy
          go_wp2
          go_quiet (fail)
          go_wp2
          go_roundw
          case rel =>
            refine ⟨k + 1, by omega, by go_num, fun j hj => ?_, ?_⟩
            · by_cases e : j = k
              · subst e; rw [← EX.out, ← EY.out]
              · exact HE.out j (by omega)
            · exact ⟨q + nq, by first | rfl | rw [World.drewN_drewN]⟩
          case measure => simp [intOf]; omega
        · have hb : (x != y) = true := by simpa using hxy
          go_wp2
          go_quiet (fail)
          go_wp2
          go_ret
          refine ⟨?_, q + nq, by first | rfl | rw [World.drewN_drewN]⟩
          have hne : ¬ xs = ys := fun e => hxy (by rw [EX.out, EY.out, e])
          simp [hne]
      · have e : k = n := by omega
        subst e
        have hxs : xs = ys := by
          apply List.ext_getElem hl
          intro i h1 h2
          have := HE.out i (by have := hx.1; omega)
          simpa [List.getD_eq_getElem?_getD, List.getElem?_eq_getElem h1, List.getElem?_eq_getElem h2] using this
        have HX : Hid (xs = ys) := hxs
        clear hxs
        go_wp2
        go_ret
        exact ⟨by simp [HX.out], q, rfl⟩
  · have hne : ¬ xs = ys := fun e => hnm (by rw [← hx.1, ← hy.1, e])
    have h2 : ((n : Int) != (m : Int)) = true := by simp; omega
    have HX : Hid (¬ xs = ys) := hne
    clear hne hx hy
    go_enter Tryz.func43, Tryz.ntmps43
    go_wp2
    go_ret
    exact ⟨by simp [HX.out], 0, rfl⟩

def betB (x lo hi : Int) : Bool := decide (lo ≤ x ∧ x ≤ hi)

set_option maxHeartbeats 400000 in
theorem l1Between_any (x lo hi : Int) (w : World) : Calls Tryz.prog 31 #[.int .i64 x, .int .i64 lo, .int .i64 hi] w fun e w' => e = .returned (.bool (betB x lo hi)) ∧ w' = w := by
  by_cases h1 : lo ≤ x <;> by_cases h7 : x ≤ hi
  all_goals
    go_enter Tryz.func31, Tryz.ntmps31
    go_wp2
    go_ret
    exact ⟨ret_bool (by simp [betB]; omega), rfl⟩

theorem l1Between_of (x lo hi : Int) (b : Bool) (h : b = betB x lo hi) (w : World) : Calls Tryz.prog 31 #[.int .i64 x, .int .i64 lo, .int .i64 hi] w fun e w' => e = .returned (.bool b) ∧ w' = w := by
  rw [h]; exact l1Between_any x lo hi w

set_option maxHeartbeats 400000 in
theorem within_any (n c : Int) (w : World) : Calls Tryz.prog 76 #[.int .i64 n, .int .i64 c] w fun e w' => e = .returned (.bool (decide (0 ≤ n ∧ n < c))) ∧ w' = w := by
  by_cases h1 : 0 ≤ n <;> by_cases h7 : n < c
  all_goals
    go_enter Tryz.func76, Tryz.ntmps76
    go_wp2
    go_ret
    exact ⟨ret_bool (by simp; omega), rfl⟩

/-- A slice of items as the walk is told of it. -/
def ItemsOf (w : World) (ao : Option Addr) (n : Nat) (its : List (Int × Int)) : Prop :=
  its.length = n ∧ (0 < n → ∃ b off, ao = some ⟨b, off, none⟩ ∧ b < w.heap.size ∧ ∀ i, i < n → w.cell? ⟨b, off + i * 2, none⟩ = some (.int .i64 (its.getD i (0, 0)).1) ∧ w.cell? ⟨b, off + i * 2 + 1, none⟩ = some (.int .i64 (its.getD i (0, 0)).2))

theorem ItemsOf.below {w w' : World} {ao : Option Addr} {n : Nat} {its : List (Int × Int)} (h : ItemsOf w ao n its) (hb : Below w.heap.size w w') : ItemsOf w' ao n its :=
  ⟨h.1, fun hn => by
    obtain ⟨b, off, e, hlt, hc⟩ := h.2 hn
    exact ⟨b, off, e, Nat.lt_of_lt_of_le hlt hb.size, fun i hi => ⟨(hb.cell (p := ⟨b, off + i * 2, none⟩) hlt).trans (hc i hi).1, (hb.cell (p := ⟨b, off + i * 2 + 1, none⟩) hlt).trans (hc i hi).2⟩⟩⟩

/-- The cell of an item list. -/
def icell (its : List (Int × Int)) (j : Nat) : Value := if j % 2 = 0 then .int .i64 (its.getD (j / 2) (0, 0)).1 else .int .i64 (its.getD (j / 2) (0, 0)).2

theorem icell_even (its : List (Int × Int)) (i : Nat) : icell its (i * 2) = .int .i64 (its.getD i (0, 0)).1 := by
  have h1 : i * 2 % 2 = 0 := by omega
  have h2 : i * 2 / 2 = i := by omega
  simp [icell, h1, h2]

theorem icell_odd (its : List (Int × Int)) (i : Nat) : icell its (i * 2 + 1) = .int .i64 (its.getD i (0, 0)).2 := by
  have h1 : ¬ (i * 2 + 1) % 2 = 0 := by omega
  have h2 : (i * 2 + 1) / 2 = i := by omega
  simp [icell, h2]

theorem ItemsOf.row {w : World} {b n : Nat} {its : List (Int × Int)} (hz : its.length = n) (h : w.rowIs b 225 (n * 2) (icell its)) : ItemsOf w (some ⟨b, 0, none⟩) n its :=
  ⟨hz, fun _ => ⟨b, 0, rfl, h.lt, fun i hi => ⟨by rw [← icell_even]; simpa using h.cell (i := i * 2) (by omega), by rw [← icell_odd]; simpa using h.cell (i := i * 2 + 1) (by omega)⟩⟩⟩

theorem Tryz.info225 : (Tryz.prog.info? 225).map (fun i => (i.zero, i.size, i.bytes)) = some (some (.agg #[.int .i64 0, .int .i64 0]), 2, 16) := by kernel_rfl

/-- 'make([]Item, n)' -/
theorem run_make_pairs (t e : TypeId) (z0 z1 : Value) (bytes : Nat) (ht : Tryz.prog.underlying t = some (.slice e)) (hinfo : (Tryz.prog.info? e).map (fun i => (i.zero, i.size, i.bytes)) = some (some (.agg #[z0, z1]), 2, bytes))
    (kl kc : IntKind) (n : Nat) (hbytes : bytes * n ≤ 281474976710656) (h63 : n ≤ 9223372036854775807) (w : World) :
    (Instr.makeSlice t (.int kl (n : Int)) (.int kc (n : Int))).run Tryz.prog w = .ok (.slice (some ⟨w.heap.size, 0, none⟩) n n) (w.alloc (.cells (madeCells #[z0, z1] (n * 2)) e)) := by
  obtain ⟨i, hi, hzz⟩ := Option.map_eq_some_iff.1 hinfo
  simp only [Prod.mk.injEq] at hzz
  obtain ⟨hz, hs, hb⟩ := hzz
  have hb' : (i.bytes : Int) * (n : Int) ≤ 281474976710656 := by
    have h : ((i.bytes * n : Nat) : Int) ≤ 281474976710656 := by rw [hb]; omega
    rwa [Int.natCast_mul] at h
  have hr := run_make (P := Tryz.prog) w t e i (.agg #[z0, z1]) ht hi hz kl kc n n (by omega) (Int.le_refl _) hb' (by omega)
  simp only [Int.toNat_natCast, hs] at hr
  exact hr

theorem rowIs_pairs (w : World) (z : Value) (n : Nat) (t : TypeId) : (w.alloc (.cells (madeCells #[z, z] (n * 2)) t)).rowIs w.heap.size t (n * 2) (fun _ => z) :=
  ⟨_, heap_alloc_new _ _, size_madeCells _ _, fun i hi => by
    have h : i % 2 = 0 ∨ i % 2 = 1 := by omega
    rcases h with h | h <;> simp [madeCells, hi, h]⟩

set_option maxHeartbeats 400000 in
theorem szItemS_any (ao : Option Addr) (n c : Nat) (left : Int) (w : World) (hn : n ≤ 9223372036854775807) (h0 : 0 ≤ left) (h1 : left ≤ 1048576) :
    Calls Tryz.prog 179 #[.slice ao n c, .int .i64 left] w fun e w' => e = .returned (.int .i64 (if left < n then -1 else left - n)) ∧ w' = w := by
  by_cases h : left < n
  · rw [if_pos h]
    have h2 : left - n < 0 := by omega
    go_enter Tryz.func179, Tryz.ntmps179
    go_wp2
    go_ret
    exact ⟨rfl, rfl⟩
  · rw [if_neg h]
    have h2 : ¬ left - n < 0 := by omega
    go_enter Tryz.func179, Tryz.ntmps179
    go_wp2
    go_ret
    exact ⟨rfl, rfl⟩

set_option maxHeartbeats 400000 in
theorem toItem_any (x y : Int) (w : World) : Calls Tryz.prog 216 #[.agg #[.int .i64 x, .int .i64 y]] w fun e w' => e = .returned (.agg #[.int .i64 x, .int .i64 y]) ∧ Below w.heap.size w w' := by
  go_enter Tryz.func216, Tryz.ntmps216
  go_wp2
  exact bodyPost_ret (v := .agg #[.int .i64 x, .int .i64 y]) (by simp [results, Tryz.results216, go_sem]) rfl ⟨rfl, below3 _ _ _ _⟩

set_option maxHeartbeats 400000 in
theorem eqItem_any (x y x' y' : Int) (w : World) : Calls Tryz.prog 226 #[.agg #[.int .i64 x, .int .i64 y], .agg #[.int .i64 x', .int .i64 y']] w fun e w' => e = .returned (.bool (decide (x = x' ∧ y = y'))) ∧ Below w.heap.size w w' := by
  by_cases h1 : x = x'
  · by_cases h2 : y = y'
    · subst h1 h2
      go_enter Tryz.func226, Tryz.ntmps226
      go_wp2
      go_ret
      exact ⟨ret_bool (by simp), below2 _ _ _⟩
    · subst h1
      have hb : (y != y') = true := by simpa using h2
      have H : Hid (¬ y = y') := h2
      clear h2
      go_enter Tryz.func226, Tryz.ntmps226
      go_wp2
      go_ret
      exact ⟨ret_bool (by simp [H.out]), below2 _ _ _⟩
  · have hb : (x != x') = true := by simpa using h1
    have H : Hid (¬ x = x') := h1
    clear h1
    go_enter Tryz.func226, Tryz.ntmps226
    go_wp2
    go_ret
    exact ⟨ret_bool (by simp [H.out]), below2 _ _ _⟩

theorem toItems_step {w wr : World} {B n k : Nat} {its : List (Int × Int)}
    (hr : wr.rowIs B 225 (n * 2) (fun j => if j < k * 2 then icell its j else .int .i64 0)) (hb : Below B w wr) :
    ((wr.setCell ⟨B, k * 2, none⟩ (.int .i64 (its.getD k (0, 0)).1)).setCell ⟨B, k * 2 + 1, none⟩ (.int .i64 (its.getD k (0, 0)).2)).rowIs B 225 (n * 2) (fun j => if j < (k + 1) * 2 then icell its j else .int .i64 0) ∧
      Below B w ((wr.setCell ⟨B, k * 2, none⟩ (.int .i64 (its.getD k (0, 0)).1)).setCell ⟨B, k * 2 + 1, none⟩ (.int .i64 (its.getD k (0, 0)).2)) := by
  refine ⟨((hr.set (k * 2) _).set (k * 2 + 1) _).congr fun i hi => ?_, (hb.setCell (Nat.le_refl _) _).setCell (Nat.le_refl _) _⟩
  by_cases e : i = k * 2 + 1
  · subst e; simp [icell_odd, show k * 2 + 1 < (k + 1) * 2 by omega]
  · by_cases e2 : i = k * 2
    · subst e2; simp [icell_even, show k * 2 < (k + 1) * 2 by omega]
    · by_cases h : i < k * 2
      · simp [e, e2, h, show i < (k + 1) * 2 by omega]
      · simp [e, e2, h, show ¬ i < (k + 1) * 2 by omega]

set_option maxHeartbeats 800000 in
theorem toItemS_any (ao : Option Addr) (n c : Nat) (its : List (Int × Int)) (w : World) (hn : n ≤ 1048576) (hs : ItemsOf w ao n its) :
    Calls Tryz.prog 184 #[.slice ao n c] w fun e w' => e = .returned (.slice (some ⟨w.heap.size, 0, none⟩) n n) ∧ w'.rowIs w.heap.size 225 (n * 2) (icell its) ∧ Below w.heap.size w w' := by
  have hmk := run_make_pairs 198 225 (.int .i64 0) (.int .i64 0) 16 Tryz.underlying198 Tryz.info225 .i64 .i64 n (by omega) (by omega)
  go_enter Tryz.func184, Tryz.ntmps184
  go_wp2
  go_loopw [4] (fun i wr => ∃ k : Nat, k ≤ n ∧ i = .int .i64 k ∧ wr.rowIs w.heap.size 225 (n * 2) (fun j => if j < k * 2 then icell its j else .int .i64 0) ∧ Below w.heap.size w wr) (fun i _ => n - (intOf i).toNat)
  case atStart => exact ⟨0, Nat.zero_le _, rfl, by simpa using rowIs_pairs w (.int .i64 0) n 225, (Below.refl _ _).alloc (Nat.le_refl _) _⟩
  case round =>
    obtain ⟨k, hk, rfl, hr, hb⟩ := hrel
    have HR := hid hr
    have HB := hid hb
    by_cases hlt : k < n
    · obtain ⟨b, off, rfl, hbl, hc⟩ := hs.2 (by omega)
      have hc1 : wr.cell? ⟨b, off + k * 2, none⟩ = some (.int .i64 (its.getD k (0, 0)).1) := (hb.cell (p := ⟨b, off + k * 2, none⟩) hbl).trans (hc k hlt).1
      have hc2 : wr.cell? ⟨b, off + k * 2 + 1, none⟩ = some (.int .i64 (its.getD k (0, 0)).2) := (hb.cell (p := ⟨b, off + k * 2 + 1, none⟩) hbl).trans (hc k hlt).2
      clear hs hc hr hb
      go_wp2_with (go_at_call 216; refine (toItem_any _ _ _).mono ?_; rintro e w1 ⟨rfl, hb1⟩; have hr1 := HR.out.of_block (hb1.block _ HR.out.lt); have f1 := hr1.frozen (k * 2); have f2 := hr1.frozen (k * 2 + 1); have g1 := hr1.cell (i := k * 2) (by omega); have g2 := hr1.cell (i := k * 2 + 1) (by omega); have R1 := hid (toItems_step hr1 (HB.out.trans (hb1.mono (Nat.le_of_lt HR.out.lt)))); clear hr1 hb1)
      go_roundw
      case rel => exact ⟨k + 1, by omega, by go_num, R1.out.1, R1.out.2⟩
      case measure => simp [intOf]; omega
    · have e : k = n := by omega
      subst e
      have R := hid (World.rowIs.congr hr (g := icell its) (fun i hi => by simp [hi]))
      clear hr hb hs
      go_wp2
      go_ret
      exact ⟨rfl, R.out, HB.out⟩

theorem getD_ext {xs ys : List (Int × Int)} {n : Nat} (h1 : xs.length = n) (h2 : ys.length = n) (h : ∀ j, j < n → xs.getD j (0, 0) = ys.getD j (0, 0)) : xs = ys := by
  apply List.ext_getElem (by omega)
  intro i a b
  have := h i (by omega)
  simpa [List.getD_eq_getElem?_getD, List.getElem?_eq_getElem a, List.getElem?_eq_getElem b] using this

set_option maxHeartbeats 800000 in
theorem eqItemS_any (ao bo : Option Addr) (n m c d : Nat) (xs ys : List (Int × Int)) (w : World) (hn : n ≤ 1048576) (hm : m ≤ 9223372036854775807) (hx : ItemsOf w ao n xs) (hy : ItemsOf w bo m ys) :
    Calls Tryz.prog 207 #[.slice ao n c, .slice bo m d] w fun e w' => e = .returned (.bool (decide (xs = ys))) ∧ Below w.heap.size w w' := by
  by_cases hnm : n = m
  · subst hnm
    have HL : Hid (xs.length = n ∧ ys.length = n) := ⟨hx.1, hy.1⟩
    go_enter Tryz.func207, Tryz.ntmps207
    go_wp2
    go_loopw [5] (fun i wr => ∃ k : Nat, k ≤ n ∧ i = .int .i64 k ∧ (∀ j, j < k → xs.getD j (0, 0) = ys.getD j (0, 0)) ∧ Below w.heap.size w wr) (fun i _ => n - (intOf i).toNat)
    case atStart => exact ⟨0, Nat.zero_le _, rfl, fun j h => absurd h (by omega), Below.refl _ _⟩
    case round =>
      obtain ⟨k, hk, rfl, he, hb⟩ := hrel
      have HE : Hid (∀ j, j < k → xs.getD j (0, 0) = ys.getD j (0, 0)) := he
      have HB := hid hb
      clear he
      by_cases hlt : k < n
      · obtain ⟨b, off, rfl, hbl, hc⟩ := hx.2 (by omega)
        obtain ⟨b2, off2, rfl, hbl2, hc2⟩ := hy.2 (by omega)
        have hi : (k : Int) < (n : Int) := by omega
        obtain ⟨x, ex⟩ : ∃ x, x = xs.getD k (0, 0) := ⟨_, rfl⟩
        obtain ⟨y, ey⟩ : ∃ y, y = ys.getD k (0, 0) := ⟨_, rfl⟩
        obtain ⟨x1, x2⟩ := x
        obtain ⟨y1, y2⟩ := y
        have k1 : wr.cell? ⟨b, off + k * 2, none⟩ = some (.int .i64 x1) := (hb.cell (p := ⟨b, off + k * 2, none⟩) hbl).trans (by rw [(hc k hlt).1, ← ex])
        have k2 : wr.cell? ⟨b, off + k * 2 + 1, none⟩ = some (.int .i64 x2) := (hb.cell (p := ⟨b, off + k * 2 + 1, none⟩) hbl).trans (by rw [(hc k hlt).2, ← ex])
        have l1 : wr.cell? ⟨b2, off2 + k * 2, none⟩ = some (.int .i64 y1) := (hb.cell (p := ⟨b2, off2 + k * 2, none⟩) hbl2).trans (by rw [(hc2 k hlt).1, ← ey])
        have l2 : wr.cell? ⟨b2, off2 + k * 2 + 1, none⟩ = some (.int .i64 y2) := (hb.cell (p := ⟨b2, off2 + k * 2 + 1, none⟩) hbl2).trans (by rw [(hc2 k hlt).2, ← ey])
        have q1 := cell_regrown k1
        have q2 := cell_regrown k2
        have r1 := cell_regrown l1
        have r2 := cell_regrown l2
        have EX : Hid ((x1, x2) = xs.getD k (0, 0)) := ex
        have EY : Hid ((y1, y2) = ys.getD k (0, 0)) := ey
        have hsz : Hid (w.heap.size ≤ wr.heap.size) := hb.size
        clear ex ey hc hc2 hx hy hb k1 k2 l1 l2
        by_cases hxy : x1 = y1 ∧ x2 = y2
        · have hd : decide (x1 = y1 ∧ x2 = y2) = true := by simpa using hxy
          have HXY := hid hxy
          have c40 : ∀ d os, Calls Tryz.prog 226 #[.agg #[.int .i64 x1, .int .i64 x2], .agg #[.int .i64 y1, .int .i64 y2]] (grow (redrawn wr d) os) fun e w'' => e = .returned (.bool true) ∧ ∃ p : Regrown, w'' = grow (redrawn wr p.d) p.os :=
            fun d os => Calls.regrown_of (by rw [← hd]; exact eqItem_any x1 x2 y1 y2 _)
          clear hxy hd
          go_wp2
          refine wp_region_quiet_below (by kernel_rfl) (by kernel_rfl) ?_
          repeat (any_goals (first | go_big_quiet_step (first | exact c40 _ _) | quiet_step (first | exact c40 _ _)))
          refine wpQuiet_nil ?_
          intro _ hw'
          obtain ⟨⟨dq, osq⟩, hw''⟩ := hw'
          subst hw''
          go_wp2
          go_roundw
          case rel =>
            refine ⟨k + 1, by omega, by go_num, fun j hj => ?_, HB.out.trans ((below_regrown wr dq osq).mono hsz.out)⟩
            by_cases e : j = k
            · subst e; rw [← EX.out, ← EY.out, HXY.out.1, HXY.out.2]
            · exact HE.out j (by omega)
          case measure => simp [intOf]; omega
        · have hd : decide (x1 = y1 ∧ x2 = y2) = false := by simpa using hxy
          have HXY := hid hxy
          have c40 : ∀ d os, Calls Tryz.prog 226 #[.agg #[.int .i64 x1, .int .i64 x2], .agg #[.int .i64 y1, .int .i64 y2]] (grow (redrawn wr d) os) fun e w'' => e = .returned (.bool false) ∧ ∃ p : Regrown, w'' = grow (redrawn wr p.d) p.os :=
            fun d os => Calls.regrown_of (by rw [← hd]; exact eqItem_any x1 x2 y1 y2 _)
          clear hxy hd
          go_wp2
          refine wp_region_quiet_below (by kernel_rfl) (by kernel_rfl) ?_
          repeat (any_goals (first | go_big_quiet_step (first | exact c40 _ _) | quiet_step (first | exact c40 _ _)))
          refine wpQuiet_nil ?_
          intro _ hw'
          obtain ⟨⟨dq, osq⟩, hw''⟩ := hw'
          subst hw''
          go_wp2
          go_ret
          refine ⟨ret_bool ?_, HB.out.trans ((below_regrown wr dq osq).mono hsz.out)⟩
          symm
          rw [decide_eq_false_iff_not]
          intro e
          have := EX.out.trans ((congrArg (fun l => l.getD k (0, 0)) e).trans EY.out.symm)
          exact HXY.out ⟨congrArg Prod.fst this, congrArg Prod.snd this⟩
      · have e : k = n := by omega
        subst e
        have HX : Hid (xs = ys) := getD_ext HL.out.1 HL.out.2 HE.out
        clear hx hy
        go_wp2
        go_ret
        exact ⟨ret_bool (by simp [HX.out]), HB.out⟩
  · have HX : Hid (¬ xs = ys) := hid fun e => hnm (by rw [← hx.1, ← hy.1, e])
    have h2 : ((n : Int) != (m : Int)) = true := by simp; omega
    clear hx hy
    go_enter Tryz.func207, Tryz.ntmps207
    go_wp2
    go_ret
    exact ⟨ret_bool (by simp [HX.out]), Below.refl _ _⟩

theorem eqItemS_same (ao bo : Option Addr) (n c d : Nat) (xs : List (Int × Int)) (w : World) (hn : n ≤ 1048576) (hx : ItemsOf w ao n xs) (hy : ItemsOf w bo n xs) :
    Calls Tryz.prog 207 #[.slice ao n c, .slice bo n d] w fun e w' => e = .returned (.bool true) ∧ Below w.heap.size w w' :=
  (eqItemS_any ao bo n n c d xs xs w hn (by omega) hx hy).mono fun e w' ⟨h1, h2⟩ => ⟨by rw [h1]; simp, h2⟩

/-- Limits as data. -/
structure LimD where
  o : Int
  s : Int
  t : Int
  v : Int

abbrev limP (l : LimD) : Prop := (0 ≤ l.o ∧ l.o ≤ 64) ∧ (0 ≤ l.s ∧ l.s ≤ 64) ∧ (0 ≤ l.t ∧ l.t ≤ 200) ∧ (0 ≤ l.v ∧ l.v ≤ 32)

def limB (l : LimD) : Bool := decide (limP l)

set_option maxHeartbeats 800000 in
theorem l1LimOK_any (o s t v : Int) (w : World) : Calls Tryz.prog 209 #[.agg #[.int .i64 o, .int .i64 s, .int .i64 t, .int .i64 v]] w fun e w' => e = .returned (.bool (limB ⟨o, s, t, v⟩)) ∧ Below w.heap.size w w' := by
  obtain ⟨b1, h1⟩ : ∃ b, b = betB o 0 64 := ⟨_, rfl⟩
  obtain ⟨b2, h2⟩ : ∃ b, b = betB s 0 64 := ⟨_, rfl⟩
  obtain ⟨b3, h3⟩ : ∃ b, b = betB t 0 200 := ⟨_, rfl⟩
  obtain ⟨b4, h4⟩ : ∃ b, b = betB v 0 32 := ⟨_, rfl⟩
  have C1 := hid (l1Between_of o 0 64 b1 h1)
  have C2 := hid (l1Between_of s 0 64 b2 h2)
  have C3 := hid (l1Between_of t 0 200 b3 h3)
  have C4 := hid (l1Between_of v 0 32 b4 h4)
  have E : Hid (limB ⟨o, s, t, v⟩ = (b1 && b2 && b3 && b4)) := hid (by rw [h1, h2, h3, h4, Bool.eq_iff_iff]; simp [limB, limP, betB, and_assoc])
  clear h1 h2 h3 h4
  rw [E.out]
  cases b1 <;> cases b2 <;> cases b3 <;> cases b4
  all_goals
    go_enter Tryz.func209, Tryz.ntmps209
    go_wp2_with (first | (go_at_call_of 31 (Value.int .i64 o); refine (C1.out _).mono ?_; rintro e w1 ⟨rfl, hw⟩; obtain rfl := hw.symm) | (go_at_call_of 31 (Value.int .i64 s); refine (C2.out _).mono ?_; rintro e w1 ⟨rfl, hw⟩; obtain rfl := hw.symm) | (go_at_call_of 31 (Value.int .i64 t); refine (C3.out _).mono ?_; rintro e w1 ⟨rfl, hw⟩; obtain rfl := hw.symm) | (go_at_call_of 31 (Value.int .i64 v); refine (C4.out _).mono ?_; rintro e w1 ⟨rfl, hw⟩; obtain rfl := hw.symm))
    go_ret
    exact ⟨rfl, below1 _ _⟩

end Go.Proofs.YthaklmdhkkfigaaGreat
namespace Go.Proofs.YthaklmdhkkfigaaGreat
open Go.RowKit Go.Sort

set_option maxHeartbeats 1600000 in
theorem limitsOK_any (o s t v : Int) (w : World) : Calls Tryz.prog 217 #[.agg #[.int .i64 o, .int .i64 s, .int .i64 t, .int .i64 v]] w fun e w' => e = .returned (.bool (limB ⟨o, s, t, v⟩)) ∧ Below w.heap.size w w' := by
  by_cases h0 : 0 ≤ o
  case neg =>
    have d : decide (0 ≤ o) = false := by simpa using h0
    have E : Hid (limB ⟨o, s, t, v⟩ = false) := hid (by unfold limB; rw [decide_eq_false_iff_not]; unfold limP; simp only; omega)
    go_enter Tryz.func217, Tryz.ntmps217
    go_wp2
    go_ret
    exact ⟨ret_bool E.out.symm, below1 _ _⟩
  by_cases h1 : o ≤ 64
  case neg =>
    have d : decide (o ≤ 64) = false := by simpa using h1
    have E : Hid (limB ⟨o, s, t, v⟩ = false) := hid (by unfold limB; rw [decide_eq_false_iff_not]; unfold limP; simp only; omega)
    go_enter Tryz.func217, Tryz.ntmps217
    go_wp2
    go_ret
    exact ⟨ret_bool E.out.symm, below1 _ _⟩
  by_cases h2 : 0 ≤ s
  case neg =>
    have d : decide (0 ≤ s) = false := by simpa using h2
    have E : Hid (limB ⟨o, s, t, v⟩ = false) := hid (by unfold limB; rw [decide_eq_false_iff_not]; unfold limP; simp only; omega)
    go_enter Tryz.func217, Tryz.ntmps217
    go_wp2
    go_ret
    exact ⟨ret_bool E.out.symm, below1 _ _⟩
  by_cases h3 : s ≤ 64
  case neg =>
    have d : decide (s ≤ 64) = false := by simpa using h3
    have E : Hid (limB ⟨o, s, t, v⟩ = false) := hid (by unfold limB; rw [decide_eq_false_iff_not]; unfold limP; simp only; omega)
    go_enter Tryz.func217, Tryz.ntmps217
    go_wp2
    go_ret
    exact ⟨ret_bool E.out.symm, below1 _ _⟩
  by_cases h4 : 0 ≤ t
  case neg =>
    have d : decide (0 ≤ t) = false := by simpa using h4
    have E : Hid (limB ⟨o, s, t, v⟩ = false) := hid (by unfold limB; rw [decide_eq_false_iff_not]; unfold limP; simp only; omega)
    go_enter Tryz.func217, Tryz.ntmps217
    go_wp2
    go_ret
    exact ⟨ret_bool E.out.symm, below1 _ _⟩
  by_cases h5 : t ≤ 200
  case neg =>
    have d : decide (t ≤ 200) = false := by simpa using h5
    have E : Hid (limB ⟨o, s, t, v⟩ = false) := hid (by unfold limB; rw [decide_eq_false_iff_not]; unfold limP; simp only; omega)
    go_enter Tryz.func217, Tryz.ntmps217
    go_wp2
    go_ret
    exact ⟨ret_bool E.out.symm, below1 _ _⟩
  by_cases h6 : 0 ≤ v
  case neg =>
    have d : decide (0 ≤ v) = false := by simpa using h6
    have E : Hid (limB ⟨o, s, t, v⟩ = false) := hid (by unfold limB; rw [decide_eq_false_iff_not]; unfold limP; simp only; omega)
    go_enter Tryz.func217, Tryz.ntmps217
    go_wp2
    go_ret
    exact ⟨ret_bool E.out.symm, below1 _ _⟩
  by_cases h7 : v ≤ 32
  case neg =>
    have d : decide (v ≤ 32) = false := by simpa using h7
    have E : Hid (limB ⟨o, s, t, v⟩ = false) := hid (by unfold limB; rw [decide_eq_false_iff_not]; unfold limP; simp only; omega)
    go_enter Tryz.func217, Tryz.ntmps217
    go_wp2
    go_ret
    exact ⟨ret_bool E.out.symm, below1 _ _⟩
  have E : Hid (limB ⟨o, s, t, v⟩ = true) := hid (by unfold limB; rw [decide_eq_true_iff]; unfold limP; simp only; omega)
  go_enter Tryz.func217, Tryz.ntmps217
  go_wp2
  go_ret
  exact ⟨ret_bool E.out.symm, below1 _ _⟩
end Go.Proofs.YthaklmdhkkfigaaGreat
namespace Go.Proofs.YthaklmdhkkfigaaGreat
open Go.RowKit Go.Sort

/-- The first k of a row of numbers, added. -/
def sumTo (f : Nat → Nat) : Nat → Nat
  | 0 => 0
  | k + 1 => sumTo f k + f k
theorem sumTo_le (f : Nat → Nat) {k n : Nat} (h : k ≤ n) : sumTo f k ≤ sumTo f n := by
  induction n with
  | zero => rw [Nat.le_zero.1 h]; exact Nat.le_refl _
  | succ n ih =>
    by_cases e : k = n + 1
    · rw [e]; exact Nat.le_refl _
    · exact Nat.le_trans (ih (by omega)) (Nat.le_add_right _ _)
theorem sumTo_step (f : Nat → Nat) {k m : Nat} (h : f k = m) : sumTo f (k + 1) = sumTo f k + m := by rw [← h]; rfl
theorem le_sumTo (f : Nat → Nat) {k n : Nat} (h : k < n) : f k ≤ sumTo f n := Nat.le_trans (Nat.le_add_left _ _) (sumTo_le f (show k + 1 ≤ n from h))

/-- What a size's count answers: what is left, or -1. -/
def szOut (left : Int) (wt : Nat) : Int := if left < wt then -1 else left - wt

/-- A list's entry as data. -/
structure StmD where
  kind : Int
  a : Int
  b : Int
  code : List (Int × Int)
def stm0 : StmD := ⟨0, 0, 0, []⟩

def StmAt (w : World) (b o : Nat) (s : StmD) : Prop :=
  w.cell? ⟨b, o, none⟩ = some (.int .i64 s.kind) ∧ w.cell? ⟨b, o + 1, none⟩ = some (.int .i64 s.a) ∧ w.cell? ⟨b, o + 2, none⟩ = some (.int .i64 s.b) ∧
    ∃ co cn cc, w.cell? ⟨b, o + 3, none⟩ = some (.slice co cn cc) ∧ cn ≤ 9223372036854775807 ∧ ItemsOf w co cn s.code
def StmsOf (w : World) (ao : Option Addr) (n : Nat) (ss : List StmD) : Prop :=
  ss.length = n ∧ (0 < n → ∃ b off, ao = some ⟨b, off, none⟩ ∧ b < w.heap.size ∧ ∀ i, i < n → StmAt w b (off + i * 4) (ss.getD i stm0))

theorem StmAt.below {w w' : World} {b o : Nat} {s : StmD} (h : StmAt w b o s) (hlt : b < w.heap.size) (hb : Below w.heap.size w w') : StmAt w' b o s := by
  obtain ⟨h1, h2, h3, co, cn, cc, h4, h5, h6⟩ := h
  exact ⟨(hb.cell (p := ⟨b, o, none⟩) hlt).trans h1, (hb.cell (p := ⟨b, o + 1, none⟩) hlt).trans h2, (hb.cell (p := ⟨b, o + 2, none⟩) hlt).trans h3, co, cn, cc, (hb.cell (p := ⟨b, o + 3, none⟩) hlt).trans h4, h5, h6.below hb⟩
theorem StmsOf.below {w w' : World} {ao : Option Addr} {n : Nat} {ss : List StmD} (h : StmsOf w ao n ss) (hb : Below w.heap.size w w') : StmsOf w' ao n ss :=
  ⟨h.1, fun hn => by
    obtain ⟨b, off, e, hlt, hc⟩ := h.2 hn
    exact ⟨b, off, e, Nat.lt_of_lt_of_le hlt hb.size, fun i hi => (hc i hi).below hlt hb⟩⟩

/-- How much a list of statements weighs. -/
def wStms (ss : List StmD) : Nat := ss.length + sumTo (fun i => (ss.getD i stm0).code.length) ss.length

set_option maxHeartbeats 400000 in
theorem szStm_any (k a b : Int) (co : Option Addr) (cn cc : Nat) (left : Int) (w : World) (hn : cn ≤ 9223372036854775807) (h0 : 0 ≤ left) (h1 : left ≤ 1048576) :
    Calls Tryz.prog 208 #[.agg #[.int .i64 k, .int .i64 a, .int .i64 b, .slice co cn cc], .int .i64 left] w fun e w' => e = .returned (.int .i64 (szOut left cn)) ∧ Below w.heap.size w w' := by
  have C := hid (fun w => szItemS_any co cn cc left w hn h0 h1)
  by_cases h : left < cn
  · have E : Hid (szOut left cn = -1) := hid (if_pos h)
    rw [if_pos h] at C
    rw [E.out]
    go_enter Tryz.func208, Tryz.ntmps208
    go_wp2_with (go_at_call 179; refine (C.out _).mono ?_; rintro e w1 ⟨rfl, hw⟩; obtain rfl := hw.symm)
    go_ret
    exact ⟨rfl, below1 _ _⟩
  · have E : Hid (szOut left cn = left - cn) := hid (if_neg h)
    rw [if_neg h] at C
    rw [E.out]
    go_enter Tryz.func208, Tryz.ntmps208
    go_wp2_with (go_at_call 179; refine (C.out _).mono ?_; rintro e w1 ⟨rfl, hw⟩; obtain rfl := hw.symm)
    go_ret
    exact ⟨rfl, below1 _ _⟩

set_option maxHeartbeats 800000 in
theorem szStmS_any (ao : Option Addr) (n c : Nat) (ss : List StmD) (lft : Int) (w : World) (hn : n ≤ 9223372036854775807) (g0 : 0 ≤ lft) (g1 : lft ≤ 1048576) (hs : StmsOf w ao n ss) :
    Calls Tryz.prog 178 #[.slice ao n c, .int .i64 lft] w fun e w' => e = .returned (.int .i64 (szOut lft (wStms ss))) ∧ Below w.heap.size w w' := by
  have HL := hid hs.1
  by_cases h : lft - n < 0
  · have E : Hid (szOut lft (wStms ss) = -1) := hid (if_pos (by unfold wStms; rw [HL.out]; omega))
    rw [E.out]
    clear hs
    go_enter Tryz.func178, Tryz.ntmps178
    go_wp2
    go_ret
    exact ⟨rfl, Below.refl _ _⟩
  · have hn' : n ≤ 1048576 := by omega
    go_enter Tryz.func178, Tryz.ntmps178
    go_wp2
    go_loopw [1, 5] (fun l i wr => ∃ (k : Nat) (left : Int), k ≤ n ∧ i = .int .i64 k ∧ l = .int .i64 left ∧ 0 ≤ left ∧ left ≤ 1048576 ∧ Hid (left = lft - n - (sumTo (fun i => (ss.getD i stm0).code.length) k : Nat)) ∧ Below w.heap.size w wr) (fun _ i _ => n - (intOf i).toNat)
    case atStart => exact ⟨0, _, Nat.zero_le _, rfl, rfl, by omega, by omega, hid (by simp [sumTo]), Below.refl _ _⟩
    case round =>
      obtain ⟨k, left, hk, rfl, rfl, hl0, hl1, HP, hb⟩ := hrel
      have HB := hid hb
      by_cases hlt : k < n
      · obtain ⟨b, off, rfl, hbl, hc⟩ := hs.2 (by omega)
        obtain ⟨s, es⟩ : ∃ s, s = ss.getD k stm0 := ⟨_, rfl⟩
        have hk4 := hc k hlt
        rw [← es] at hk4
        obtain ⟨x1, x2, x3, co, cn, cc, x4, hcn, hit⟩ := hk4
        have k1 := (hb.cell (p := ⟨b, off + k * 4, none⟩) hbl).trans x1
        have k2 := (hb.cell (p := ⟨b, off + k * 4 + 1, none⟩) hbl).trans x2
        have k3 := (hb.cell (p := ⟨b, off + k * 4 + 2, none⟩) hbl).trans x3
        have k4 := (hb.cell (p := ⟨b, off + k * 4 + 3, none⟩) hbl).trans x4
        have EL : Hid (s.code.length = cn) := hit.1
        have ES : Hid (sumTo (fun i => (ss.getD i stm0).code.length) (k + 1) = sumTo (fun i => (ss.getD i stm0).code.length) k + cn) := hid (sumTo_step _ (by show (ss.getD k stm0).code.length = cn; rw [← es]; exact EL.out))
        have EM : Hid (sumTo (fun i => (ss.getD i stm0).code.length) (k + 1) ≤ sumTo (fun i => (ss.getD i stm0).code.length) n) := hid (sumTo_le _ hlt)
        have C := hid (fun w => szStm_any s.kind s.a s.b co cn cc left w hcn hl0 hl1)
        clear hc hs hb es x1 x2 x3 x4 hit
        by_cases hneg : left < cn
        · have E2 : Hid (szOut left cn = -1) := hid (if_pos hneg)
          rw [E2.out] at C
          go_wp2_with (go_at_call 208; refine (C.out _).mono ?_; rintro e w1 ⟨rfl, hb1⟩; have B1 := hid hb1; clear hb1)
          go_ret
          have h1 := HP.out
          have h2 := ES.out
          have h3 := EM.out
          refine ⟨ret_int (Eq.symm (if_pos ?_)), HB.out.trans (B1.out.mono HB.out.size)⟩
          unfold wStms
          rw [HL.out]
          omega
        · have E2 : Hid (szOut left cn = left - cn) := hid (if_neg hneg)
          have hnn : ¬ left - cn < 0 := by omega
          rw [E2.out] at C
          go_wp2_with (go_at_call 208; refine (C.out _).mono ?_; rintro e w1 ⟨rfl, hb1⟩; have B1 := hid hb1; clear hb1)
          go_roundw
          case rel =>
            have h1 := HP.out
            have h2 := ES.out
            exact ⟨k + 1, left - cn, by omega, by go_num, rfl, by omega, by omega, hid (by rw [h1, h2]; omega), HB.out.trans (B1.out.mono HB.out.size)⟩
          case measure => simp [intOf]; omega
      · have e : k = n := by omega
        subst e
        clear hs hb
        go_wp2
        go_ret
        have h1 := HP.out
        refine ⟨ret_int ?_, HB.out⟩
        unfold szOut wStms
        rw [HL.out, if_neg (by omega)]
        omega

/-- Blocks from L on that were there are as they were. -/
def Same (L : Nat) (w w' : World) : Prop := ∀ k, L ≤ k → k < w.heap.size → w'.heap[k]? = w.heap[k]?
theorem Same.of_below {L : Nat} {w w' : World} (h : Below w.heap.size w w') : Same L w w' := fun k _ hk => h.block k hk
theorem Same.set {L : Nat} (w : World) {B o : Nat} (h : B < L) (u : Value) : Same L w (w.setCell ⟨B, o, none⟩ u) := fun k hk _ => Below.heap_setCell _ _ _ _ (by simp; omega)

/-- A row of items that was made: its block, from L on, bears their type. -/
def IRow (w : World) (L : Nat) (v : Value) (its : List (Int × Int)) : Prop :=
  ∃ g, L ≤ g ∧ v = .slice (some ⟨g, 0, none⟩) its.length its.length ∧ w.rowIs g 225 (its.length * 2) (icell its)
theorem rowIs_same {L : Nat} {w w' : World} {g : Nat} {t : TypeId} {n : Nat} {F : Nat → Value} (h : w.rowIs g t n F) (hg : L ≤ g) (hs : Same L w w') : w'.rowIs g t n F := h.of_block (hs g hg h.lt)
theorem IRow.same {w w' : World} {L : Nat} {v : Value} {its : List (Int × Int)} (h : IRow w L v its) (hs : Same L w w') : IRow w' L v its := by
  obtain ⟨g, hg, e, hr⟩ := h
  exact ⟨g, hg, e, rowIs_same hr hg hs⟩
theorem IRow.mono {w : World} {L L' : Nat} {v : Value} {its : List (Int × Int)} (h : IRow w L v its) (hl : L' ≤ L) : IRow w L' v its := by
  obtain ⟨g, hg, e, hr⟩ := h
  exact ⟨g, Nat.le_trans hl hg, e, hr⟩
theorem IRow.items {w : World} {L : Nat} {v : Value} {its : List (Int × Int)} (h : IRow w L v its) : ∃ g, v = .slice (some ⟨g, 0, none⟩) its.length its.length ∧ ItemsOf w (some ⟨g, 0, none⟩) its.length its := by
  obtain ⟨g, hg, e, hr⟩ := h
  exact ⟨g, e, ItemsOf.row rfl hr⟩

def SCells (w : World) (L : Nat) (F : Nat → Value) (ss : List StmD) (k : Nat) : Prop :=
  ∀ i, i < k → F (i * 4) = .int .i64 (ss.getD i stm0).kind ∧ F (i * 4 + 1) = .int .i64 (ss.getD i stm0).a ∧ F (i * 4 + 2) = .int .i64 (ss.getD i stm0).b ∧ IRow w L (F (i * 4 + 3)) (ss.getD i stm0).code
theorem SCells.same {w w' : World} {L : Nat} {F : Nat → Value} {ss : List StmD} {k : Nat} (h : SCells w L F ss k) (hs : Same L w w') : SCells w' L F ss k := fun i hi => ⟨(h i hi).1, (h i hi).2.1, (h i hi).2.2.1, (h i hi).2.2.2.same hs⟩
theorem SCells.mono {w : World} {L L' : Nat} {F : Nat → Value} {ss : List StmD} {k : Nat} (h : SCells w L F ss k) (hl : L' ≤ L) : SCells w L' F ss k := fun i hi => ⟨(h i hi).1, (h i hi).2.1, (h i hi).2.2.1, (h i hi).2.2.2.mono hl⟩
/-- A row of statements that was made. -/
def SRow (w : World) (L : Nat) (v : Value) (ss : List StmD) : Prop :=
  ∃ g F, L ≤ g ∧ v = .slice (some ⟨g, 0, none⟩) ss.length ss.length ∧ w.rowIs g 223 (ss.length * 4) F ∧ SCells w L F ss ss.length
theorem SRow.same {w w' : World} {L : Nat} {v : Value} {ss : List StmD} (h : SRow w L v ss) (hs : Same L w w') : SRow w' L v ss := by
  obtain ⟨g, F, hg, e, hr, hc⟩ := h
  exact ⟨g, F, hg, e, rowIs_same hr hg hs, hc.same hs⟩
theorem SRow.mono {w : World} {L L' : Nat} {v : Value} {ss : List StmD} (h : SRow w L v ss) (hl : L' ≤ L) : SRow w L' v ss := by
  obtain ⟨g, F, hg, e, hr, hc⟩ := h
  exact ⟨g, F, Nat.le_trans hl hg, e, hr, hc.mono hl⟩
theorem SRow.stms {w : World} {L : Nat} {v : Value} {ss : List StmD} (h : SRow w L v ss) (hle : ∀ i, i < ss.length → (ss.getD i stm0).code.length ≤ 9223372036854775807) : ∃ g, v = .slice (some ⟨g, 0, none⟩) ss.length ss.length ∧ StmsOf w (some ⟨g, 0, none⟩) ss.length ss := by
  obtain ⟨g, F, hg, e, hr, hc⟩ := h
  refine ⟨g, e, rfl, fun _ => ⟨g, 0, rfl, hr.lt, fun i hi => ?_⟩⟩
  obtain ⟨h1, h2, h3, h4⟩ := hc i hi
  obtain ⟨q, e4, hit⟩ := h4.items
  refine ⟨?_, ?_, ?_, some ⟨q, 0, none⟩, (ss.getD i stm0).code.length, (ss.getD i stm0).code.length, ?_, hle i hi, hit⟩
  · rw [← h1]; simpa using hr.cell (i := i * 4) (by omega)
  · rw [← h2]; simpa using hr.cell (i := i * 4 + 1) (by omega)
  · rw [← h3]; simpa using hr.cell (i := i * 4 + 2) (by omega)
  · rw [← e4]; simpa using hr.cell (i := i * 4 + 3) (by omega)

theorem run_make_quads (t e : TypeId) (z0 z1 z2 z3 : Value) (bytes : Nat) (ht : Tryz.prog.underlying t = some (.slice e)) (hinfo : (Tryz.prog.info? e).map (fun i => (i.zero, i.size, i.bytes)) = some (some (.agg #[z0, z1, z2, z3]), 4, bytes))
    (kl kc : IntKind) (n : Nat) (hbytes : bytes * n ≤ 281474976710656) (h63 : n ≤ 9223372036854775807) (w : World) :
    (Instr.makeSlice t (.int kl (n : Int)) (.int kc (n : Int))).run Tryz.prog w = .ok (.slice (some ⟨w.heap.size, 0, none⟩) n n) (w.alloc (.cells (madeCells #[z0, z1, z2, z3] (n * 4)) e)) := by
  obtain ⟨i, hi, hzz⟩ := Option.map_eq_some_iff.1 hinfo
  simp only [Prod.mk.injEq] at hzz
  obtain ⟨hz, hs, hb⟩ := hzz
  have hb' : (i.bytes : Int) * (n : Int) ≤ 281474976710656 := by
    have h : ((i.bytes * n : Nat) : Int) ≤ 281474976710656 := by rw [hb]; omega
    rwa [Int.natCast_mul] at h
  have hr := run_make (P := Tryz.prog) w t e i (.agg #[z0, z1, z2, z3]) ht hi hz kl kc n n (by omega) (Int.le_refl _) hb' (by omega)
  simp only [Int.toNat_natCast, hs] at hr
  exact hr
theorem infoStm : (Tryz.prog.info? 223).map (fun i => (i.zero, i.size, i.bytes)) = some (some (.agg #[.int .i64 0, .int .i64 0, .int .i64 0, .slice none 0 0]), 4, 48) := by kernel_rfl
theorem rowIs_quads (w : World) (z0 z1 z2 z3 : Value) (n : Nat) (t : TypeId) : (w.alloc (.cells (madeCells #[z0, z1, z2, z3] (n * 4)) t)).rowIs w.heap.size t (n * 4) (fun i => #[z0, z1, z2, z3][i % 4]!) :=
  ⟨_, heap_alloc_new _ _, size_madeCells _ _, fun i hi => by simp [madeCells, hi]⟩
theorem below_set {w w1 : World} {H o : Nat} {v : Value} (h : Below w.heap.size w w1) (hH : w.heap.size ≤ H) : Below w.heap.size w (w1.setCell ⟨H, o, none⟩ v) := h.setCell hH _

set_option maxHeartbeats 400000 in
theorem toStm_any (k a b : Int) (co : Option Addr) (cn cc : Nat) (its : List (Int × Int)) (w : World) (hn : cn ≤ 1048576) (hs : ItemsOf w co cn its) :
    Calls Tryz.prog 215 #[.agg #[.int .i64 k, .int .i64 a, .int .i64 b, .slice co cn cc]] w fun e w' => ∃ g, e = .returned (.agg #[.int .i64 k, .int .i64 a, .int .i64 b, .slice (some ⟨g, 0, none⟩) cn cn]) ∧ IRow w' w.heap.size (.slice (some ⟨g, 0, none⟩) cn cn) its ∧ Below w.heap.size w w' := by
  have HS : Hid (∀ w', Below w.heap.size w w' → ItemsOf w' co cn its) := fun w' h => hs.below h
  clear hs
  go_enter Tryz.func215, Tryz.ntmps215
  go_wp2_with (go_at_call 184; refine (toItemS_any co cn cc its _ hn (HS.out _ (below3 _ _ _ _))).mono ?_; rintro e w1 ⟨rfl, hr1, hb1⟩; have hz := hr1.lt; simp only [World.size_alloc] at hz; obtain ⟨hc, hf⟩ := bcell2 hb1; have HR := hid hr1; have HB := hid hb1; clear hr1 hb1; have hza : w.heap.size + 1 + 1 < w1.heap.size := (by omega); have hzb : w.heap.size + 1 < w1.heap.size := (by omega))
  have r1 := HR.out
  simp only [World.size_alloc] at r1
  have b1 := HB.out
  simp only [World.size_alloc] at b1
  have hl := (HS.out _ (Below.refl _ _)).1
  have i0 : IRow w1 (w.heap.size + 1 + 1 + 1) (.slice (some ⟨w.heap.size + 1 + 1 + 1, 0, none⟩) cn cn) its := ⟨_, Nat.le_refl _, by rw [hl], by rw [hl]; exact r1⟩
  have i1 := (((((i0.same (Same.set _ (B := w.heap.size + 1 + 1) (o := 3) (by omega) (Value.slice (some ⟨w.heap.size + 1 + 1 + 1, 0, none⟩) cn cn))).same (Same.set _ (B := w.heap.size + 1) (o := 0) (by omega) (Value.int .i64 k))).same (Same.set _ (B := w.heap.size + 1) (o := 1) (by omega) (Value.int .i64 a))).same (Same.set _ (B := w.heap.size + 1) (o := 2) (by omega) (Value.int .i64 b))).same (Same.set _ (B := w.heap.size + 1) (o := 3) (by omega) (Value.slice (some ⟨w.heap.size + 1 + 1 + 1, 0, none⟩) cn cn)))
  refine bodyPost_ret (v := .agg #[.int .i64 k, .int .i64 a, .int .i64 b, .slice (some ⟨w.heap.size + 1 + 1 + 1, 0, none⟩) cn cn]) (by simp [results, Tryz.results215, go_sem, hc]) rfl ⟨_, rfl, i1.mono (by omega), ?_⟩
  exact below_set (below_set (below_set (below_set (below_set ((below3 _ _ _ _).trans (b1.mono (by omega))) (by omega)) (by omega)) (by omega)) (by omega)) (by omega)

theorem stm_step {w wr : World} {B n k : Nat} {F : Nat → Value} {ss : List StmD} {v : Value} (hr : wr.rowIs B 223 (n * 4) F) (hc : SCells wr (B + 1) F ss k) (hb : Below B w wr)
    (hi : IRow wr (B + 1) v (ss.getD k stm0).code) :
    ∃ F', ((((wr.setCell ⟨B, k * 4, none⟩ (.int .i64 (ss.getD k stm0).kind)).setCell ⟨B, k * 4 + 1, none⟩ (.int .i64 (ss.getD k stm0).a)).setCell ⟨B, k * 4 + 2, none⟩ (.int .i64 (ss.getD k stm0).b)).setCell ⟨B, k * 4 + 3, none⟩ v).rowIs B 223 (n * 4) F' ∧
      SCells ((((wr.setCell ⟨B, k * 4, none⟩ (.int .i64 (ss.getD k stm0).kind)).setCell ⟨B, k * 4 + 1, none⟩ (.int .i64 (ss.getD k stm0).a)).setCell ⟨B, k * 4 + 2, none⟩ (.int .i64 (ss.getD k stm0).b)).setCell ⟨B, k * 4 + 3, none⟩ v) (B + 1) F' ss (k + 1) ∧
      Below B w ((((wr.setCell ⟨B, k * 4, none⟩ (.int .i64 (ss.getD k stm0).kind)).setCell ⟨B, k * 4 + 1, none⟩ (.int .i64 (ss.getD k stm0).a)).setCell ⟨B, k * 4 + 2, none⟩ (.int .i64 (ss.getD k stm0).b)).setCell ⟨B, k * 4 + 3, none⟩ v) := by
  refine ⟨_, (((hr.set (k * 4) _).set (k * 4 + 1) _).set (k * 4 + 2) _).set (k * 4 + 3) _, ?_, (((hb.setCell (Nat.le_refl _) _).setCell (Nat.le_refl _) _).setCell (Nat.le_refl _) _).setCell (Nat.le_refl _) _⟩
  have hc' := (((hc.same (Same.set _ (o := k * 4) (Nat.lt_succ_self B) (.int .i64 (ss.getD k stm0).kind))).same (Same.set _ (o := k * 4 + 1) (Nat.lt_succ_self B) (.int .i64 (ss.getD k stm0).a))).same (Same.set _ (o := k * 4 + 2) (Nat.lt_succ_self B) (.int .i64 (ss.getD k stm0).b))).same (Same.set _ (o := k * 4 + 3) (Nat.lt_succ_self B) v)
  have hi' := (((hi.same (Same.set _ (o := k * 4) (Nat.lt_succ_self B) (.int .i64 (ss.getD k stm0).kind))).same (Same.set _ (o := k * 4 + 1) (Nat.lt_succ_self B) (.int .i64 (ss.getD k stm0).a))).same (Same.set _ (o := k * 4 + 2) (Nat.lt_succ_self B) (.int .i64 (ss.getD k stm0).b))).same (Same.set _ (o := k * 4 + 3) (Nat.lt_succ_self B) v)
  intro i hi
  by_cases e : i = k
  · subst e
    refine ⟨?_, ?_, ?_, ?_⟩
    · simp
    · simp
    · simp
    · simpa using hi'
  · obtain ⟨h1, h2, h3, h4⟩ := hc' i (by omega)
    refine ⟨?_, ?_, ?_, ?_⟩
    · dsimp only; rw [if_neg (by omega), if_neg (by omega), if_neg (by omega), if_neg (by omega)]; exact h1
    · dsimp only; rw [if_neg (by omega), if_neg (by omega), if_neg (by omega), if_neg (by omega)]; exact h2
    · dsimp only; rw [if_neg (by omega), if_neg (by omega), if_neg (by omega), if_neg (by omega)]; exact h3
    · dsimp only; rw [if_neg (by omega), if_neg (by omega), if_neg (by omega), if_neg (by omega)]; exact h4

set_option maxHeartbeats 800000 in
theorem toStmS_any (ao : Option Addr) (n c : Nat) (ss : List StmD) (w : World) (hn : n ≤ 1048576) (hcs : ∀ i, i < n → (ss.getD i stm0).code.length ≤ 1048576) (hs : StmsOf w ao n ss) :
    Calls Tryz.prog 183 #[.slice ao n c] w fun e w' => ∃ g, e = .returned (.slice (some ⟨g, 0, none⟩) n n) ∧ SRow w' w.heap.size (.slice (some ⟨g, 0, none⟩) n n) ss ∧ Below w.heap.size w w' := by
  have hmk := run_make_quads 194 223 (.int .i64 0) (.int .i64 0) (.int .i64 0) (.slice none 0 0) 48 Tryz.underlying194 infoStm .i64 .i64 n (by omega) (by omega)
  have HC := hid hcs
  have HL := hid hs.1
  clear hcs
  go_enter Tryz.func183, Tryz.ntmps183
  go_wp2
  go_loopw [4] (fun i wr => ∃ k : Nat, k ≤ n ∧ i = .int .i64 k ∧ (∃ F, wr.rowIs w.heap.size 223 (n * 4) F ∧ SCells wr (w.heap.size + 1) F ss k) ∧ Below w.heap.size w wr) (fun i _ => n - (intOf i).toNat)
  case atStart => exact ⟨0, Nat.zero_le _, rfl, ⟨_, rowIs_quads w _ _ _ _ n 223, fun i h => absurd h (by omega)⟩, (Below.refl _ _).alloc (Nat.le_refl _) _⟩
  case round =>
    obtain ⟨k, hk, rfl, ⟨F, hr, hcp⟩, hb⟩ := hrel
    have HR := hid hr
    have HB := hid hb
    have HP := hid hcp
    have hsz := hr.lt
    clear hcp
    by_cases hlt : k < n
    · obtain ⟨b, off, rfl, hbl, hc⟩ := hs.2 (by omega)
      obtain ⟨s, es⟩ : ∃ s, s = ss.getD k stm0 := ⟨_, rfl⟩
      have hk4 := hc k hlt
      rw [← es] at hk4
      obtain ⟨x1, x2, x3, co, cn, cc, x4, hcn, hit⟩ := hk4
      have k1 := (hb.cell (p := ⟨b, off + k * 4, none⟩) hbl).trans x1
      have k2 := (hb.cell (p := ⟨b, off + k * 4 + 1, none⟩) hbl).trans x2
      have k3 := (hb.cell (p := ⟨b, off + k * 4 + 2, none⟩) hbl).trans x3
      have k4 := (hb.cell (p := ⟨b, off + k * 4 + 3, none⟩) hbl).trans x4
      have hcn' : cn ≤ 1048576 := by have := HC.out k hlt; rw [← es, hit.1] at this; exact this
      have ES := hid es
      have HI : Hid (ItemsOf wr co cn s.code) := hid (hit.below hb)
      obtain ⟨kd, hkd⟩ : ∃ kd, kd = s.kind := ⟨_, rfl⟩
      obtain ⟨av, hav⟩ : ∃ av, av = s.a := ⟨_, rfl⟩
      obtain ⟨bv, hbv⟩ : ∃ bv, bv = s.b := ⟨_, rfl⟩
      rw [← hkd] at k1
      rw [← hav] at k2
      rw [← hbv] at k3
      have EK := hid hkd
      have EA := hid hav
      have EB := hid hbv
      clear hs hc hr hb x1 x2 x3 x4 hit es hcn hkd hav hbv
      go_wp2_with (go_at_call 215; refine (toStm_any kd av bv co cn cc s.code _ hcn' HI.out).mono ?_; rintro e w1 ⟨g, rfl, hi1, hb1⟩; have hr1 := HR.out.of_block (hb1.block _ hsz); have f0 := hr1.frozen (k * 4); have f1 := hr1.frozen (k * 4 + 1); have f2 := hr1.frozen (k * 4 + 2); have f3 := hr1.frozen (k * 4 + 3); have g0 := hr1.cell (i := k * 4) (by omega); have g1 := hr1.cell (i := k * 4 + 1) (by omega); have g2 := hr1.cell (i := k * 4 + 2) (by omega); have g3 := hr1.cell (i := k * 4 + 3) (by omega); have R1 := hid hr1; have I1 := hid hi1; have B1 := hid hb1; clear hr1 hi1 hb1)
      have cs := stm_step (ss := ss) (k := k) R1.out (HP.out.same (Same.of_below B1.out)) (HB.out.trans (B1.out.mono (Nat.le_of_lt hsz))) (v := .slice (some ⟨g, 0, none⟩) cn cn) (by rw [← ES.out]; exact I1.out.mono hsz)
      rw [← ES.out, ← EK.out, ← EA.out, ← EB.out] at cs
      obtain ⟨F', c1, c2, c3⟩ := cs
      go_roundw
      case rel => exact ⟨k + 1, by omega, by go_num, ⟨F', c1, c2⟩, c3⟩
      case measure => simp [intOf]; omega
    · have e : k = n := by omega
      subst e
      clear hs hr hb
      go_wp2
      go_ret
      have hl := HL.out
      exact ⟨_, rfl, ⟨w.heap.size, F, Nat.le_refl _, by rw [hl], by rw [hl]; exact HR.out, by rw [hl]; exact HP.out.mono (by omega)⟩, HB.out⟩

set_option maxHeartbeats 400000 in
theorem eqStm_same (k a b : Int) (co bo : Option Addr) (cn cc dc : Nat) (its : List (Int × Int)) (w : World) (hn : cn ≤ 1048576) (hx : ItemsOf w co cn its) (hy : ItemsOf w bo cn its) :
    Calls Tryz.prog 225 #[.agg #[.int .i64 k, .int .i64 a, .int .i64 b, .slice co cn cc], .agg #[.int .i64 k, .int .i64 a, .int .i64 b, .slice bo cn dc]] w fun e w' => e = .returned (.bool true) ∧ Below w.heap.size w w' := by
  have HX : Hid (∀ w', Below w.heap.size w w' → ItemsOf w' co cn its ∧ ItemsOf w' bo cn its) := fun w' h => ⟨hx.below h, hy.below h⟩
  clear hx hy
  go_enter Tryz.func225, Tryz.ntmps225
  go_wp2_with (go_at_call 207; refine (eqItemS_same co bo cn cc dc its _ hn (HX.out _ (below2 _ _ _)).1 (HX.out _ (below2 _ _ _)).2).mono ?_; rintro e w1 ⟨rfl, hb⟩; have HB := hid hb; clear hb)
  go_ret
  exact ⟨rfl, (below2 _ _ _).trans (HB.out.mono (by simp; omega))⟩

set_option maxHeartbeats 800000 in
theorem eqStmS_same (ao bo : Option Addr) (n c d : Nat) (ss : List StmD) (w : World) (hn : n ≤ 1048576) (hcs : ∀ i, i < n → (ss.getD i stm0).code.length ≤ 1048576) (hx : StmsOf w ao n ss) (hy : StmsOf w bo n ss) :
    Calls Tryz.prog 206 #[.slice ao n c, .slice bo n d] w fun e w' => e = .returned (.bool true) ∧ Below w.heap.size w w' := by
  have HC := hid hcs
  clear hcs
  go_enter Tryz.func206, Tryz.ntmps206
  go_wp2
  go_loopw [5] (fun i wr => ∃ k : Nat, k ≤ n ∧ i = .int .i64 k ∧ Below w.heap.size w wr) (fun i _ => n - (intOf i).toNat)
  case atStart => exact ⟨0, Nat.zero_le _, rfl, Below.refl _ _⟩
  case round =>
    obtain ⟨k, hk, rfl, hb⟩ := hrel
    have HB := hid hb
    by_cases hlt : k < n
    · obtain ⟨b, off, rfl, hbl, hc⟩ := hx.2 (by omega)
      obtain ⟨b2, off2, rfl, hbl2, hc2⟩ := hy.2 (by omega)
      have hi : (k : Int) < (n : Int) := by omega
      obtain ⟨x1, x2, x3, co, cn, cc, x4, hcn, hit⟩ := hc k hlt
      obtain ⟨y1, y2, y3, do_, dn, dc, y4, hdn, hit2⟩ := hc2 k hlt
      have hdn' : dn = cn := by rw [← hit2.1, hit.1]
      subst hdn'
      have hcn' : dn ≤ 1048576 := by have := HC.out k hlt; rw [hit.1] at this; exact this
      have j1 : Below w.heap.size w wr := hb
      have k1 := cell_regrown ((hb.cell (p := ⟨b, off + k * 4, none⟩) hbl).trans x1)
      have k2 := cell_regrown ((hb.cell (p := ⟨b, off + k * 4 + 1, none⟩) hbl).trans x2)
      have k3 := cell_regrown ((hb.cell (p := ⟨b, off + k * 4 + 2, none⟩) hbl).trans x3)
      have k4 := cell_regrown ((hb.cell (p := ⟨b, off + k * 4 + 3, none⟩) hbl).trans x4)
      have l1 := cell_regrown ((hb.cell (p := ⟨b2, off2 + k * 4, none⟩) hbl2).trans y1)
      have l2 := cell_regrown ((hb.cell (p := ⟨b2, off2 + k * 4 + 1, none⟩) hbl2).trans y2)
      have l3 := cell_regrown ((hb.cell (p := ⟨b2, off2 + k * 4 + 2, none⟩) hbl2).trans y3)
      have l4 := cell_regrown ((hb.cell (p := ⟨b2, off2 + k * 4 + 3, none⟩) hbl2).trans y4)
      obtain ⟨s, es⟩ : ∃ s, s = ss.getD k stm0 := ⟨_, rfl⟩
      rw [← es] at k1 k2 k3 l1 l2 l3 hit hit2
      have c47 : ∀ d os, Calls Tryz.prog 225 #[.agg #[.int .i64 s.kind, .int .i64 s.a, .int .i64 s.b, .slice co dn cc], .agg #[.int .i64 s.kind, .int .i64 s.a, .int .i64 s.b, .slice do_ dn dc]] (grow (redrawn wr d) os) fun e w'' => e = .returned (.bool true) ∧ ∃ p : Regrown, w'' = grow (redrawn wr p.d) p.os :=
        fun d os => Calls.regrown_of (eqStm_same s.kind s.a s.b co do_ dn cc dc s.code _ hcn' (hit.below (j1.trans ((below_regrown wr d os).mono j1.size))) (hit2.below (j1.trans ((below_regrown wr d os).mono j1.size))))
      obtain ⟨kd, hkd⟩ : ∃ kd, kd = s.kind := ⟨_, rfl⟩
      obtain ⟨av, hav⟩ : ∃ av, av = s.a := ⟨_, rfl⟩
      obtain ⟨bv, hbv⟩ : ∃ bv, bv = s.b := ⟨_, rfl⟩
      rw [← hkd] at k1 l1 c47
      rw [← hav] at k2 l2 c47
      rw [← hbv] at k3 l3 c47
      clear hx hy hc hc2 x1 x2 x3 x4 y1 y2 y3 y4 hit hit2 es j1 hb hkd hav hbv hcn hdn
      go_wp2
      refine wp_region_quiet_below (by kernel_rfl) (by kernel_rfl) ?_
      repeat (any_goals (first | go_big_quiet_step (first | exact c47 _ _) | quiet_step (first | exact c47 _ _)))
      refine wpQuiet_nil ?_
      intro _ hw'
      obtain ⟨⟨dq, osq⟩, hw''⟩ := hw'
      subst hw''
      go_wp2
      go_roundw
      case rel => exact ⟨k + 1, by omega, by go_num, HB.out.trans ((below_regrown wr dq osq).mono HB.out.size)⟩
      case measure => simp [intOf]; omega
    · have e : k = n := by omega
      subst e
      clear hx hy hb
      go_wp2
      go_ret
      exact ⟨rfl, HB.out⟩
end Go.Proofs.YthaklmdhkkfigaaGreat
namespace Go.Proofs.YthaklmdhkkfigaaGreat
open Go.RowKit Go.Sort

/-- A state, a transition, as data. -/
structure StD where
  parent : Int
  initial : Int
  entry : List StmD
  exit : List StmD
def st0 : StD := ⟨0, 0, [], []⟩
structure TrD where
  src : Int
  sig : Int
  guard : List (Int × Int)
  target : Int
  action : List StmD
def tr0 : TrD := ⟨0, 0, [], 0, []⟩

def StAt (w : World) (b o : Nat) (s : StD) : Prop :=
  w.cell? ⟨b, o, none⟩ = some (.int .i64 s.parent) ∧ w.cell? ⟨b, o + 1, none⟩ = some (.int .i64 s.initial) ∧
    (∃ co cn cc, w.cell? ⟨b, o + 2, none⟩ = some (.slice co cn cc) ∧ cn ≤ 9223372036854775807 ∧ StmsOf w co cn s.entry) ∧
    ∃ co cn cc, w.cell? ⟨b, o + 3, none⟩ = some (.slice co cn cc) ∧ cn ≤ 9223372036854775807 ∧ StmsOf w co cn s.exit
def StatesOf (w : World) (ao : Option Addr) (n : Nat) (ss : List StD) : Prop :=
  ss.length = n ∧ (0 < n → ∃ b off, ao = some ⟨b, off, none⟩ ∧ b < w.heap.size ∧ ∀ i, i < n → StAt w b (off + i * 4) (ss.getD i st0))
def TrAt (w : World) (b o : Nat) (s : TrD) : Prop :=
  w.cell? ⟨b, o, none⟩ = some (.int .i64 s.src) ∧ w.cell? ⟨b, o + 1, none⟩ = some (.int .i64 s.sig) ∧
    (∃ co cn cc, w.cell? ⟨b, o + 2, none⟩ = some (.slice co cn cc) ∧ cn ≤ 9223372036854775807 ∧ ItemsOf w co cn s.guard) ∧ w.cell? ⟨b, o + 3, none⟩ = some (.int .i64 s.target) ∧
    ∃ co cn cc, w.cell? ⟨b, o + 4, none⟩ = some (.slice co cn cc) ∧ cn ≤ 9223372036854775807 ∧ StmsOf w co cn s.action
def TransOf (w : World) (ao : Option Addr) (n : Nat) (ss : List TrD) : Prop :=
  ss.length = n ∧ (0 < n → ∃ b off, ao = some ⟨b, off, none⟩ ∧ b < w.heap.size ∧ ∀ i, i < n → TrAt w b (off + i * 5) (ss.getD i tr0))

theorem StAt.below {w w' : World} {b o : Nat} {s : StD} (h : StAt w b o s) (hlt : b < w.heap.size) (hb : Below w.heap.size w w') : StAt w' b o s := by
  obtain ⟨h1, h2, ⟨co, cn, cc, h4, h5, h6⟩, ⟨do_, dn, dc, h7, h8, h9⟩⟩ := h
  exact ⟨(hb.cell (p := ⟨b, o, none⟩) hlt).trans h1, (hb.cell (p := ⟨b, o + 1, none⟩) hlt).trans h2, ⟨co, cn, cc, (hb.cell (p := ⟨b, o + 2, none⟩) hlt).trans h4, h5, h6.below hb⟩, ⟨do_, dn, dc, (hb.cell (p := ⟨b, o + 3, none⟩) hlt).trans h7, h8, h9.below hb⟩⟩
theorem StatesOf.below {w w' : World} {ao : Option Addr} {n : Nat} {ss : List StD} (h : StatesOf w ao n ss) (hb : Below w.heap.size w w') : StatesOf w' ao n ss :=
  ⟨h.1, fun hn => by
    obtain ⟨b, off, e, hlt, hc⟩ := h.2 hn
    exact ⟨b, off, e, Nat.lt_of_lt_of_le hlt hb.size, fun i hi => (hc i hi).below hlt hb⟩⟩
theorem TrAt.below {w w' : World} {b o : Nat} {s : TrD} (h : TrAt w b o s) (hlt : b < w.heap.size) (hb : Below w.heap.size w w') : TrAt w' b o s := by
  obtain ⟨h1, h2, ⟨co, cn, cc, h4, h5, h6⟩, h3, ⟨do_, dn, dc, h7, h8, h9⟩⟩ := h
  exact ⟨(hb.cell (p := ⟨b, o, none⟩) hlt).trans h1, (hb.cell (p := ⟨b, o + 1, none⟩) hlt).trans h2, ⟨co, cn, cc, (hb.cell (p := ⟨b, o + 2, none⟩) hlt).trans h4, h5, h6.below hb⟩, (hb.cell (p := ⟨b, o + 3, none⟩) hlt).trans h3, ⟨do_, dn, dc, (hb.cell (p := ⟨b, o + 4, none⟩) hlt).trans h7, h8, h9.below hb⟩⟩
theorem TransOf.below {w w' : World} {ao : Option Addr} {n : Nat} {ss : List TrD} (h : TransOf w ao n ss) (hb : Below w.heap.size w w') : TransOf w' ao n ss :=
  ⟨h.1, fun hn => by
    obtain ⟨b, off, e, hlt, hc⟩ := h.2 hn
    exact ⟨b, off, e, Nat.lt_of_lt_of_le hlt hb.size, fun i hi => (hc i hi).below hlt hb⟩⟩

def wSt (s : StD) : Nat := wStms s.entry + wStms s.exit
def wStates (ss : List StD) : Nat := ss.length + sumTo (fun i => wSt (ss.getD i st0)) ss.length
def wTr (s : TrD) : Nat := s.guard.length + wStms s.action
def wTrans (ss : List TrD) : Nat := ss.length + sumTo (fun i => wTr (ss.getD i tr0)) ss.length

theorem szOut_no {l : Int} {a : Nat} (h : l < a) : szOut l a = -1 := if_pos h
theorem szOut_yes {l : Int} {a : Nat} (h : ¬ l < a) : szOut l a = l - a := if_neg h
theorem five_cells {w : World} {H : Nat} {a b c d e : Value} {t : TypeId} (h : w.heap[H]? = some (.cells #[a, b, c, d, e] t (0, 0))) : w.cell? ⟨H, 0, none⟩ = some a ∧ w.cell? ⟨H, 1, none⟩ = some b ∧ w.cell? ⟨H, 2, none⟩ = some c ∧ w.cell? ⟨H, 3, none⟩ = some d ∧ w.cell? ⟨H, 4, none⟩ = some e := by
  simp [World.cell?, h]
theorem two_cells {w : World} {H : Nat} {a b : Value} {t : TypeId} (h : w.heap[H]? = some (.cells #[a, b] t (0, 0))) : w.cell? ⟨H, 0, none⟩ = some a ∧ w.cell? ⟨H, 1, none⟩ = some b := by
  simp [World.cell?, h]

set_option maxHeartbeats 800000 in
theorem szState_any (p i : Int) (eo xo : Option Addr) (en ec xn xc : Nat) (es xs : List StmD) (left : Int) (w : World) (hen : en ≤ 9223372036854775807) (hxn : xn ≤ 9223372036854775807) (h0 : 0 ≤ left) (h1 : left ≤ 1048576) (he : StmsOf w eo en es) (hx : StmsOf w xo xn xs) :
    Calls Tryz.prog 138 #[.agg #[.int .i64 p, .int .i64 i, .slice eo en ec, .slice xo xn xc], .int .i64 left] w fun e w' => e = .returned (.int .i64 (szOut left (wStms es + wStms xs))) ∧ Below w.heap.size w w' := by
  have HE : Hid (∀ w', Below w.heap.size w w' → StmsOf w' eo en es ∧ StmsOf w' xo xn xs) := fun w' h => ⟨he.below h, hx.below h⟩
  have C1 := hid (fun w hw => szStmS_any eo en ec es left w hen h0 h1 hw)
  clear he hx
  by_cases a1 : left < wStms es
  · have E : Hid (szOut left (wStms es + wStms xs) = -1) := hid (szOut_no (by omega))
    rw [szOut_no a1] at C1
    rw [E.out]
    go_enter Tryz.func138, Tryz.ntmps138
    go_wp2_with (go_at_call 178; refine (C1.out _ (HE.out _ (below1 _ _)).1).mono ?_; rintro e w1 ⟨rfl, hb1⟩; have B1 := hid hb1; clear hb1)
    go_ret
    exact ⟨rfl, (below1 _ _).trans (B1.out.mono (by simp))⟩
  · obtain ⟨l2, hl2⟩ : ∃ l2, l2 = left - wStms es := ⟨_, rfl⟩
    have h20 : ¬ l2 < 0 := by omega
    have h20' : 0 ≤ l2 := by omega
    have h21 : l2 ≤ 1048576 := by omega
    have C2 := hid (fun w hw => szStmS_any xo xn xc xs l2 w hxn h20' h21 hw)
    rw [szOut_yes a1, ← hl2] at C1
    have HL := hid hl2
    by_cases a2 : l2 < wStms xs
    · have E : Hid (szOut left (wStms es + wStms xs) = -1) := hid (szOut_no (by omega))
      rw [szOut_no a2] at C2
      rw [E.out]
      clear a1 a2 hl2
      go_enter Tryz.func138, Tryz.ntmps138
      go_wp2_with (first | (go_at_call_of 178 (Value.slice eo en ec); refine (C1.out _ (HE.out _ (below1 _ _)).1).mono ?_; rintro e w1 ⟨rfl, hb1⟩; have B1 := hid ((below1 _ _).trans (hb1.mono (by simp))); obtain ⟨q0, q1, q2, q3⟩ := quad_cells (block_below (heap_alloc_new w _) hb1); clear hb1) | (go_at_call_of 178 (Value.slice xo xn xc); refine (C2.out _ (HE.out _ B1.out).2).mono ?_; rintro e w2 ⟨rfl, hb2⟩; have B2 := hid (B1.out.trans (hb2.mono B1.out.size)); clear hb2))
      go_ret
      exact ⟨rfl, B2.out⟩
    · have E : Hid (szOut left (wStms es + wStms xs) = l2 - wStms xs) := hid (by rw [szOut_yes (by omega)]; omega)
      have h30 : ¬ l2 - wStms xs < 0 := by omega
      rw [szOut_yes a2] at C2
      rw [E.out]
      clear a1 a2 hl2
      go_enter Tryz.func138, Tryz.ntmps138
      go_wp2_with (first | (go_at_call_of 178 (Value.slice eo en ec); refine (C1.out _ (HE.out _ (below1 _ _)).1).mono ?_; rintro e w1 ⟨rfl, hb1⟩; have B1 := hid ((below1 _ _).trans (hb1.mono (by simp))); obtain ⟨q0, q1, q2, q3⟩ := quad_cells (block_below (heap_alloc_new w _) hb1); clear hb1) | (go_at_call_of 178 (Value.slice xo xn xc); refine (C2.out _ (HE.out _ B1.out).2).mono ?_; rintro e w2 ⟨rfl, hb2⟩; have B2 := hid (B1.out.trans (hb2.mono B1.out.size)); clear hb2))
      go_ret
      exact ⟨rfl, B2.out⟩

set_option maxHeartbeats 800000 in
theorem szTrans_any (f g t : Int) (eo xo : Option Addr) (en ec xn xc : Nat) (es : List (Int × Int)) (xs : List StmD) (left : Int) (w : World) (hen : en ≤ 9223372036854775807) (hxn : xn ≤ 9223372036854775807) (h0 : 0 ≤ left) (h1 : left ≤ 1048576) (he : ItemsOf w eo en es) (hx : StmsOf w xo xn xs) :
    Calls Tryz.prog 139 #[.agg #[.int .i64 f, .int .i64 g, .slice eo en ec, .int .i64 t, .slice xo xn xc], .int .i64 left] w fun e w' => e = .returned (.int .i64 (szOut left (es.length + wStms xs))) ∧ Below w.heap.size w w' := by
  have HE : Hid (∀ w', Below w.heap.size w w' → StmsOf w' xo xn xs) := fun w' h => hx.below h
  have HN := he.1
  have C1 := hid (fun w => szItemS_any eo en ec left w hen h0 h1)
  clear he hx
  by_cases a1 : left < en
  · have E : Hid (szOut left (es.length + wStms xs) = -1) := hid (szOut_no (by omega))
    rw [if_pos a1] at C1
    rw [E.out]
    clear HN
    go_enter Tryz.func139, Tryz.ntmps139
    go_wp2_with (go_at_call 179; refine (C1.out _).mono ?_; rintro e w1 ⟨rfl, hw⟩; obtain rfl := hw.symm)
    go_ret
    exact ⟨rfl, below1 _ _⟩
  · obtain ⟨l2, hl2⟩ : ∃ l2, l2 = left - en := ⟨_, rfl⟩
    have h20 : ¬ l2 < 0 := by omega
    have h20' : 0 ≤ l2 := by omega
    have h21 : l2 ≤ 1048576 := by omega
    have C2 := hid (fun w hw => szStmS_any xo xn xc xs l2 w hxn h20' h21 hw)
    rw [if_neg a1, ← hl2] at C1
    by_cases a2 : l2 < wStms xs
    · have E : Hid (szOut left (es.length + wStms xs) = -1) := hid (szOut_no (by omega))
      rw [szOut_no a2] at C2
      rw [E.out]
      clear a1 a2 hl2 HN
      go_enter Tryz.func139, Tryz.ntmps139
      go_wp2_with (first | (go_at_call 179; refine (C1.out _).mono ?_; rintro e w1 ⟨rfl, hw⟩; obtain rfl := hw.symm) | (go_at_call 178; refine (C2.out _ (HE.out _ (below1 _ _))).mono ?_; rintro e w2 ⟨rfl, hb2⟩; have B2 := hid hb2; clear hb2))
      go_ret
      exact ⟨rfl, (below1 _ _).trans (B2.out.mono (by simp))⟩
    · have E : Hid (szOut left (es.length + wStms xs) = l2 - wStms xs) := hid (by rw [szOut_yes (by omega)]; omega)
      have h30 : ¬ l2 - wStms xs < 0 := by omega
      rw [szOut_yes a2] at C2
      rw [E.out]
      clear a1 a2 hl2 HN
      go_enter Tryz.func139, Tryz.ntmps139
      go_wp2_with (first | (go_at_call 179; refine (C1.out _).mono ?_; rintro e w1 ⟨rfl, hw⟩; obtain rfl := hw.symm) | (go_at_call 178; refine (C2.out _ (HE.out _ (below1 _ _))).mono ?_; rintro e w2 ⟨rfl, hb2⟩; have B2 := hid hb2; clear hb2))
      go_ret
      exact ⟨rfl, (below1 _ _).trans (B2.out.mono (by simp))⟩

set_option maxHeartbeats 800000 in
theorem szStateS_any (ao : Option Addr) (n c : Nat) (ss : List StD) (lft : Int) (w : World) (hn : n ≤ 9223372036854775807) (g0 : 0 ≤ lft) (g1 : lft ≤ 1048576) (hs : StatesOf w ao n ss) :
    Calls Tryz.prog 116 #[.slice ao n c, .int .i64 lft] w fun e w' => e = .returned (.int .i64 (szOut lft (wStates ss))) ∧ Below w.heap.size w w' := by
  have HL := hid hs.1
  by_cases h : lft - n < 0
  · have E : Hid (szOut lft (wStates ss) = -1) := hid (if_pos (by unfold wStates; rw [HL.out]; omega))
    rw [E.out]
    clear hs
    go_enter Tryz.func116, Tryz.ntmps116
    go_wp2
    go_ret
    exact ⟨rfl, Below.refl _ _⟩
  · have hn' : n ≤ 1048576 := by omega
    go_enter Tryz.func116, Tryz.ntmps116
    go_wp2
    go_loopw [1, 5] (fun l i wr => ∃ (k : Nat) (left : Int), k ≤ n ∧ i = .int .i64 k ∧ l = .int .i64 left ∧ 0 ≤ left ∧ left ≤ 1048576 ∧ Hid (left = lft - n - (sumTo (fun i => wSt (ss.getD i st0)) k : Nat)) ∧ Below w.heap.size w wr) (fun _ i _ => n - (intOf i).toNat)
    case atStart => exact ⟨0, _, Nat.zero_le _, rfl, rfl, by omega, by omega, hid (by simp [sumTo]), Below.refl _ _⟩
    case round =>
      obtain ⟨k, left, hk, rfl, rfl, hl0, hl1, HP, hb⟩ := hrel
      have HB := hid hb
      by_cases hlt : k < n
      · obtain ⟨b, off, rfl, hbl, hc⟩ := hs.2 (by omega)
        obtain ⟨s, es⟩ : ∃ s, s = ss.getD k st0 := ⟨_, rfl⟩
        have hk4 := hc k hlt
        rw [← es] at hk4
        obtain ⟨k1, k2, ⟨co, cn, cc, k3, hcn, hit⟩, ⟨do_, dn, dc, k4, hdn, hit2⟩⟩ := hk4
        have k1 := (hb.cell (p := ⟨b, off + k * 4, none⟩) hbl).trans k1
        have k2 := (hb.cell (p := ⟨b, off + k * 4 + 1, none⟩) hbl).trans k2
        have k3 := (hb.cell (p := ⟨b, off + k * 4 + 2, none⟩) hbl).trans k3
        have k4 := (hb.cell (p := ⟨b, off + k * 4 + 3, none⟩) hbl).trans k4
        obtain ⟨wt, EW⟩ : ∃ wt, wt = wStms s.entry + wStms s.exit := ⟨_, rfl⟩
        have ES : Hid (sumTo (fun i => wSt (ss.getD i st0)) (k + 1) = sumTo (fun i => wSt (ss.getD i st0)) k + wt) := hid (sumTo_step _ (by show wSt (ss.getD k st0) = wt; rw [← es, EW]; rfl))
        have EM : Hid (sumTo (fun i => wSt (ss.getD i st0)) (k + 1) ≤ sumTo (fun i => wSt (ss.getD i st0)) n) := hid (sumTo_le _ hlt)
        have C := hid (szState_any s.parent s.initial co do_ cn cc dn dc s.entry s.exit left wr hcn hdn hl0 hl1 (hit.below hb) (hit2.below hb))
        rw [← EW] at C
        clear hc hs hb es hit hit2 EW
        by_cases hneg : left < wt
        · rw [szOut_no hneg] at C
          go_wp2_with (go_at_call 138; refine C.out.mono ?_; rintro e w1 ⟨rfl, hb1⟩; have B1 := hid hb1; clear hb1)
          go_ret
          have h1 := HP.out
          have h2 := ES.out
          have h3 := EM.out
          refine ⟨ret_int (Eq.symm (if_pos ?_)), HB.out.trans (B1.out.mono HB.out.size)⟩
          unfold wStates
          rw [HL.out]
          omega
        · have hnn : ¬ left - wt < 0 := by omega
          rw [szOut_yes hneg] at C
          go_wp2_with (go_at_call 138; refine C.out.mono ?_; rintro e w1 ⟨rfl, hb1⟩; have B1 := hid hb1; clear hb1)
          go_roundw
          case rel =>
            have h1 := HP.out
            have h2 := ES.out
            exact ⟨k + 1, left - wt, by omega, by go_num, rfl, by omega, by omega, hid (by rw [h1, h2]; omega), HB.out.trans (B1.out.mono HB.out.size)⟩
          case measure => simp [intOf]; omega
      · have e : k = n := by omega
        subst e
        clear hs hb
        go_wp2
        go_ret
        have h1 := HP.out
        refine ⟨ret_int ?_, HB.out⟩
        unfold szOut wStates
        rw [HL.out, if_neg (by omega)]
        omega

set_option maxHeartbeats 800000 in
theorem szTransS_any (ao : Option Addr) (n c : Nat) (ss : List TrD) (lft : Int) (w : World) (hn : n ≤ 9223372036854775807) (g0 : 0 ≤ lft) (g1 : lft ≤ 1048576) (hs : TransOf w ao n ss) :
    Calls Tryz.prog 117 #[.slice ao n c, .int .i64 lft] w fun e w' => e = .returned (.int .i64 (szOut lft (wTrans ss))) ∧ Below w.heap.size w w' := by
  have HL := hid hs.1
  by_cases h : lft - n < 0
  · have E : Hid (szOut lft (wTrans ss) = -1) := hid (if_pos (by unfold wTrans; rw [HL.out]; omega))
    rw [E.out]
    clear hs
    go_enter Tryz.func117, Tryz.ntmps117
    go_wp2
    go_ret
    exact ⟨rfl, Below.refl _ _⟩
  · have hn' : n ≤ 1048576 := by omega
    go_enter Tryz.func117, Tryz.ntmps117
    go_wp2
    go_loopw [1, 5] (fun l i wr => ∃ (k : Nat) (left : Int), k ≤ n ∧ i = .int .i64 k ∧ l = .int .i64 left ∧ 0 ≤ left ∧ left ≤ 1048576 ∧ Hid (left = lft - n - (sumTo (fun i => wTr (ss.getD i tr0)) k : Nat)) ∧ Below w.heap.size w wr) (fun _ i _ => n - (intOf i).toNat)
    case atStart => exact ⟨0, _, Nat.zero_le _, rfl, rfl, by omega, by omega, hid (by simp [sumTo]), Below.refl _ _⟩
    case round =>
      obtain ⟨k, left, hk, rfl, rfl, hl0, hl1, HP, hb⟩ := hrel
      have HB := hid hb
      by_cases hlt : k < n
      · obtain ⟨b, off, rfl, hbl, hc⟩ := hs.2 (by omega)
        obtain ⟨s, es⟩ : ∃ s, s = ss.getD k tr0 := ⟨_, rfl⟩
        have hk4 := hc k hlt
        rw [← es] at hk4
        obtain ⟨k1, k2, ⟨co, cn, cc, k3, hcn, hit⟩, k5, ⟨do_, dn, dc, k4, hdn, hit2⟩⟩ := hk4
        have k1 := (hb.cell (p := ⟨b, off + k * 5, none⟩) hbl).trans k1
        have k2 := (hb.cell (p := ⟨b, off + k * 5 + 1, none⟩) hbl).trans k2
        have k3 := (hb.cell (p := ⟨b, off + k * 5 + 2, none⟩) hbl).trans k3
        have k5 := (hb.cell (p := ⟨b, off + k * 5 + 3, none⟩) hbl).trans k5
        have k4 := (hb.cell (p := ⟨b, off + k * 5 + 4, none⟩) hbl).trans k4
        obtain ⟨wt, EW⟩ : ∃ wt, wt = s.guard.length + wStms s.action := ⟨_, rfl⟩
        have ES : Hid (sumTo (fun i => wTr (ss.getD i tr0)) (k + 1) = sumTo (fun i => wTr (ss.getD i tr0)) k + wt) := hid (sumTo_step _ (by show wTr (ss.getD k tr0) = wt; rw [← es, EW]; rfl))
        have EM : Hid (sumTo (fun i => wTr (ss.getD i tr0)) (k + 1) ≤ sumTo (fun i => wTr (ss.getD i tr0)) n) := hid (sumTo_le _ hlt)
        have C := hid (szTrans_any s.src s.sig s.target co do_ cn cc dn dc s.guard s.action left wr hcn hdn hl0 hl1 (hit.below hb) (hit2.below hb))
        rw [← EW] at C
        clear hc hs hb es hit hit2 EW
        by_cases hneg : left < wt
        · rw [szOut_no hneg] at C
          go_wp2_with (go_at_call 139; refine C.out.mono ?_; rintro e w1 ⟨rfl, hb1⟩; have B1 := hid hb1; clear hb1)
          go_ret
          have h1 := HP.out
          have h2 := ES.out
          have h3 := EM.out
          refine ⟨ret_int (Eq.symm (if_pos ?_)), HB.out.trans (B1.out.mono HB.out.size)⟩
          unfold wTrans
          rw [HL.out]
          omega
        · have hnn : ¬ left - wt < 0 := by omega
          rw [szOut_yes hneg] at C
          go_wp2_with (go_at_call 139; refine C.out.mono ?_; rintro e w1 ⟨rfl, hb1⟩; have B1 := hid hb1; clear hb1)
          go_roundw
          case rel =>
            have h1 := HP.out
            have h2 := ES.out
            exact ⟨k + 1, left - wt, by omega, by go_num, rfl, by omega, by omega, hid (by rw [h1, h2]; omega), HB.out.trans (B1.out.mono HB.out.size)⟩
          case measure => simp [intOf]; omega
      · have e : k = n := by omega
        subst e
        clear hs hb
        go_wp2
        go_ret
        have h1 := HP.out
        refine ⟨ret_int ?_, HB.out⟩
        unfold szOut wTrans
        rw [HL.out, if_neg (by omega)]
        omega

end Go.Proofs.YthaklmdhkkfigaaGreat
namespace Go.Proofs.YthaklmdhkkfigaaGreat
open Go.RowKit Go.Sort

/-- The codes of a list of statements are no longer than all that is asked. -/
def Fits (ss : List StmD) : Prop := ss.length ≤ 1048576 ∧ ∀ i, i < ss.length → (ss.getD i stm0).code.length ≤ 1048576
theorem fits_of {ss : List StmD} (h : wStms ss ≤ 1048576) : Fits ss := by
  unfold wStms at h
  refine ⟨by omega, fun i hi => ?_⟩
  have : (ss.getD i stm0).code.length ≤ _ := le_sumTo (fun i => (ss.getD i stm0).code.length) hi
  omega
theorem toStmS_fit (ao : Option Addr) (n c : Nat) (ss : List StmD) (w : World) (hf : Fits ss) (hs : StmsOf w ao n ss) :
    Calls Tryz.prog 183 #[.slice ao n c] w fun e w' => ∃ g, e = .returned (.slice (some ⟨g, 0, none⟩) n n) ∧ SRow w' w.heap.size (.slice (some ⟨g, 0, none⟩) n n) ss ∧ Below w.heap.size w w' :=
  toStmS_any ao n c ss w (by rw [← hs.1]; exact hf.1) (by rw [← hs.1]; exact hf.2) hs

set_option maxHeartbeats 800000 in
theorem toState_any (p i : Int) (eo xo : Option Addr) (en ec xn xc : Nat) (es xs : List StmD) (w : World) (fe : Fits es) (fx : Fits xs) (he : StmsOf w eo en es) (hx : StmsOf w xo xn xs) :
    Calls Tryz.prog 142 #[.agg #[.int .i64 p, .int .i64 i, .slice eo en ec, .slice xo xn xc]] w fun e w' => ∃ g1 g2, e = .returned (.agg #[.int .i64 p, .int .i64 i, .slice (some ⟨g1, 0, none⟩) en en, .slice (some ⟨g2, 0, none⟩) xn xn]) ∧
      SRow w' w.heap.size (.slice (some ⟨g1, 0, none⟩) en en) es ∧ SRow w' w.heap.size (.slice (some ⟨g2, 0, none⟩) xn xn) xs ∧ Below w.heap.size w w' := by
  have HS : Hid (∀ w', Below w.heap.size w w' → StmsOf w' eo en es ∧ StmsOf w' xo xn xs) := fun w' h => ⟨he.below h, hx.below h⟩
  clear he hx
  go_enter Tryz.func142, Tryz.ntmps142
  go_wp2_with (first | (go_at_call_of 183 (Value.slice eo en ec); refine (toStmS_fit eo en ec es _ fe (HS.out _ (below3 _ _ _ _)).1).mono ?_; rintro e w1 ⟨g1, rfl, hr1, hb1⟩; have hz := hb1.size; simp only [World.size_alloc] at hz; obtain ⟨hc, hf⟩ := bcell2 hb1; have HR := hid hr1; have HB := hid ((below3 _ _ _ _).trans (hb1.mono (by simp; omega))); clear hr1 hb1; have hza : w.heap.size + 1 + 1 < w1.heap.size := (by omega); have hzb : w.heap.size + 1 < w1.heap.size := (by omega); have hzc : w.heap.size < w1.heap.size := (by omega)) | (go_at_call_of 183 (Value.slice xo xn xc); refine (toStmS_fit xo xn xc xs _ fx (HS.out _ (below_set HB.out (by omega))).2).mono ?_; rintro e w2 ⟨g2, rfl, hr2, hb2⟩; have hz2 := hb2.size; simp only [World.size_setCell] at hz2; obtain ⟨hc2, hf2⟩ := bcell2 hb2; have HR2 := hid hr2; have HB2 := hid hb2; clear hr2 hb2; have hza2 : w.heap.size + 1 + 1 < w2.heap.size := (by omega); have hzb2 : w.heap.size + 1 < w2.heap.size := (by omega)))
  have r1 := HR.out
  have r2 := HR2.out
  simp only [World.size_alloc] at r1
  simp only [World.size_setCell] at r2
  refine bodyPost_ret (v := .agg #[.int .i64 p, .int .i64 i, .slice (some ⟨g1, 0, none⟩) en en, .slice (some ⟨g2, 0, none⟩) xn xn]) (by simp [results, Tryz.results142, go_sem, hc, hc2, hzb]) rfl ⟨g1, g2, rfl, ?_, ?_, ?_⟩
  · refine SRow.mono (L := w.heap.size + 1 + 1 + 1) ?_ (by omega)
    repeat refine SRow.same ?_ (Same.set _ (by omega) _)
    refine SRow.same ?_ (Same.of_below HB2.out)
    repeat refine SRow.same ?_ (Same.set _ (by omega) _)
    exact r1
  · refine SRow.mono (L := w1.heap.size) ?_ (by omega)
    repeat refine SRow.same ?_ (Same.set _ (by omega) _)
    exact r2
  · repeat refine below_set ?_ (by omega)
    refine Below.trans (below_set HB.out (by omega)) (HB2.out.mono ?_)
    simp only [World.size_setCell]
    omega

set_option maxHeartbeats 800000 in
theorem toTrans_any (f s t : Int) (eo xo : Option Addr) (en ec xn xc : Nat) (es : List (Int × Int)) (xs : List StmD) (w : World) (fe : en ≤ 1048576) (fx : Fits xs) (he : ItemsOf w eo en es) (hx : StmsOf w xo xn xs) :
    Calls Tryz.prog 143 #[.agg #[.int .i64 f, .int .i64 s, .slice eo en ec, .int .i64 t, .slice xo xn xc]] w fun e w' => ∃ g1 g2, e = .returned (.agg #[.int .i64 f, .int .i64 s, .slice (some ⟨g1, 0, none⟩) en en, .int .i64 t, .slice (some ⟨g2, 0, none⟩) xn xn]) ∧
      IRow w' w.heap.size (.slice (some ⟨g1, 0, none⟩) en en) es ∧ SRow w' w.heap.size (.slice (some ⟨g2, 0, none⟩) xn xn) xs ∧ Below w.heap.size w w' := by
  have HS : Hid (∀ w', Below w.heap.size w w' → ItemsOf w' eo en es ∧ StmsOf w' xo xn xs) := fun w' h => ⟨he.below h, hx.below h⟩
  have HN := hid he.1
  clear he hx
  go_enter Tryz.func143, Tryz.ntmps143
  go_wp2_with (first | (go_at_call 184; refine (toItemS_any eo en ec es _ fe (HS.out _ (below3 _ _ _ _)).1).mono ?_; rintro e w1 ⟨rfl, hr1, hb1⟩; have hz := hr1.lt; simp only [World.size_alloc] at hz; obtain ⟨hc, hf⟩ := bcell2 hb1; have HR := hid hr1; have HB := hid ((below3 _ _ _ _).trans (hb1.mono (by simp; omega))); clear hr1 hb1; have hza : w.heap.size + 1 + 1 < w1.heap.size := (by omega); have hzb : w.heap.size + 1 < w1.heap.size := (by omega); have hzc : w.heap.size < w1.heap.size := (by omega)) | (go_at_call_of 183 (Value.slice xo xn xc); refine (toStmS_fit xo xn xc xs _ fx (HS.out _ (below_set (below_set HB.out (by omega)) (by omega))).2).mono ?_; rintro e w2 ⟨g2, rfl, hr2, hb2⟩; have hz2 := hb2.size; simp only [World.size_setCell] at hz2; obtain ⟨hc2, hf2⟩ := bcell2 hb2; have HR2 := hid hr2; have HB2 := hid hb2; clear hr2 hb2; have hza2 : w.heap.size + 1 + 1 < w2.heap.size := (by omega); have hzb2 : w.heap.size + 1 < w2.heap.size := (by omega)))
  have r1 := HR.out
  have r2 := HR2.out
  have hl := HN.out
  simp only [World.size_alloc] at r1
  simp only [World.size_setCell] at r2
  have i0 : IRow w1 (w.heap.size + 1 + 1 + 1) (.slice (some ⟨w.heap.size + 1 + 1 + 1, 0, none⟩) en en) es := ⟨_, Nat.le_refl _, by rw [hl], by rw [hl]; exact r1⟩
  refine bodyPost_ret (v := .agg #[.int .i64 f, .int .i64 s, .slice (some ⟨w.heap.size + 1 + 1 + 1, 0, none⟩) en en, .int .i64 t, .slice (some ⟨g2, 0, none⟩) xn xn]) (by simp [results, Tryz.results143, go_sem, hc, hc2, hzb]) rfl ⟨_, g2, rfl, ?_, ?_, ?_⟩
  · refine IRow.mono (L := w.heap.size + 1 + 1 + 1) ?_ (by omega)
    repeat refine IRow.same ?_ (Same.set _ (by omega) _)
    refine IRow.same ?_ (Same.of_below HB2.out)
    repeat refine IRow.same ?_ (Same.set _ (by omega) _)
    exact i0
  · refine SRow.mono (L := w1.heap.size) ?_ (by omega)
    repeat refine SRow.same ?_ (Same.set _ (by omega) _)
    exact r2
  · repeat refine below_set ?_ (by omega)
    refine Below.trans (below_set (below_set HB.out (by omega)) (by omega)) (HB2.out.mono ?_)
    simp only [World.size_setCell]
    omega

def StCells (w : World) (L : Nat) (F : Nat → Value) (ss : List StD) (k : Nat) : Prop :=
  ∀ i, i < k → F (i * 4) = .int .i64 (ss.getD i st0).parent ∧ F (i * 4 + 1) = .int .i64 (ss.getD i st0).initial ∧ SRow w L (F (i * 4 + 2)) (ss.getD i st0).entry ∧ SRow w L (F (i * 4 + 3)) (ss.getD i st0).exit
theorem StCells.same {w w' : World} {L : Nat} {F : Nat → Value} {ss : List StD} {k : Nat} (h : StCells w L F ss k) (hs : Same L w w') : StCells w' L F ss k := fun i hi => ⟨(h i hi).1, (h i hi).2.1, (h i hi).2.2.1.same hs, (h i hi).2.2.2.same hs⟩
theorem StCells.mono {w : World} {L L' : Nat} {F : Nat → Value} {ss : List StD} {k : Nat} (h : StCells w L F ss k) (hl : L' ≤ L) : StCells w L' F ss k := fun i hi => ⟨(h i hi).1, (h i hi).2.1, (h i hi).2.2.1.mono hl, (h i hi).2.2.2.mono hl⟩
/-- A row of states that was made. -/
def StRow (w : World) (L : Nat) (v : Value) (ss : List StD) : Prop :=
  ∃ g F, L ≤ g ∧ v = .slice (some ⟨g, 0, none⟩) ss.length ss.length ∧ w.rowIs g 196 (ss.length * 4) F ∧ StCells w L F ss ss.length
theorem StRow.same {w w' : World} {L : Nat} {v : Value} {ss : List StD} (h : StRow w L v ss) (hs : Same L w w') : StRow w' L v ss := by
  obtain ⟨g, F, hg, e, hr, hc⟩ := h
  exact ⟨g, F, hg, e, rowIs_same hr hg hs, hc.same hs⟩
theorem StRow.mono {w : World} {L L' : Nat} {v : Value} {ss : List StD} (h : StRow w L v ss) (hl : L' ≤ L) : StRow w L' v ss := by
  obtain ⟨g, F, hg, e, hr, hc⟩ := h
  exact ⟨g, F, Nat.le_trans hl hg, e, hr, hc.mono hl⟩
def FitsSt (ss : List StD) : Prop := ss.length ≤ 1048576 ∧ ∀ i, i < ss.length → Fits (ss.getD i st0).entry ∧ Fits (ss.getD i st0).exit
theorem SRow.stms' {w : World} {L : Nat} {v : Value} {ss : List StmD} (h : SRow w L v ss) (hf : Fits ss) : ∃ co cn cc, v = .slice co cn cc ∧ cn ≤ 9223372036854775807 ∧ StmsOf w co cn ss := by
  obtain ⟨g, e, hs⟩ := h.stms (fun i hi => Nat.le_trans (hf.2 i hi) (by omega))
  exact ⟨_, _, _, e, Nat.le_trans hf.1 (by omega), hs⟩
theorem StRow.states {w : World} {L : Nat} {v : Value} {ss : List StD} (h : StRow w L v ss) (hf : FitsSt ss) : ∃ g, v = .slice (some ⟨g, 0, none⟩) ss.length ss.length ∧ StatesOf w (some ⟨g, 0, none⟩) ss.length ss := by
  obtain ⟨g, F, hg, e, hr, hc⟩ := h
  refine ⟨g, e, rfl, fun _ => ⟨g, 0, rfl, hr.lt, fun i hi => ?_⟩⟩
  obtain ⟨h1, h2, h3, h4⟩ := hc i hi
  obtain ⟨co, cn, cc, e3, n3, s3⟩ := h3.stms' (hf.2 i hi).1
  obtain ⟨do_, dn, dc, e4, n4, s4⟩ := h4.stms' (hf.2 i hi).2
  refine ⟨?_, ?_, ⟨co, cn, cc, ?_, n3, s3⟩, ⟨do_, dn, dc, ?_, n4, s4⟩⟩
  · rw [← h1]; simpa using hr.cell (i := i * 4) (by omega)
  · rw [← h2]; simpa using hr.cell (i := i * 4 + 1) (by omega)
  · rw [← e3]; simpa using hr.cell (i := i * 4 + 2) (by omega)
  · rw [← e4]; simpa using hr.cell (i := i * 4 + 3) (by omega)

theorem infoState : (Tryz.prog.info? 196).map (fun i => (i.zero, i.size, i.bytes)) = some (some (.agg #[.int .i64 0, .int .i64 0, .slice none 0 0, .slice none 0 0]), 4, 64) := by kernel_rfl

theorem state_step {w wr : World} {B n k : Nat} {F : Nat → Value} {ss : List StD} {v1 v2 : Value} (hr : wr.rowIs B 196 (n * 4) F) (hc : StCells wr (B + 1) F ss k) (hb : Below B w wr)
    (hi : SRow wr (B + 1) v1 (ss.getD k st0).entry) (hj : SRow wr (B + 1) v2 (ss.getD k st0).exit) :
    ∃ F', ((((wr.setCell ⟨B, k * 4, none⟩ (.int .i64 (ss.getD k st0).parent)).setCell ⟨B, k * 4 + 1, none⟩ (.int .i64 (ss.getD k st0).initial)).setCell ⟨B, k * 4 + 2, none⟩ v1).setCell ⟨B, k * 4 + 3, none⟩ v2).rowIs B 196 (n * 4) F' ∧
      StCells ((((wr.setCell ⟨B, k * 4, none⟩ (.int .i64 (ss.getD k st0).parent)).setCell ⟨B, k * 4 + 1, none⟩ (.int .i64 (ss.getD k st0).initial)).setCell ⟨B, k * 4 + 2, none⟩ v1).setCell ⟨B, k * 4 + 3, none⟩ v2) (B + 1) F' ss (k + 1) ∧
      Below B w ((((wr.setCell ⟨B, k * 4, none⟩ (.int .i64 (ss.getD k st0).parent)).setCell ⟨B, k * 4 + 1, none⟩ (.int .i64 (ss.getD k st0).initial)).setCell ⟨B, k * 4 + 2, none⟩ v1).setCell ⟨B, k * 4 + 3, none⟩ v2) := by
  have hs : Same (B + 1) wr ((((wr.setCell ⟨B, k * 4, none⟩ (.int .i64 (ss.getD k st0).parent)).setCell ⟨B, k * 4 + 1, none⟩ (.int .i64 (ss.getD k st0).initial)).setCell ⟨B, k * 4 + 2, none⟩ v1).setCell ⟨B, k * 4 + 3, none⟩ v2) := by
    intro q hq hl
    rw [Same.set _ (Nat.lt_succ_self B) _ q hq (by simpa using hl), Same.set _ (Nat.lt_succ_self B) _ q hq (by simpa using hl), Same.set _ (Nat.lt_succ_self B) _ q hq (by simpa using hl), Same.set _ (Nat.lt_succ_self B) _ q hq (by simpa using hl)]
  refine ⟨_, (((hr.set (k * 4) _).set (k * 4 + 1) _).set (k * 4 + 2) _).set (k * 4 + 3) _, ?_, (((hb.setCell (Nat.le_refl _) _).setCell (Nat.le_refl _) _).setCell (Nat.le_refl _) _).setCell (Nat.le_refl _) _⟩
  have hc' := hc.same hs
  have hi' := hi.same hs
  have hj' := hj.same hs
  intro i hi
  by_cases e : i = k
  · subst e
    refine ⟨?_, ?_, ?_, ?_⟩
    · simp
    · simp
    · simpa using hi'
    · simpa using hj'
  · obtain ⟨h1, h2, h3, h4⟩ := hc' i (by omega)
    refine ⟨?_, ?_, ?_, ?_⟩
    · dsimp only; rw [if_neg (by omega), if_neg (by omega), if_neg (by omega), if_neg (by omega)]; exact h1
    · dsimp only; rw [if_neg (by omega), if_neg (by omega), if_neg (by omega), if_neg (by omega)]; exact h2
    · dsimp only; rw [if_neg (by omega), if_neg (by omega), if_neg (by omega), if_neg (by omega)]; exact h3
    · dsimp only; rw [if_neg (by omega), if_neg (by omega), if_neg (by omega), if_neg (by omega)]; exact h4

set_option maxHeartbeats 800000 in
theorem toStateS_any (ao : Option Addr) (n c : Nat) (ss : List StD) (w : World) (hf : FitsSt ss) (hs : StatesOf w ao n ss) :
    Calls Tryz.prog 120 #[.slice ao n c] w fun e w' => ∃ g, e = .returned (.slice (some ⟨g, 0, none⟩) n n) ∧ StRow w' w.heap.size (.slice (some ⟨g, 0, none⟩) n n) ss ∧ Below w.heap.size w w' := by
  have HL := hid hs.1
  have hn : n ≤ 1048576 := by rw [← HL.out]; exact hf.1
  have HF : Hid (∀ i, i < n → Fits (ss.getD i st0).entry ∧ Fits (ss.getD i st0).exit) := by have := hf.2; rw [HL.out] at this; exact this
  have hmk := run_make_quads 129 196 (.int .i64 0) (.int .i64 0) (.slice none 0 0) (.slice none 0 0) 64 Tryz.underlying129 infoState .i64 .i64 n (by omega) (by omega)
  clear hf
  go_enter Tryz.func120, Tryz.ntmps120
  go_wp2
  go_loopw [4] (fun i wr => ∃ k : Nat, k ≤ n ∧ i = .int .i64 k ∧ (∃ F, wr.rowIs w.heap.size 196 (n * 4) F ∧ StCells wr (w.heap.size + 1) F ss k) ∧ Below w.heap.size w wr) (fun i _ => n - (intOf i).toNat)
  case atStart => exact ⟨0, Nat.zero_le _, rfl, ⟨_, rowIs_quads w _ _ _ _ n 196, fun i h => absurd h (by omega)⟩, (Below.refl _ _).alloc (Nat.le_refl _) _⟩
  case round =>
    obtain ⟨k, hk, rfl, ⟨F, hr, hcp⟩, hb⟩ := hrel
    have HR := hid hr
    have HB := hid hb
    have HP := hid hcp
    have hsz := hr.lt
    clear hcp
    by_cases hlt : k < n
    · obtain ⟨b, off, rfl, hbl, hc⟩ := hs.2 (by omega)
      obtain ⟨s, es⟩ : ∃ s, s = ss.getD k st0 := ⟨_, rfl⟩
      have hk4 := hc k hlt
      have hff := HF.out k hlt
      rw [← es] at hk4 hff
      obtain ⟨k1, k2, ⟨co, cn, cc, k3, hcn, hit⟩, ⟨do_, dn, dc, k4, hdn, hit2⟩⟩ := hk4
      have k1 := (hb.cell (p := ⟨b, off + k * 4, none⟩) hbl).trans k1
      have k2 := (hb.cell (p := ⟨b, off + k * 4 + 1, none⟩) hbl).trans k2
      have k3 := (hb.cell (p := ⟨b, off + k * 4 + 2, none⟩) hbl).trans k3
      have k4 := (hb.cell (p := ⟨b, off + k * 4 + 3, none⟩) hbl).trans k4
      have ES := hid es
      have C := hid (toState_any s.parent s.initial co do_ cn cc dn dc s.entry s.exit wr hff.1 hff.2 (hit.below hb) (hit2.below hb))
      obtain ⟨pv, hpv⟩ : ∃ pv, pv = s.parent := ⟨_, rfl⟩
      obtain ⟨iv, hiv⟩ : ∃ iv, iv = s.initial := ⟨_, rfl⟩
      rw [← hpv] at k1 C
      rw [← hiv] at k2 C
      have EP := hid hpv
      have EI := hid hiv
      clear hs hc hr hb hit hit2 es hcn hdn hpv hiv hff
      go_wp2_with (go_at_call 142; refine C.out.mono ?_; rintro e w1 ⟨g, g', rfl, hi1, hj1, hb1⟩; have hr1 := HR.out.of_block (hb1.block _ hsz); have f0 := hr1.frozen (k * 4); have f1 := hr1.frozen (k * 4 + 1); have f2 := hr1.frozen (k * 4 + 2); have f3 := hr1.frozen (k * 4 + 3); have g0 := hr1.cell (i := k * 4) (by omega); have g1 := hr1.cell (i := k * 4 + 1) (by omega); have g2 := hr1.cell (i := k * 4 + 2) (by omega); have g3 := hr1.cell (i := k * 4 + 3) (by omega); have R1 := hid hr1; have I1 := hid hi1; have J1 := hid hj1; have B1 := hid hb1; clear hr1 hi1 hj1 hb1)
      have cs := state_step (ss := ss) (k := k) R1.out (HP.out.same (Same.of_below B1.out)) (HB.out.trans (B1.out.mono (Nat.le_of_lt hsz))) (v1 := .slice (some ⟨g, 0, none⟩) cn cn) (v2 := .slice (some ⟨g', 0, none⟩) dn dn) (by rw [← ES.out]; exact I1.out.mono hsz) (by rw [← ES.out]; exact J1.out.mono hsz)
      rw [← ES.out, ← EP.out, ← EI.out] at cs
      obtain ⟨F', c1, c2, c3⟩ := cs
      go_roundw
      case rel => exact ⟨k + 1, by omega, by go_num, ⟨F', c1, c2⟩, c3⟩
      case measure => simp [intOf]; omega
    · have e : k = n := by omega
      subst e
      clear hs hr hb
      go_wp2
      go_ret
      have hl := HL.out
      exact ⟨_, rfl, ⟨w.heap.size, F, Nat.le_refl _, by rw [hl], by rw [hl]; exact HR.out, by rw [hl]; exact HP.out.mono (by omega)⟩, HB.out⟩
end Go.Proofs.YthaklmdhkkfigaaGreat
namespace Go.Proofs.YthaklmdhkkfigaaGreat
open Go.RowKit Go.Sort

theorem fitsSt_of {ss : List StD} (h : wStates ss ≤ 1048576) : FitsSt ss := by
  unfold wStates at h
  refine ⟨by omega, fun i hi => ?_⟩
  have : wSt (ss.getD i st0) ≤ _ := le_sumTo (fun i => wSt (ss.getD i st0)) hi
  have h2 : wSt (ss.getD i st0) = wStms (ss.getD i st0).entry + wStms (ss.getD i st0).exit := rfl
  exact ⟨fits_of (by omega), fits_of (by omega)⟩
def FitsTr (ss : List TrD) : Prop := ss.length ≤ 1048576 ∧ ∀ i, i < ss.length → (ss.getD i tr0).guard.length ≤ 1048576 ∧ Fits (ss.getD i tr0).action
theorem fitsTr_of {ss : List TrD} (h : wTrans ss ≤ 1048576) : FitsTr ss := by
  unfold wTrans at h
  refine ⟨by omega, fun i hi => ?_⟩
  have : wTr (ss.getD i tr0) ≤ _ := le_sumTo (fun i => wTr (ss.getD i tr0)) hi
  have h2 : wTr (ss.getD i tr0) = (ss.getD i tr0).guard.length + wStms (ss.getD i tr0).action := rfl
  exact ⟨by omega, fits_of (by omega)⟩

def TrCells (w : World) (L : Nat) (F : Nat → Value) (ss : List TrD) (k : Nat) : Prop :=
  ∀ i, i < k → F (i * 5) = .int .i64 (ss.getD i tr0).src ∧ F (i * 5 + 1) = .int .i64 (ss.getD i tr0).sig ∧ IRow w L (F (i * 5 + 2)) (ss.getD i tr0).guard ∧ F (i * 5 + 3) = .int .i64 (ss.getD i tr0).target ∧ SRow w L (F (i * 5 + 4)) (ss.getD i tr0).action
theorem TrCells.same {w w' : World} {L : Nat} {F : Nat → Value} {ss : List TrD} {k : Nat} (h : TrCells w L F ss k) (hs : Same L w w') : TrCells w' L F ss k := fun i hi => ⟨(h i hi).1, (h i hi).2.1, (h i hi).2.2.1.same hs, (h i hi).2.2.2.1, (h i hi).2.2.2.2.same hs⟩
theorem TrCells.mono {w : World} {L L' : Nat} {F : Nat → Value} {ss : List TrD} {k : Nat} (h : TrCells w L F ss k) (hl : L' ≤ L) : TrCells w L' F ss k := fun i hi => ⟨(h i hi).1, (h i hi).2.1, (h i hi).2.2.1.mono hl, (h i hi).2.2.2.1, (h i hi).2.2.2.2.mono hl⟩
/-- A row of transitions that was made. -/
def TrRow (w : World) (L : Nat) (v : Value) (ss : List TrD) : Prop :=
  ∃ g F, L ≤ g ∧ v = .slice (some ⟨g, 0, none⟩) ss.length ss.length ∧ w.rowIs g 200 (ss.length * 5) F ∧ TrCells w L F ss ss.length
theorem TrRow.same {w w' : World} {L : Nat} {v : Value} {ss : List TrD} (h : TrRow w L v ss) (hs : Same L w w') : TrRow w' L v ss := by
  obtain ⟨g, F, hg, e, hr, hc⟩ := h
  exact ⟨g, F, hg, e, rowIs_same hr hg hs, hc.same hs⟩
theorem TrRow.mono {w : World} {L L' : Nat} {v : Value} {ss : List TrD} (h : TrRow w L v ss) (hl : L' ≤ L) : TrRow w L' v ss := by
  obtain ⟨g, F, hg, e, hr, hc⟩ := h
  exact ⟨g, F, Nat.le_trans hl hg, e, hr, hc.mono hl⟩
theorem TrRow.trans {w : World} {L : Nat} {v : Value} {ss : List TrD} (h : TrRow w L v ss) (hf : FitsTr ss) : ∃ g, v = .slice (some ⟨g, 0, none⟩) ss.length ss.length ∧ TransOf w (some ⟨g, 0, none⟩) ss.length ss := by
  obtain ⟨g, F, hg, e, hr, hc⟩ := h
  refine ⟨g, e, rfl, fun _ => ⟨g, 0, rfl, hr.lt, fun i hi => ?_⟩⟩
  obtain ⟨h1, h2, h3, h5, h4⟩ := hc i hi
  obtain ⟨q, e3, s3⟩ := h3.items
  obtain ⟨do_, dn, dc, e4, n4, s4⟩ := h4.stms' (hf.2 i hi).2
  refine ⟨?_, ?_, ⟨some ⟨q, 0, none⟩, (ss.getD i tr0).guard.length, (ss.getD i tr0).guard.length, ?_, Nat.le_trans (hf.2 i hi).1 (by omega), s3⟩, ?_, ⟨do_, dn, dc, ?_, n4, s4⟩⟩
  · rw [← h1]; simpa using hr.cell (i := i * 5) (by omega)
  · rw [← h2]; simpa using hr.cell (i := i * 5 + 1) (by omega)
  · rw [← e3]; simpa using hr.cell (i := i * 5 + 2) (by omega)
  · rw [← h5]; simpa using hr.cell (i := i * 5 + 3) (by omega)
  · rw [← e4]; simpa using hr.cell (i := i * 5 + 4) (by omega)

theorem run_make_fives (t e : TypeId) (z0 z1 z2 z3 z4 : Value) (bytes : Nat) (ht : Tryz.prog.underlying t = some (.slice e)) (hinfo : (Tryz.prog.info? e).map (fun i => (i.zero, i.size, i.bytes)) = some (some (.agg #[z0, z1, z2, z3, z4]), 5, bytes))
    (kl kc : IntKind) (n : Nat) (hbytes : bytes * n ≤ 281474976710656) (h63 : n ≤ 9223372036854775807) (w : World) :
    (Instr.makeSlice t (.int kl (n : Int)) (.int kc (n : Int))).run Tryz.prog w = .ok (.slice (some ⟨w.heap.size, 0, none⟩) n n) (w.alloc (.cells (madeCells #[z0, z1, z2, z3, z4] (n * 5)) e)) := by
  obtain ⟨i, hi, hzz⟩ := Option.map_eq_some_iff.1 hinfo
  simp only [Prod.mk.injEq] at hzz
  obtain ⟨hz, hs, hb⟩ := hzz
  have hb' : (i.bytes : Int) * (n : Int) ≤ 281474976710656 := by
    have h : ((i.bytes * n : Nat) : Int) ≤ 281474976710656 := by rw [hb]; omega
    rwa [Int.natCast_mul] at h
  have hr := run_make (P := Tryz.prog) w t e i (.agg #[z0, z1, z2, z3, z4]) ht hi hz kl kc n n (by omega) (Int.le_refl _) hb' (by omega)
  simp only [Int.toNat_natCast, hs] at hr
  exact hr
theorem infoTrans : (Tryz.prog.info? 200).map (fun i => (i.zero, i.size, i.bytes)) = some (some (.agg #[.int .i64 0, .int .i64 0, .slice none 0 0, .int .i64 0, .slice none 0 0]), 5, 72) := by kernel_rfl
theorem rowIs_fives (w : World) (z0 z1 z2 z3 z4 : Value) (n : Nat) (t : TypeId) : (w.alloc (.cells (madeCells #[z0, z1, z2, z3, z4] (n * 5)) t)).rowIs w.heap.size t (n * 5) (fun i => #[z0, z1, z2, z3, z4][i % 5]!) :=
  ⟨_, heap_alloc_new _ _, size_madeCells _ _, fun i hi => by simp [madeCells, hi]⟩

theorem trans_step {w wr : World} {B n k : Nat} {F : Nat → Value} {ss : List TrD} {v1 v2 : Value} (hr : wr.rowIs B 200 (n * 5) F) (hc : TrCells wr (B + 1) F ss k) (hb : Below B w wr)
    (hi : IRow wr (B + 1) v1 (ss.getD k tr0).guard) (hj : SRow wr (B + 1) v2 (ss.getD k tr0).action) :
    ∃ F', (((((wr.setCell ⟨B, k * 5, none⟩ (.int .i64 (ss.getD k tr0).src)).setCell ⟨B, k * 5 + 1, none⟩ (.int .i64 (ss.getD k tr0).sig)).setCell ⟨B, k * 5 + 2, none⟩ v1).setCell ⟨B, k * 5 + 3, none⟩ (.int .i64 (ss.getD k tr0).target)).setCell ⟨B, k * 5 + 4, none⟩ v2).rowIs B 200 (n * 5) F' ∧
      TrCells (((((wr.setCell ⟨B, k * 5, none⟩ (.int .i64 (ss.getD k tr0).src)).setCell ⟨B, k * 5 + 1, none⟩ (.int .i64 (ss.getD k tr0).sig)).setCell ⟨B, k * 5 + 2, none⟩ v1).setCell ⟨B, k * 5 + 3, none⟩ (.int .i64 (ss.getD k tr0).target)).setCell ⟨B, k * 5 + 4, none⟩ v2) (B + 1) F' ss (k + 1) ∧
      Below B w (((((wr.setCell ⟨B, k * 5, none⟩ (.int .i64 (ss.getD k tr0).src)).setCell ⟨B, k * 5 + 1, none⟩ (.int .i64 (ss.getD k tr0).sig)).setCell ⟨B, k * 5 + 2, none⟩ v1).setCell ⟨B, k * 5 + 3, none⟩ (.int .i64 (ss.getD k tr0).target)).setCell ⟨B, k * 5 + 4, none⟩ v2) := by
  have hs : Same (B + 1) wr (((((wr.setCell ⟨B, k * 5, none⟩ (.int .i64 (ss.getD k tr0).src)).setCell ⟨B, k * 5 + 1, none⟩ (.int .i64 (ss.getD k tr0).sig)).setCell ⟨B, k * 5 + 2, none⟩ v1).setCell ⟨B, k * 5 + 3, none⟩ (.int .i64 (ss.getD k tr0).target)).setCell ⟨B, k * 5 + 4, none⟩ v2) := by
    intro q hq hl
    rw [Same.set _ (Nat.lt_succ_self B) _ q hq (by simpa using hl), Same.set _ (Nat.lt_succ_self B) _ q hq (by simpa using hl), Same.set _ (Nat.lt_succ_self B) _ q hq (by simpa using hl), Same.set _ (Nat.lt_succ_self B) _ q hq (by simpa using hl), Same.set _ (Nat.lt_succ_self B) _ q hq (by simpa using hl)]
  refine ⟨_, ((((hr.set (k * 5) _).set (k * 5 + 1) _).set (k * 5 + 2) _).set (k * 5 + 3) _).set (k * 5 + 4) _, ?_, ((((hb.setCell (Nat.le_refl _) _).setCell (Nat.le_refl _) _).setCell (Nat.le_refl _) _).setCell (Nat.le_refl _) _).setCell (Nat.le_refl _) _⟩
  have hc' := hc.same hs
  have hi' := hi.same hs
  have hj' := hj.same hs
  intro i hi
  by_cases e : i = k
  · subst e
    refine ⟨?_, ?_, ?_, ?_, ?_⟩
    · simp
    · simp
    · simpa using hi'
    · simp
    · simpa using hj'
  · obtain ⟨h1, h2, h3, h5, h4⟩ := hc' i (by omega)
    refine ⟨?_, ?_, ?_, ?_, ?_⟩
    · dsimp only; rw [if_neg (by omega), if_neg (by omega), if_neg (by omega), if_neg (by omega), if_neg (by omega)]; exact h1
    · dsimp only; rw [if_neg (by omega), if_neg (by omega), if_neg (by omega), if_neg (by omega), if_neg (by omega)]; exact h2
    · dsimp only; rw [if_neg (by omega), if_neg (by omega), if_neg (by omega), if_neg (by omega), if_neg (by omega)]; exact h3
    · dsimp only; rw [if_neg (by omega), if_neg (by omega), if_neg (by omega), if_neg (by omega), if_neg (by omega)]; exact h5
    · dsimp only; rw [if_neg (by omega), if_neg (by omega), if_neg (by omega), if_neg (by omega), if_neg (by omega)]; exact h4

set_option maxHeartbeats 800000 in
theorem toTransS_any (ao : Option Addr) (n c : Nat) (ss : List TrD) (w : World) (hf : FitsTr ss) (hs : TransOf w ao n ss) :
    Calls Tryz.prog 121 #[.slice ao n c] w fun e w' => ∃ g, e = .returned (.slice (some ⟨g, 0, none⟩) n n) ∧ TrRow w' w.heap.size (.slice (some ⟨g, 0, none⟩) n n) ss ∧ Below w.heap.size w w' := by
  have HL := hid hs.1
  have hn : n ≤ 1048576 := by rw [← HL.out]; exact hf.1
  have HF : Hid (∀ i, i < n → (ss.getD i tr0).guard.length ≤ 1048576 ∧ Fits (ss.getD i tr0).action) := by have := hf.2; rw [HL.out] at this; exact this
  have hmk := run_make_fives 130 200 (.int .i64 0) (.int .i64 0) (.slice none 0 0) (.int .i64 0) (.slice none 0 0) 72 Tryz.underlying130 infoTrans .i64 .i64 n (by omega) (by omega)
  clear hf
  go_enter Tryz.func121, Tryz.ntmps121
  go_wp2
  go_loopw [4] (fun i wr => ∃ k : Nat, k ≤ n ∧ i = .int .i64 k ∧ (∃ F, wr.rowIs w.heap.size 200 (n * 5) F ∧ TrCells wr (w.heap.size + 1) F ss k) ∧ Below w.heap.size w wr) (fun i _ => n - (intOf i).toNat)
  case atStart => exact ⟨0, Nat.zero_le _, rfl, ⟨_, rowIs_fives w _ _ _ _ _ n 200, fun i h => absurd h (by omega)⟩, (Below.refl _ _).alloc (Nat.le_refl _) _⟩
  case round =>
    obtain ⟨k, hk, rfl, ⟨F, hr, hcp⟩, hb⟩ := hrel
    have HR := hid hr
    have HB := hid hb
    have HP := hid hcp
    have hsz := hr.lt
    clear hcp
    by_cases hlt : k < n
    · obtain ⟨b, off, rfl, hbl, hc⟩ := hs.2 (by omega)
      obtain ⟨s, es⟩ : ∃ s, s = ss.getD k tr0 := ⟨_, rfl⟩
      have hk4 := hc k hlt
      have hff := HF.out k hlt
      rw [← es] at hk4 hff
      obtain ⟨k1, k2, ⟨co, cn, cc, k3, hcn, hit⟩, k5, ⟨do_, dn, dc, k4, hdn, hit2⟩⟩ := hk4
      have k1 := (hb.cell (p := ⟨b, off + k * 5, none⟩) hbl).trans k1
      have k2 := (hb.cell (p := ⟨b, off + k * 5 + 1, none⟩) hbl).trans k2
      have k3 := (hb.cell (p := ⟨b, off + k * 5 + 2, none⟩) hbl).trans k3
      have k5 := (hb.cell (p := ⟨b, off + k * 5 + 3, none⟩) hbl).trans k5
      have k4 := (hb.cell (p := ⟨b, off + k * 5 + 4, none⟩) hbl).trans k4
      have ES := hid es
      have C := hid (toTrans_any s.src s.sig s.target co do_ cn cc dn dc s.guard s.action wr (by rw [← hit.1]; exact hff.1) hff.2 (hit.below hb) (hit2.below hb))
      obtain ⟨pv, hpv⟩ : ∃ pv, pv = s.src := ⟨_, rfl⟩
      obtain ⟨iv, hiv⟩ : ∃ iv, iv = s.sig := ⟨_, rfl⟩
      obtain ⟨tv, htv⟩ : ∃ tv, tv = s.target := ⟨_, rfl⟩
      rw [← hpv] at k1 C
      rw [← hiv] at k2 C
      rw [← htv] at k5 C
      have EP := hid hpv
      have EI := hid hiv
      have ET := hid htv
      clear hs hc hr hb hit hit2 es hcn hdn hpv hiv htv hff
      go_wp2_with (go_at_call 143; refine C.out.mono ?_; rintro e w1 ⟨g, g', rfl, hi1, hj1, hb1⟩; have hr1 := HR.out.of_block (hb1.block _ hsz); have f0 := hr1.frozen (k * 5); have f1 := hr1.frozen (k * 5 + 1); have f2 := hr1.frozen (k * 5 + 2); have f3 := hr1.frozen (k * 5 + 3); have f4 := hr1.frozen (k * 5 + 4); have g0 := hr1.cell (i := k * 5) (by omega); have g1 := hr1.cell (i := k * 5 + 1) (by omega); have g2 := hr1.cell (i := k * 5 + 2) (by omega); have g3 := hr1.cell (i := k * 5 + 3) (by omega); have g4 := hr1.cell (i := k * 5 + 4) (by omega); have R1 := hid hr1; have I1 := hid hi1; have J1 := hid hj1; have B1 := hid hb1; clear hr1 hi1 hj1 hb1)
      have cs := trans_step (ss := ss) (k := k) R1.out (HP.out.same (Same.of_below B1.out)) (HB.out.trans (B1.out.mono (Nat.le_of_lt hsz))) (v1 := .slice (some ⟨g, 0, none⟩) cn cn) (v2 := .slice (some ⟨g', 0, none⟩) dn dn) (by rw [← ES.out]; exact I1.out.mono hsz) (by rw [← ES.out]; exact J1.out.mono hsz)
      rw [← ES.out, ← EP.out, ← EI.out, ← ET.out] at cs
      obtain ⟨F', c1, c2, c3⟩ := cs
      go_roundw
      case rel => exact ⟨k + 1, by omega, by go_num, ⟨F', c1, c2⟩, c3⟩
      case measure => simp [intOf]; omega
    · have e : k = n := by omega
      subst e
      clear hs hr hb
      go_wp2
      go_ret
      have hl := HL.out
      exact ⟨_, rfl, ⟨w.heap.size, F, Nat.le_refl _, by rw [hl], by rw [hl]; exact HR.out, by rw [hl]; exact HP.out.mono (by omega)⟩, HB.out⟩

set_option maxHeartbeats 800000 in
theorem toChart_any (eo xo : Option Addr) (en ec xn xc : Nat) (es : List StD) (xs : List TrD) (w : World) (fe : FitsSt es) (fx : FitsTr xs) (he : StatesOf w eo en es) (hx : TransOf w xo xn xs) :
    Calls Tryz.prog 95 #[.agg #[.slice eo en ec, .slice xo xn xc]] w fun e w' => ∃ g1 g2, e = .returned (.agg #[.slice (some ⟨g1, 0, none⟩) en en, .slice (some ⟨g2, 0, none⟩) xn xn]) ∧
      StRow w' w.heap.size (.slice (some ⟨g1, 0, none⟩) en en) es ∧ TrRow w' w.heap.size (.slice (some ⟨g2, 0, none⟩) xn xn) xs ∧ Below w.heap.size w w' := by
  have HS : Hid (∀ w', Below w.heap.size w w' → StatesOf w' eo en es ∧ TransOf w' xo xn xs) := fun w' h => ⟨he.below h, hx.below h⟩
  clear he hx
  go_enter Tryz.func95, Tryz.ntmps95
  go_wp2_with (first | (go_at_call 120; refine (toStateS_any eo en ec es _ fe (HS.out _ (below3 _ _ _ _)).1).mono ?_; rintro e w1 ⟨g1, rfl, hr1, hb1⟩; have hz := hb1.size; simp only [World.size_alloc] at hz; obtain ⟨hc, hf⟩ := bcell2 hb1; have HR := hid hr1; have HB := hid ((below3 _ _ _ _).trans (hb1.mono (by simp; omega))); clear hr1 hb1; have hza : w.heap.size + 1 + 1 < w1.heap.size := (by omega); have hzb : w.heap.size + 1 < w1.heap.size := (by omega); have hzc : w.heap.size < w1.heap.size := (by omega)) | (go_at_call 121; refine (toTransS_any xo xn xc xs _ fx (HS.out _ (below_set HB.out (by omega))).2).mono ?_; rintro e w2 ⟨g2, rfl, hr2, hb2⟩; have hz2 := hb2.size; simp only [World.size_setCell] at hz2; obtain ⟨hc2, hf2⟩ := bcell2 hb2; have HR2 := hid hr2; have HB2 := hid hb2; clear hr2 hb2; have hza2 : w.heap.size + 1 + 1 < w2.heap.size := (by omega); have hzb2 : w.heap.size + 1 < w2.heap.size := (by omega)))
  have r1 := HR.out
  have r2 := HR2.out
  simp only [World.size_alloc] at r1
  simp only [World.size_setCell] at r2
  refine bodyPost_ret (v := .agg #[.slice (some ⟨g1, 0, none⟩) en en, .slice (some ⟨g2, 0, none⟩) xn xn]) (by simp [results, Tryz.results95, go_sem, hc, hc2, hzb]) rfl ⟨g1, g2, rfl, ?_, ?_, ?_⟩
  · refine StRow.mono (L := w.heap.size + 1 + 1 + 1) ?_ (by omega)
    repeat refine StRow.same ?_ (Same.set _ (by omega) _)
    refine StRow.same ?_ (Same.of_below HB2.out)
    repeat refine StRow.same ?_ (Same.set _ (by omega) _)
    exact r1
  · refine TrRow.mono (L := w1.heap.size) ?_ (by omega)
    repeat refine TrRow.same ?_ (Same.set _ (by omega) _)
    exact r2
  · repeat refine below_set ?_ (by omega)
    refine Below.trans (below_set HB.out (by omega)) (HB2.out.mono ?_)
    simp only [World.size_setCell]
    omega
end Go.Proofs.YthaklmdhkkfigaaGreat
namespace Go.Proofs.YthaklmdhkkfigaaGreat
open Go.RowKit Go.Sort
attribute [local go_sem ↓] Go.wp_at_zero Go.wp_at_succ

theorem eqStmS_fit (ao bo : Option Addr) (n c d : Nat) (ss : List StmD) (w : World) (hf : Fits ss) (hx : StmsOf w ao n ss) (hy : StmsOf w bo n ss) :
    Calls Tryz.prog 206 #[.slice ao n c, .slice bo n d] w fun e w' => e = .returned (.bool true) ∧ Below w.heap.size w w' :=
  eqStmS_same ao bo n c d ss w (by rw [← hx.1]; exact hf.1) (by rw [← hx.1]; exact hf.2) hx hy

set_option maxHeartbeats 800000 in
theorem eqState_same (p i : Int) (eo xo eo' xo' : Option Addr) (en ec xn xc ec' xc' : Nat) (es xs : List StmD) (w : World) (fe : Fits es) (fx : Fits xs) (he : StmsOf w eo en es) (hx : StmsOf w xo xn xs) (he' : StmsOf w eo' en es) (hx' : StmsOf w xo' xn xs) :
    Calls Tryz.prog 176 #[.agg #[.int .i64 p, .int .i64 i, .slice eo en ec, .slice xo xn xc], .agg #[.int .i64 p, .int .i64 i, .slice eo' en ec', .slice xo' xn xc']] w fun e w' => e = .returned (.bool true) ∧ Below w.heap.size w w' := by
  have HS : Hid (∀ w', Below w.heap.size w w' → (StmsOf w' eo en es ∧ StmsOf w' eo' en es) ∧ StmsOf w' xo xn xs ∧ StmsOf w' xo' xn xs) := fun w' h => ⟨⟨he.below h, he'.below h⟩, hx.below h, hx'.below h⟩
  clear he hx he' hx'
  go_enter Tryz.func176, Tryz.ntmps176
  go_wp2_with (first | (go_at_call_of 206 (Value.slice eo en ec); refine (eqStmS_fit eo eo' en ec ec' es _ fe (HS.out _ (below2 _ _ _)).1.1 (HS.out _ (below2 _ _ _)).1.2).mono ?_; rintro e w1 ⟨rfl, hb1⟩; have B1 := hid ((below2 _ _ _).trans (hb1.mono (by simp; omega))); obtain ⟨q0, q1, q2, q3⟩ := quad_cells (block_below (block_below (heap_alloc_new w _) (below1 _ _)) hb1); obtain ⟨p0, p1, p2, p3⟩ := quad_cells (block_below (heap_alloc_new (w.alloc _) _) hb1); simp only [World.size_alloc] at p0 p1 p2 p3; clear hb1) | (go_at_call_of 206 (Value.slice xo xn xc); refine (eqStmS_fit xo xo' xn xc xc' xs _ fx (HS.out _ B1.out).2.1 (HS.out _ B1.out).2.2).mono ?_; rintro e w2 ⟨rfl, hb2⟩; have B2 := hid (B1.out.trans (hb2.mono B1.out.size)); clear hb2))
  go_ret
  exact ⟨rfl, B2.out⟩

set_option maxHeartbeats 800000 in
theorem eqTrans_same (f s t : Int) (eo xo eo' xo' : Option Addr) (en ec xn xc ec' xc' : Nat) (es : List (Int × Int)) (xs : List StmD) (w : World) (fe : en ≤ 1048576) (fx : Fits xs) (he : ItemsOf w eo en es) (hx : StmsOf w xo xn xs) (he' : ItemsOf w eo' en es) (hx' : StmsOf w xo' xn xs) :
    Calls Tryz.prog 177 #[.agg #[.int .i64 f, .int .i64 s, .slice eo en ec, .int .i64 t, .slice xo xn xc], .agg #[.int .i64 f, .int .i64 s, .slice eo' en ec', .int .i64 t, .slice xo' xn xc']] w fun e w' => e = .returned (.bool true) ∧ Below w.heap.size w w' := by
  have HS : Hid (∀ w', Below w.heap.size w w' → (ItemsOf w' eo en es ∧ ItemsOf w' eo' en es) ∧ StmsOf w' xo xn xs ∧ StmsOf w' xo' xn xs) := fun w' h => ⟨⟨he.below h, he'.below h⟩, hx.below h, hx'.below h⟩
  clear he hx he' hx'
  go_enter Tryz.func177, Tryz.ntmps177
  go_wp2_with (first | (go_at_call 207; refine (eqItemS_same eo eo' en ec ec' es _ fe (HS.out _ (below2 _ _ _)).1.1 (HS.out _ (below2 _ _ _)).1.2).mono ?_; rintro e w1 ⟨rfl, hb1⟩; have B1 := hid ((below2 _ _ _).trans (hb1.mono (by simp; omega))); obtain ⟨q0, q1, q2, q3, q4⟩ := five_cells (block_below (block_below (heap_alloc_new w _) (below1 _ _)) hb1); obtain ⟨p0, p1, p2, p3, p4⟩ := five_cells (block_below (heap_alloc_new (w.alloc _) _) hb1); simp only [World.size_alloc] at p0 p1 p2 p3 p4; clear hb1) | (go_at_call_of 206 (Value.slice xo xn xc); refine (eqStmS_fit xo xo' xn xc xc' xs _ fx (HS.out _ B1.out).2.1 (HS.out _ B1.out).2.2).mono ?_; rintro e w2 ⟨rfl, hb2⟩; have B2 := hid (B1.out.trans (hb2.mono B1.out.size)); clear hb2))
  go_ret
  exact ⟨rfl, B2.out⟩

set_option maxHeartbeats 800000 in
theorem eqStateS_same (ao bo : Option Addr) (n c d : Nat) (ss : List StD) (w : World) (hf : FitsSt ss) (hx : StatesOf w ao n ss) (hy : StatesOf w bo n ss) :
    Calls Tryz.prog 136 #[.slice ao n c, .slice bo n d] w fun e w' => e = .returned (.bool true) ∧ Below w.heap.size w w' := by
  have hn : n ≤ 1048576 := by rw [← hx.1]; exact hf.1
  have HF : Hid (∀ i, i < n → Fits (ss.getD i st0).entry ∧ Fits (ss.getD i st0).exit) := by have := hf.2; rw [hx.1] at this; exact this
  clear hf
  go_enter Tryz.func136, Tryz.ntmps136
  go_wp2
  go_loopw [5] (fun i wr => ∃ k : Nat, k ≤ n ∧ i = .int .i64 k ∧ Below w.heap.size w wr) (fun i _ => n - (intOf i).toNat)
  case atStart => exact ⟨0, Nat.zero_le _, rfl, Below.refl _ _⟩
  case round =>
    obtain ⟨k, hk, rfl, hb⟩ := hrel
    have HB := hid hb
    by_cases hlt : k < n
    · obtain ⟨b, off, rfl, hbl, hc⟩ := hx.2 (by omega)
      obtain ⟨b2, off2, rfl, hbl2, hc2⟩ := hy.2 (by omega)
      have hi : (k : Int) < (n : Int) := by omega
      have hff := HF.out k hlt
      obtain ⟨x1, x2, ⟨co, cn, cc, x3, hcn, hit⟩, ⟨do_, dn, dc, x4, hdn, hit2⟩⟩ := hc k hlt
      obtain ⟨y1, y2, ⟨eo, en, ec, y3, hen, jt⟩, ⟨fo, fn, fc, y4, hfn, jt2⟩⟩ := hc2 k hlt
      have e1 : en = cn := by rw [← jt.1, hit.1]
      have e2 : fn = dn := by rw [← jt2.1, hit2.1]
      subst e1 e2
      have k1 := cell_regrown ((hb.cell (p := ⟨b, off + k * 4, none⟩) hbl).trans x1)
      have k2 := cell_regrown ((hb.cell (p := ⟨b, off + k * 4 + 1, none⟩) hbl).trans x2)
      have k3 := cell_regrown ((hb.cell (p := ⟨b, off + k * 4 + 2, none⟩) hbl).trans x3)
      have k4 := cell_regrown ((hb.cell (p := ⟨b, off + k * 4 + 3, none⟩) hbl).trans x4)
      have l1 := cell_regrown ((hb.cell (p := ⟨b2, off2 + k * 4, none⟩) hbl2).trans y1)
      have l2 := cell_regrown ((hb.cell (p := ⟨b2, off2 + k * 4 + 1, none⟩) hbl2).trans y2)
      have l3 := cell_regrown ((hb.cell (p := ⟨b2, off2 + k * 4 + 2, none⟩) hbl2).trans y3)
      have l4 := cell_regrown ((hb.cell (p := ⟨b2, off2 + k * 4 + 3, none⟩) hbl2).trans y4)
      obtain ⟨s, es⟩ : ∃ s, s = ss.getD k st0 := ⟨_, rfl⟩
      rw [← es] at k1 k2 l1 l2 hit hit2 jt jt2 hff
      have cE : ∀ d os, Calls Tryz.prog 176 #[.agg #[.int .i64 s.parent, .int .i64 s.initial, .slice co en cc, .slice do_ fn dc], .agg #[.int .i64 s.parent, .int .i64 s.initial, .slice eo en ec, .slice fo fn fc]] (grow (redrawn wr d) os) fun e w'' => e = .returned (.bool true) ∧ ∃ p : Regrown, w'' = grow (redrawn wr p.d) p.os :=
        fun d os => Calls.regrown_of (eqState_same s.parent s.initial co do_ eo fo en cc fn dc ec fc s.entry s.exit _ hff.1 hff.2 (hit.below (hb.trans ((below_regrown wr d os).mono hb.size))) (hit2.below (hb.trans ((below_regrown wr d os).mono hb.size))) (jt.below (hb.trans ((below_regrown wr d os).mono hb.size))) (jt2.below (hb.trans ((below_regrown wr d os).mono hb.size))))
      obtain ⟨kd, hkd⟩ : ∃ kd, kd = s.parent := ⟨_, rfl⟩
      obtain ⟨av, hav⟩ : ∃ av, av = s.initial := ⟨_, rfl⟩
      rw [← hkd] at k1 l1 cE
      rw [← hav] at k2 l2 cE
      clear hx hy hc hc2 x1 x2 x3 x4 y1 y2 y3 y4 hit hit2 jt jt2 es hb hkd hav hcn hdn hen hfn hff
      go_wp2
      refine wp_region_quiet_below (by kernel_rfl) (by kernel_rfl) ?_
      repeat (any_goals (first | go_big_quiet_step (first | exact cE _ _) | quiet_step (first | exact cE _ _)))
      refine wpQuiet_nil ?_
      intro _ hw'
      obtain ⟨⟨dq, osq⟩, hw''⟩ := hw'
      subst hw''
      go_wp2
      go_roundw
      case rel => exact ⟨k + 1, by omega, by go_num, HB.out.trans ((below_regrown wr dq osq).mono HB.out.size)⟩
      case measure => simp [intOf]; omega
    · have e : k = n := by omega
      subst e
      clear hx hy hb
      go_wp2
      go_ret
      exact ⟨rfl, HB.out⟩

set_option maxHeartbeats 800000 in
theorem eqTransS_same (ao bo : Option Addr) (n c d : Nat) (ss : List TrD) (w : World) (hf : FitsTr ss) (hx : TransOf w ao n ss) (hy : TransOf w bo n ss) :
    Calls Tryz.prog 137 #[.slice ao n c, .slice bo n d] w fun e w' => e = .returned (.bool true) ∧ Below w.heap.size w w' := by
  have hn : n ≤ 1048576 := by rw [← hx.1]; exact hf.1
  have HF : Hid (∀ i, i < n → (ss.getD i tr0).guard.length ≤ 1048576 ∧ Fits (ss.getD i tr0).action) := by have := hf.2; rw [hx.1] at this; exact this
  clear hf
  go_enter Tryz.func137, Tryz.ntmps137
  go_wp2
  go_loopw [5] (fun i wr => ∃ k : Nat, k ≤ n ∧ i = .int .i64 k ∧ Below w.heap.size w wr) (fun i _ => n - (intOf i).toNat)
  case atStart => exact ⟨0, Nat.zero_le _, rfl, Below.refl _ _⟩
  case round =>
    obtain ⟨k, hk, rfl, hb⟩ := hrel
    have HB := hid hb
    by_cases hlt : k < n
    · obtain ⟨b, off, rfl, hbl, hc⟩ := hx.2 (by omega)
      obtain ⟨b2, off2, rfl, hbl2, hc2⟩ := hy.2 (by omega)
      have hi : (k : Int) < (n : Int) := by omega
      have hff := HF.out k hlt
      obtain ⟨x1, x2, ⟨co, cn, cc, x3, hcn, hit⟩, x5, ⟨do_, dn, dc, x4, hdn, hit2⟩⟩ := hc k hlt
      obtain ⟨y1, y2, ⟨eo, en, ec, y3, hen, jt⟩, y5, ⟨fo, fn, fc, y4, hfn, jt2⟩⟩ := hc2 k hlt
      have e1 : en = cn := by rw [← jt.1, hit.1]
      have e2 : fn = dn := by rw [← jt2.1, hit2.1]
      subst e1 e2
      have k1 := cell_regrown ((hb.cell (p := ⟨b, off + k * 5, none⟩) hbl).trans x1)
      have k2 := cell_regrown ((hb.cell (p := ⟨b, off + k * 5 + 1, none⟩) hbl).trans x2)
      have k3 := cell_regrown ((hb.cell (p := ⟨b, off + k * 5 + 2, none⟩) hbl).trans x3)
      have k5 := cell_regrown ((hb.cell (p := ⟨b, off + k * 5 + 3, none⟩) hbl).trans x5)
      have k4 := cell_regrown ((hb.cell (p := ⟨b, off + k * 5 + 4, none⟩) hbl).trans x4)
      have l1 := cell_regrown ((hb.cell (p := ⟨b2, off2 + k * 5, none⟩) hbl2).trans y1)
      have l2 := cell_regrown ((hb.cell (p := ⟨b2, off2 + k * 5 + 1, none⟩) hbl2).trans y2)
      have l3 := cell_regrown ((hb.cell (p := ⟨b2, off2 + k * 5 + 2, none⟩) hbl2).trans y3)
      have l5 := cell_regrown ((hb.cell (p := ⟨b2, off2 + k * 5 + 3, none⟩) hbl2).trans y5)
      have l4 := cell_regrown ((hb.cell (p := ⟨b2, off2 + k * 5 + 4, none⟩) hbl2).trans y4)
      obtain ⟨s, es⟩ : ∃ s, s = ss.getD k tr0 := ⟨_, rfl⟩
      rw [← es] at k1 k2 k5 l1 l2 l5 hit hit2 jt jt2 hff
      have hg : en ≤ 1048576 := by rw [← hit.1]; exact hff.1
      have cE : ∀ d os, Calls Tryz.prog 177 #[.agg #[.int .i64 s.src, .int .i64 s.sig, .slice co en cc, .int .i64 s.target, .slice do_ fn dc], .agg #[.int .i64 s.src, .int .i64 s.sig, .slice eo en ec, .int .i64 s.target, .slice fo fn fc]] (grow (redrawn wr d) os) fun e w'' => e = .returned (.bool true) ∧ ∃ p : Regrown, w'' = grow (redrawn wr p.d) p.os :=
        fun d os => Calls.regrown_of (eqTrans_same s.src s.sig s.target co do_ eo fo en cc fn dc ec fc s.guard s.action _ hg hff.2 (hit.below (hb.trans ((below_regrown wr d os).mono hb.size))) (hit2.below (hb.trans ((below_regrown wr d os).mono hb.size))) (jt.below (hb.trans ((below_regrown wr d os).mono hb.size))) (jt2.below (hb.trans ((below_regrown wr d os).mono hb.size))))
      obtain ⟨kd, hkd⟩ : ∃ kd, kd = s.src := ⟨_, rfl⟩
      obtain ⟨av, hav⟩ : ∃ av, av = s.sig := ⟨_, rfl⟩
      obtain ⟨tv, htv⟩ : ∃ tv, tv = s.target := ⟨_, rfl⟩
      rw [← hkd] at k1 l1 cE
      rw [← hav] at k2 l2 cE
      rw [← htv] at k5 l5 cE
      clear hx hy hc hc2 x1 x2 x3 x4 x5 y1 y2 y3 y4 y5 hit hit2 jt jt2 es hb hkd hav htv hcn hdn hen hfn hff hg
      go_wp2
      refine wp_region_quiet_below (by kernel_rfl) (by kernel_rfl) ?_
      repeat (any_goals (first | go_big_quiet_step (first | exact cE _ _) | quiet_step (first | exact cE _ _)))
      refine wpQuiet_nil ?_
      intro _ hw'
      obtain ⟨⟨dq, osq⟩, hw''⟩ := hw'
      subst hw''
      go_wp2
      go_roundw
      case rel => exact ⟨k + 1, by omega, by go_num, HB.out.trans ((below_regrown wr dq osq).mono HB.out.size)⟩
      case measure => simp [intOf]; omega
    · have e : k = n := by omega
      subst e
      clear hx hy hb
      go_wp2
      go_ret
      exact ⟨rfl, HB.out⟩

set_option maxHeartbeats 800000 in
theorem eqChart_same (eo xo eo' xo' : Option Addr) (en ec xn xc ec' xc' : Nat) (es : List StD) (xs : List TrD) (w : World) (fe : FitsSt es) (fx : FitsTr xs) (he : StatesOf w eo en es) (hx : TransOf w xo xn xs) (he' : StatesOf w eo' en es) (hx' : TransOf w xo' xn xs) :
    Calls Tryz.prog 113 #[.agg #[.slice eo en ec, .slice xo xn xc], .agg #[.slice eo' en ec', .slice xo' xn xc']] w fun e w' => e = .returned (.bool true) ∧ Below w.heap.size w w' := by
  have HS : Hid (∀ w', Below w.heap.size w w' → (StatesOf w' eo en es ∧ StatesOf w' eo' en es) ∧ TransOf w' xo xn xs ∧ TransOf w' xo' xn xs) := fun w' h => ⟨⟨he.below h, he'.below h⟩, hx.below h, hx'.below h⟩
  clear he hx he' hx'
  go_enter Tryz.func113, Tryz.ntmps113
  go_wp2_with (first | (go_at_call 136; refine (eqStateS_same eo eo' en ec ec' es _ fe (HS.out _ (below2 _ _ _)).1.1 (HS.out _ (below2 _ _ _)).1.2).mono ?_; rintro e w1 ⟨rfl, hb1⟩; have B1 := hid ((below2 _ _ _).trans (hb1.mono (by simp; omega))); obtain ⟨q0, q1⟩ := two_cells (block_below (block_below (heap_alloc_new w _) (below1 _ _)) hb1); obtain ⟨p0, p1⟩ := two_cells (block_below (heap_alloc_new (w.alloc _) _) hb1); simp only [World.size_alloc] at p0 p1; clear hb1) | (go_at_call 137; refine (eqTransS_same xo xo' xn xc xc' xs _ fx (HS.out _ B1.out).2.1 (HS.out _ B1.out).2.2).mono ?_; rintro e w2 ⟨rfl, hb2⟩; have B2 := hid (B1.out.trans (hb2.mono B1.out.size)); clear hb2))
  go_ret
  exact ⟨rfl, B2.out⟩
end Go.Proofs.YthaklmdhkkfigaaGreat
