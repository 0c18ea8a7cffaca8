import Derived.Test.YtjeckanjekgkkaaProg
import Derived.WalkKit
import Derived.WalkSpells
import Derived.WalkLawsBesides
import Derived.Deep.OwnRows
import Derived.Deep.QuietTactic
import Derived.BigQuiet
import Derived.Lib.QuietBelow
import Derived.Laws.EntriesVeiled
import Derived.Deep.RegionWith
import Derived.Deep.DrawnRows
import Derived.Maps.AppendAt
namespace Go.Proofs.Ytjeckanjekgkkaa
open Go.RowKit Go.Sort

theorem ret_int {k : IntKind} {a b : Int} (h : a = b) : Ending.returned (.int k a) = .returned (.int k b) := by rw [h]

theorem ret_bool {a b : Bool} (h : a = b) : Ending.returned (.bool a) = .returned (.bool b) := by rw [h]

theorem below1 (w : World) (o1 : Obj) : Below w.heap.size w (w.alloc o1) := (Below.refl _ _).alloc (Nat.le_refl _) o1

theorem below2 (w : World) (o1 o2 : Obj) : Below w.heap.size w ((w.alloc o1).alloc o2) := (below1 w o1).alloc (by simp) o2

theorem below3 (w : World) (o1 o2 o3 : Obj) : Below w.heap.size w (((w.alloc o1).alloc o2).alloc o3) := (below2 w o1 o2).alloc (by simp; omega) o3

theorem hid {p : Prop} (h : p) : Hid p := h

theorem belowDraws {B : Nat} {w w' : World} (h : Below B w w') (n : Nat) : Below B w (w'.drewN n) := ⟨h.os, h.tape, h.output, h.size, h.block⟩

theorem bcell2 {W w1 : World} (hb : Below W.heap.size W w1) : (∀ b o, b < W.heap.size → w1.cell? ⟨b, o, none⟩ = W.cell? ⟨b, o, none⟩) ∧ (∀ b o, b < W.heap.size → w1.frozen? ⟨b, o, none⟩ = W.frozen? ⟨b, o, none⟩) :=
  ⟨fun b o h => hb.cell (p := ⟨b, o, none⟩) h, fun b o h => hb.frozen (p := ⟨b, o, none⟩) h⟩

theorem quad_cells {w : World} {H : Nat} {a b c d : Value} {t : TypeId} (h : w.heap[H]? = some (.cells #[a, b, c, d] t (0, 0))) : w.cell? ⟨H, 0, none⟩ = some a ∧ w.cell? ⟨H, 1, none⟩ = some b ∧ w.cell? ⟨H, 2, none⟩ = some c ∧ w.cell? ⟨H, 3, none⟩ = some d := by
  simp [World.cell?, h]

theorem block_below {w w' : World} {H : Nat} {ob : Obj} (h : w.heap[H]? = some ob) (hb : Below w.heap.size w w') : w'.heap[H]? = some ob := (hb.block _ (lt_of_block h)).trans h

theorem ret_two {a b c d : Int} (h1 : a = c) (h2 : b = d) : Ending.returned (.tuple #[.int .i64 a, .int .i64 b]) = .returned (.tuple #[.int .i64 c, .int .i64 d]) := by rw [h1, h2]

theorem ownsRow_below {w w' : World} {base : Nat} {e : TypeId} {size : Nat} {v : Value} {n : Nat} {xs : List Value} (h : w.ownsRow base e size v n xs) (hb : Below w.heap.size w w') : w'.ownsRow base e size v n xs := by
  refine ⟨h.1, ?_⟩
  rcases h.2 with h0 | ⟨g, cap, cur, h1, h2, h3, h4⟩
  · exact .inl h0
  · exact .inr ⟨g, cap, cur, h1, h2, (hb.block _ (lt_of_block h3)).trans h3, h4⟩

theorem grown_block {w w' : World} {row : Option Nat} (h : w.grownBy w' row) {k : Nat} (hk : k < w.heap.size) (hr : row ≠ some k) : w'.heap[k]? = w.heap[k]? := h.block k hk (fun e => hr e.symm)

/-- A slice of numbers as the walk is told of it: where there is an element it has an address, below the heap's end, and its cells hold the numbers. -/
def SliceOf (w : World) (ao : Option Addr) (n : Nat) (zs : List Int) : Prop :=
  zs.length = n ∧ (0 < n → ∃ b off, ao = some ⟨b, off, none⟩ ∧ b < w.heap.size ∧ ∀ i, i < n → w.cell? ⟨b, off + i, none⟩ = some (.int .i64 (zs.getD i 0)))

theorem SliceOf.below {w w' : World} {ao : Option Addr} {n : Nat} {zs : List Int} (h : SliceOf w ao n zs) (hb : Below w.heap.size w w') : SliceOf w' ao n zs :=
  ⟨h.1, fun hn => by
    obtain ⟨b, off, e, hlt, hc⟩ := h.2 hn
    exact ⟨b, off, e, Nat.lt_of_lt_of_le hlt hb.size, fun i hi => (hb.cell (p := ⟨b, off + i, none⟩) hlt).trans (hc i hi)⟩⟩

theorem SliceOf.row {w : World} {b n : Nat} {zs : List Int} (hz : zs.length = n) (h : w.rowIs b 3 n (fun i => .int .i64 (zs.getD i 0))) : SliceOf w (some ⟨b, 0, none⟩) n zs :=
  ⟨hz, fun _ => ⟨b, 0, rfl, h.lt, fun i hi => by simpa using h.cell hi⟩⟩

set_option maxHeartbeats 400000 in
theorem eqIntS_any (ao bo : Option Addr) (n m c d : Nat) (xs ys : List Int) (w : World) (hn : n ≤ 1048576) (hm : m ≤ 9223372036854775807) (hx : SliceOf w ao n xs) (hy : SliceOf w bo m ys) :
    Calls Try.prog 10 #[.slice ao n c, .slice bo m d] w fun e w' => e = .returned (.bool (decide (xs = ys))) ∧ ∃ q, w' = w.drewN q := by
  by_cases hnm : n = m
  · subst hnm
    have hl : xs.length = ys.length := by rw [hx.1, hy.1]
    go_enter Try.func10, Try.ntmps10
    go_wp2
    go_loopw [5] (fun i wr => ∃ k : Nat, k ≤ n ∧ i = .int .i64 k ∧ (∀ j, j < k → xs.getD j 0 = ys.getD j 0) ∧ ∃ q, wr = w.drewN q) (fun i _ => n - (intOf i).toNat)
    case atStart => exact ⟨0, Nat.zero_le _, rfl, fun j h => absurd h (by omega), 0, rfl⟩
    case round =>
      obtain ⟨k, hk, rfl, he, q, rfl⟩ := hrel
      have HE : Hid (∀ j, j < k → xs.getD j 0 = ys.getD j 0) := he
      clear he
      by_cases hlt : k < n
      · obtain ⟨b, off, rfl, hbl, hc⟩ := hx.2 (by omega)
        obtain ⟨b2, off2, rfl, hbl2, hc2⟩ := hy.2 (by omega)
        have h1 := hc k hlt
        have h2 := hc2 k hlt
        have hi : (k : Int) < (n : Int) := by omega
        obtain ⟨x, ex⟩ : ∃ x, x = xs.getD k 0 := ⟨_, rfl⟩
        obtain ⟨y, ey⟩ : ∃ y, y = ys.getD k 0 := ⟨_, rfl⟩
        rw [← ex] at h1
        rw [← ey] at h2
        have EX : Hid (x = xs.getD k 0) := ex
        have EY : Hid (y = ys.getD k 0) := ey
        have HL : Hid (xs.length = ys.length ∧ xs.length = n ∧ ys.length = n) := ⟨hl, hx.1, hy.1⟩
        clear ex ey hc hc2 hx hy hl
        by_cases hxy : x = y
        · subst hxy
          go_wp2
          go_quiet (fail)
          go_wp2
          go_roundw
          case rel =>
            refine ⟨k + 1, by omega, by go_num, fun j hj => ?_, ?_⟩
            · by_cases e : j = k
              · subst e; rw [← EX.out, ← EY.out]
              · exact HE.out j (by omega)
            · exact ⟨q + nq, by first | rfl | rw [World.drewN_drewN]⟩
          case measure => simp [intOf]; omega
        · have hb : (x != y) = true := by simpa using hxy
          go_wp2
          go_quiet (fail)
          go_wp2
          go_ret
          refine ⟨?_, q + nq, by first | rfl | rw [World.drewN_drewN]⟩
          have hne : ¬ xs = ys := fun e => hxy (by rw [EX.out, EY.out, e])
          simp [hne]
      · have e : k = n := by omega
        subst e
        have hxs : xs = ys := by
          apply List.ext_getElem hl
          intro i h1 h2
          have := HE.out i (by have := hx.1; omega)
          simpa [List.getD_eq_getElem?_getD, List.getElem?_eq_getElem h1, List.getElem?_eq_getElem h2] using this
        have HX : Hid (xs = ys) := hxs
        clear hxs
        go_wp2
        go_ret
        exact ⟨by simp [HX.out], q, rfl⟩
  · have hne : ¬ xs = ys := fun e => hnm (by rw [← hx.1, ← hy.1, e])
    have h2 : ((n : Int) != (m : Int)) = true := by simp; omega
    have HX : Hid (¬ xs = ys) := hne
    clear hne hx hy
    go_enter Try.func10, Try.ntmps10
    go_wp2
    go_ret
    exact ⟨by simp [HX.out], 0, rfl⟩

def betB (x lo hi : Int) : Bool := decide (lo ≤ x ∧ x ≤ hi)

set_option maxHeartbeats 400000 in
theorem l1Between_any (x lo hi : Int) (w : World) : Calls Try.prog 40 #[.int .i64 x, .int .i64 lo, .int .i64 hi] w fun e w' => e = .returned (.bool (betB x lo hi)) ∧ w' = w := by
  by_cases h1 : lo ≤ x <;> by_cases h7 : x ≤ hi
  all_goals
    go_enter Try.func40, Try.ntmps40
    go_wp2
    go_ret
    exact ⟨ret_bool (by simp [betB]; omega), rfl⟩

theorem l1Between_of (x lo hi : Int) (b : Bool) (h : b = betB x lo hi) (w : World) : Calls Try.prog 40 #[.int .i64 x, .int .i64 lo, .int .i64 hi] w fun e w' => e = .returned (.bool b) ∧ w' = w := by
  rw [h]; exact l1Between_any x lo hi w

set_option maxHeartbeats 400000 in
theorem within_any (n c : Int) (w : World) : Calls Try.prog 26 #[.int .i64 n, .int .i64 c] w fun e w' => e = .returned (.bool (decide (0 ≤ n ∧ n < c))) ∧ w' = w := by
  by_cases h1 : 0 ≤ n <;> by_cases h7 : n < c
  all_goals
    go_enter Try.func26, Try.ntmps26
    go_wp2
    go_ret
    exact ⟨ret_bool (by simp; omega), rfl⟩

/-- A slice of items as the walk is told of it. -/
def ItemsOf (w : World) (ao : Option Addr) (n : Nat) (its : List (Int × Int)) : Prop :=
  its.length = n ∧ (0 < n → ∃ b off, ao = some ⟨b, off, none⟩ ∧ b < w.heap.size ∧ ∀ i, i < n → w.cell? ⟨b, off + i * 2, none⟩ = some (.int .i64 (its.getD i (0, 0)).1) ∧ w.cell? ⟨b, off + i * 2 + 1, none⟩ = some (.int .i64 (its.getD i (0, 0)).2))

theorem ItemsOf.below {w w' : World} {ao : Option Addr} {n : Nat} {its : List (Int × Int)} (h : ItemsOf w ao n its) (hb : Below w.heap.size w w') : ItemsOf w' ao n its :=
  ⟨h.1, fun hn => by
    obtain ⟨b, off, e, hlt, hc⟩ := h.2 hn
    exact ⟨b, off, e, Nat.lt_of_lt_of_le hlt hb.size, fun i hi => ⟨(hb.cell (p := ⟨b, off + i * 2, none⟩) hlt).trans (hc i hi).1, (hb.cell (p := ⟨b, off + i * 2 + 1, none⟩) hlt).trans (hc i hi).2⟩⟩⟩

/-- The cell of an item list. -/
def icell (its : List (Int × Int)) (j : Nat) : Value := if j % 2 = 0 then .int .i64 (its.getD (j / 2) (0, 0)).1 else .int .i64 (its.getD (j / 2) (0, 0)).2

theorem icell_even (its : List (Int × Int)) (i : Nat) : icell its (i * 2) = .int .i64 (its.getD i (0, 0)).1 := by
  have h1 : i * 2 % 2 = 0 := by omega
  have h2 : i * 2 / 2 = i := by omega
  simp [icell, h1, h2]

theorem icell_odd (its : List (Int × Int)) (i : Nat) : icell its (i * 2 + 1) = .int .i64 (its.getD i (0, 0)).2 := by
  have h1 : ¬ (i * 2 + 1) % 2 = 0 := by omega
  have h2 : (i * 2 + 1) / 2 = i := by omega
  simp [icell, h2]

theorem ItemsOf.row {w : World} {b n : Nat} {its : List (Int × Int)} (hz : its.length = n) (h : w.rowIs b 102 (n * 2) (icell its)) : ItemsOf w (some ⟨b, 0, none⟩) n its :=
  ⟨hz, fun _ => ⟨b, 0, rfl, h.lt, fun i hi => ⟨by rw [← icell_even]; simpa using h.cell (i := i * 2) (by omega), by rw [← icell_odd]; simpa using h.cell (i := i * 2 + 1) (by omega)⟩⟩⟩

theorem Try.info102 : (Try.prog.info? 102).map (fun i => (i.zero, i.size, i.bytes)) = some (some (.agg #[.int .i64 0, .int .i64 0]), 2, 16) := by kernel_rfl

/-- 'make([]Item, n)' -/
theorem run_make_pairs (t e : TypeId) (z0 z1 : Value) (bytes : Nat) (ht : Try.prog.underlying t = some (.slice e)) (hinfo : (Try.prog.info? e).map (fun i => (i.zero, i.size, i.bytes)) = some (some (.agg #[z0, z1]), 2, bytes))
    (kl kc : IntKind) (n : Nat) (hbytes : bytes * n ≤ 281474976710656) (h63 : n ≤ 9223372036854775807) (w : World) :
    (Instr.makeSlice t (.int kl (n : Int)) (.int kc (n : Int))).run Try.prog w = .ok (.slice (some ⟨w.heap.size, 0, none⟩) n n) (w.alloc (.cells (madeCells #[z0, z1] (n * 2)) e)) := by
  obtain ⟨i, hi, hzz⟩ := Option.map_eq_some_iff.1 hinfo
  simp only [Prod.mk.injEq] at hzz
  obtain ⟨hz, hs, hb⟩ := hzz
  have hb' : (i.bytes : Int) * (n : Int) ≤ 281474976710656 := by
    have h : ((i.bytes * n : Nat) : Int) ≤ 281474976710656 := by rw [hb]; omega
    rwa [Int.natCast_mul] at h
  have hr := run_make (P := Try.prog) w t e i (.agg #[z0, z1]) ht hi hz kl kc n n (by omega) (Int.le_refl _) hb' (by omega)
  simp only [Int.toNat_natCast, hs] at hr
  exact hr

theorem rowIs_pairs (w : World) (z : Value) (n : Nat) (t : TypeId) : (w.alloc (.cells (madeCells #[z, z] (n * 2)) t)).rowIs w.heap.size t (n * 2) (fun _ => z) :=
  ⟨_, heap_alloc_new _ _, size_madeCells _ _, fun i hi => by
    have h : i % 2 = 0 ∨ i % 2 = 1 := by omega
    rcases h with h | h <;> simp [madeCells, hi, h]⟩

set_option maxHeartbeats 400000 in
theorem szItemS_any (ao : Option Addr) (n c : Nat) (left : Int) (w : World) (hn : n ≤ 9223372036854775807) (h0 : 0 ≤ left) (h1 : left ≤ 1048576) :
    Calls Try.prog 51 #[.slice ao n c, .int .i64 left] w fun e w' => e = .returned (.int .i64 (if left < n then -1 else left - n)) ∧ w' = w := by
  by_cases h : left < n
  · rw [if_pos h]
    have h2 : left - n < 0 := by omega
    go_enter Try.func51, Try.ntmps51
    go_wp2
    go_ret
    exact ⟨rfl, rfl⟩
  · rw [if_neg h]
    have h2 : ¬ left - n < 0 := by omega
    go_enter Try.func51, Try.ntmps51
    go_wp2
    go_ret
    exact ⟨rfl, rfl⟩

set_option maxHeartbeats 400000 in
theorem toItem_any (x y : Int) (w : World) : Calls Try.prog 65 #[.agg #[.int .i64 x, .int .i64 y]] w fun e w' => e = .returned (.agg #[.int .i64 x, .int .i64 y]) ∧ Below w.heap.size w w' := by
  go_enter Try.func65, Try.ntmps65
  go_wp2
  exact bodyPost_ret (v := .agg #[.int .i64 x, .int .i64 y]) (by simp [results, Try.results65, go_sem]) rfl ⟨rfl, below3 _ _ _ _⟩

set_option maxHeartbeats 400000 in
theorem eqItem_any (x y x' y' : Int) (w : World) : Calls Try.prog 68 #[.agg #[.int .i64 x, .int .i64 y], .agg #[.int .i64 x', .int .i64 y']] w fun e w' => e = .returned (.bool (decide (x = x' ∧ y = y'))) ∧ Below w.heap.size w w' := by
  by_cases h1 : x = x'
  · by_cases h2 : y = y'
    · subst h1 h2
      go_enter Try.func68, Try.ntmps68
      go_wp2
      go_ret
      exact ⟨ret_bool (by simp), below2 _ _ _⟩
    · subst h1
      have hb : (y != y') = true := by simpa using h2
      have H : Hid (¬ y = y') := h2
      clear h2
      go_enter Try.func68, Try.ntmps68
      go_wp2
      go_ret
      exact ⟨ret_bool (by simp [H.out]), below2 _ _ _⟩
  · have hb : (x != x') = true := by simpa using h1
    have H : Hid (¬ x = x') := h1
    clear h1
    go_enter Try.func68, Try.ntmps68
    go_wp2
    go_ret
    exact ⟨ret_bool (by simp [H.out]), below2 _ _ _⟩

theorem toItems_step {w wr : World} {B n k : Nat} {its : List (Int × Int)}
    (hr : wr.rowIs B 102 (n * 2) (fun j => if j < k * 2 then icell its j else .int .i64 0)) (hb : Below B w wr) :
    ((wr.setCell ⟨B, k * 2, none⟩ (.int .i64 (its.getD k (0, 0)).1)).setCell ⟨B, k * 2 + 1, none⟩ (.int .i64 (its.getD k (0, 0)).2)).rowIs B 102 (n * 2) (fun j => if j < (k + 1) * 2 then icell its j else .int .i64 0) ∧
      Below B w ((wr.setCell ⟨B, k * 2, none⟩ (.int .i64 (its.getD k (0, 0)).1)).setCell ⟨B, k * 2 + 1, none⟩ (.int .i64 (its.getD k (0, 0)).2)) := by
  refine ⟨((hr.set (k * 2) _).set (k * 2 + 1) _).congr fun i hi => ?_, (hb.setCell (Nat.le_refl _) _).setCell (Nat.le_refl _) _⟩
  by_cases e : i = k * 2 + 1
  · subst e; simp [icell_odd, show k * 2 + 1 < (k + 1) * 2 by omega]
  · by_cases e2 : i = k * 2
    · subst e2; simp [icell_even, show k * 2 < (k + 1) * 2 by omega]
    · by_cases h : i < k * 2
      · simp [e, e2, h, show i < (k + 1) * 2 by omega]
      · simp [e, e2, h, show ¬ i < (k + 1) * 2 by omega]

set_option maxHeartbeats 800000 in
theorem toItemS_any (ao : Option Addr) (n c : Nat) (its : List (Int × Int)) (w : World) (hn : n ≤ 1048576) (hs : ItemsOf w ao n its) :
    Calls Try.prog 56 #[.slice ao n c] w fun e w' => e = .returned (.slice (some ⟨w.heap.size, 0, none⟩) n n) ∧ w'.rowIs w.heap.size 102 (n * 2) (icell its) ∧ Below w.heap.size w w' := by
  have hmk := run_make_pairs 76 102 (.int .i64 0) (.int .i64 0) 16 Try.underlying76 Try.info102 .i64 .i64 n (by omega) (by omega)
  go_enter Try.func56, Try.ntmps56
  go_wp2
  go_loopw [4] (fun i wr => ∃ k : Nat, k ≤ n ∧ i = .int .i64 k ∧ wr.rowIs w.heap.size 102 (n * 2) (fun j => if j < k * 2 then icell its j else .int .i64 0) ∧ Below w.heap.size w wr) (fun i _ => n - (intOf i).toNat)
  case atStart => exact ⟨0, Nat.zero_le _, rfl, by simpa using rowIs_pairs w (.int .i64 0) n 102, (Below.refl _ _).alloc (Nat.le_refl _) _⟩
  case round =>
    obtain ⟨k, hk, rfl, hr, hb⟩ := hrel
    have HR := hid hr
    have HB := hid hb
    by_cases hlt : k < n
    · obtain ⟨b, off, rfl, hbl, hc⟩ := hs.2 (by omega)
      have hc1 : wr.cell? ⟨b, off + k * 2, none⟩ = some (.int .i64 (its.getD k (0, 0)).1) := (hb.cell (p := ⟨b, off + k * 2, none⟩) hbl).trans (hc k hlt).1
      have hc2 : wr.cell? ⟨b, off + k * 2 + 1, none⟩ = some (.int .i64 (its.getD k (0, 0)).2) := (hb.cell (p := ⟨b, off + k * 2 + 1, none⟩) hbl).trans (hc k hlt).2
      clear hs hc hr hb
      go_wp2_with (go_at_call 65; refine (toItem_any _ _ _).mono ?_; rintro e w1 ⟨rfl, hb1⟩; have hr1 := HR.out.of_block (hb1.block _ HR.out.lt); have f1 := hr1.frozen (k * 2); have f2 := hr1.frozen (k * 2 + 1); have g1 := hr1.cell (i := k * 2) (by omega); have g2 := hr1.cell (i := k * 2 + 1) (by omega); have R1 := hid (toItems_step hr1 (HB.out.trans (hb1.mono (Nat.le_of_lt HR.out.lt)))); clear hr1 hb1)
      go_roundw
      case rel => exact ⟨k + 1, by omega, by go_num, R1.out.1, R1.out.2⟩
      case measure => simp [intOf]; omega
    · have e : k = n := by omega
      subst e
      have R := hid (World.rowIs.congr hr (g := icell its) (fun i hi => by simp [hi]))
      clear hr hb hs
      go_wp2
      go_ret
      exact ⟨rfl, R.out, HB.out⟩

theorem getD_ext {xs ys : List (Int × Int)} {n : Nat} (h1 : xs.length = n) (h2 : ys.length = n) (h : ∀ j, j < n → xs.getD j (0, 0) = ys.getD j (0, 0)) : xs = ys := by
  apply List.ext_getElem (by omega)
  intro i a b
  have := h i (by omega)
  simpa [List.getD_eq_getElem?_getD, List.getElem?_eq_getElem a, List.getElem?_eq_getElem b] using this

set_option maxHeartbeats 800000 in
theorem eqItemS_any (ao bo : Option Addr) (n m c d : Nat) (xs ys : List (Int × Int)) (w : World) (hn : n ≤ 1048576) (hm : m ≤ 9223372036854775807) (hx : ItemsOf w ao n xs) (hy : ItemsOf w bo m ys) :
    Calls Try.prog 62 #[.slice ao n c, .slice bo m d] w fun e w' => e = .returned (.bool (decide (xs = ys))) ∧ Below w.heap.size w w' := by
  by_cases hnm : n = m
  · subst hnm
    have HL : Hid (xs.length = n ∧ ys.length = n) := ⟨hx.1, hy.1⟩
    go_enter Try.func62, Try.ntmps62
    go_wp2
    go_loopw [5] (fun i wr => ∃ k : Nat, k ≤ n ∧ i = .int .i64 k ∧ (∀ j, j < k → xs.getD j (0, 0) = ys.getD j (0, 0)) ∧ Below w.heap.size w wr) (fun i _ => n - (intOf i).toNat)
    case atStart => exact ⟨0, Nat.zero_le _, rfl, fun j h => absurd h (by omega), Below.refl _ _⟩
    case round =>
      obtain ⟨k, hk, rfl, he, hb⟩ := hrel
      have HE : Hid (∀ j, j < k → xs.getD j (0, 0) = ys.getD j (0, 0)) := he
      have HB := hid hb
      clear he
      by_cases hlt : k < n
      · obtain ⟨b, off, rfl, hbl, hc⟩ := hx.2 (by omega)
        obtain ⟨b2, off2, rfl, hbl2, hc2⟩ := hy.2 (by omega)
        have hi : (k : Int) < (n : Int) := by omega
        obtain ⟨x, ex⟩ : ∃ x, x = xs.getD k (0, 0) := ⟨_, rfl⟩
        obtain ⟨y, ey⟩ : ∃ y, y = ys.getD k (0, 0) := ⟨_, rfl⟩
        obtain ⟨x1, x2⟩ := x
        obtain ⟨y1, y2⟩ := y
        have k1 : wr.cell? ⟨b, off + k * 2, none⟩ = some (.int .i64 x1) := (hb.cell (p := ⟨b, off + k * 2, none⟩) hbl).trans (by rw [(hc k hlt).1, ← ex])
        have k2 : wr.cell? ⟨b, off + k * 2 + 1, none⟩ = some (.int .i64 x2) := (hb.cell (p := ⟨b, off + k * 2 + 1, none⟩) hbl).trans (by rw [(hc k hlt).2, ← ex])
        have l1 : wr.cell? ⟨b2, off2 + k * 2, none⟩ = some (.int .i64 y1) := (hb.cell (p := ⟨b2, off2 + k * 2, none⟩) hbl2).trans (by rw [(hc2 k hlt).1, ← ey])
        have l2 : wr.cell? ⟨b2, off2 + k * 2 + 1, none⟩ = some (.int .i64 y2) := (hb.cell (p := ⟨b2, off2 + k * 2 + 1, none⟩) hbl2).trans (by rw [(hc2 k hlt).2, ← ey])
        have q1 := cell_regrown k1
        have q2 := cell_regrown k2
        have r1 := cell_regrown l1
        have r2 := cell_regrown l2
        have EX : Hid ((x1, x2) = xs.getD k (0, 0)) := ex
        have EY : Hid ((y1, y2) = ys.getD k (0, 0)) := ey
        have hsz : Hid (w.heap.size ≤ wr.heap.size) := hb.size
        clear ex ey hc hc2 hx hy hb k1 k2 l1 l2
        by_cases hxy : x1 = y1 ∧ x2 = y2
        · have hd : decide (x1 = y1 ∧ x2 = y2) = true := by simpa using hxy
          have HXY := hid hxy
          have c40 : ∀ d os, Calls Try.prog 68 #[.agg #[.int .i64 x1, .int .i64 x2], .agg #[.int .i64 y1, .int .i64 y2]] (grow (redrawn wr d) os) fun e w'' => e = .returned (.bool true) ∧ ∃ p : Regrown, w'' = grow (redrawn wr p.d) p.os :=
            fun d os => Calls.regrown_of (by rw [← hd]; exact eqItem_any x1 x2 y1 y2 _)
          clear hxy hd
          go_wp2
          refine wp_region_quiet_below (by kernel_rfl) (by kernel_rfl) ?_
          repeat (any_goals (first | go_big_quiet_step (first | exact c40 _ _) | quiet_step (first | exact c40 _ _)))
          refine wpQuiet_nil ?_
          intro _ hw'
          obtain ⟨⟨dq, osq⟩, hw''⟩ := hw'
          subst hw''
          go_wp2
          go_roundw
          case rel =>
            refine ⟨k + 1, by omega, by go_num, fun j hj => ?_, HB.out.trans ((below_regrown wr dq osq).mono hsz.out)⟩
            by_cases e : j = k
            · subst e; rw [← EX.out, ← EY.out, HXY.out.1, HXY.out.2]
            · exact HE.out j (by omega)
          case measure => simp [intOf]; omega
        · have hd : decide (x1 = y1 ∧ x2 = y2) = false := by simpa using hxy
          have HXY := hid hxy
          have c40 : ∀ d os, Calls Try.prog 68 #[.agg #[.int .i64 x1, .int .i64 x2], .agg #[.int .i64 y1, .int .i64 y2]] (grow (redrawn wr d) os) fun e w'' => e = .returned (.bool false) ∧ ∃ p : Regrown, w'' = grow (redrawn wr p.d) p.os :=
            fun d os => Calls.regrown_of (by rw [← hd]; exact eqItem_any x1 x2 y1 y2 _)
          clear hxy hd
          go_wp2
          refine wp_region_quiet_below (by kernel_rfl) (by kernel_rfl) ?_
          repeat (any_goals (first | go_big_quiet_step (first | exact c40 _ _) | quiet_step (first | exact c40 _ _)))
          refine wpQuiet_nil ?_
          intro _ hw'
          obtain ⟨⟨dq, osq⟩, hw''⟩ := hw'
          subst hw''
          go_wp2
          go_ret
          refine ⟨ret_bool ?_, HB.out.trans ((below_regrown wr dq osq).mono hsz.out)⟩
          symm
          rw [decide_eq_false_iff_not]
          intro e
          have := EX.out.trans ((congrArg (fun l => l.getD k (0, 0)) e).trans EY.out.symm)
          exact HXY.out ⟨congrArg Prod.fst this, congrArg Prod.snd this⟩
      · have e : k = n := by omega
        subst e
        have HX : Hid (xs = ys) := getD_ext HL.out.1 HL.out.2 HE.out
        clear hx hy
        go_wp2
        go_ret
        exact ⟨ret_bool (by simp [HX.out]), HB.out⟩
  · have HX : Hid (¬ xs = ys) := hid fun e => hnm (by rw [← hx.1, ← hy.1, e])
    have h2 : ((n : Int) != (m : Int)) = true := by simp; omega
    clear hx hy
    go_enter Try.func62, Try.ntmps62
    go_wp2
    go_ret
    exact ⟨ret_bool (by simp [HX.out]), Below.refl _ _⟩

theorem eqItemS_same (ao bo : Option Addr) (n c d : Nat) (xs : List (Int × Int)) (w : World) (hn : n ≤ 1048576) (hx : ItemsOf w ao n xs) (hy : ItemsOf w bo n xs) :
    Calls Try.prog 62 #[.slice ao n c, .slice bo n d] w fun e w' => e = .returned (.bool true) ∧ Below w.heap.size w w' :=
  (eqItemS_any ao bo n n c d xs xs w hn (by omega) hx hy).mono fun e w' ⟨h1, h2⟩ => ⟨by rw [h1]; simp, h2⟩

/-- Limits as data. -/
structure LimD where
  o : Int
  s : Int
  t : Int
  v : Int

abbrev limP (l : LimD) : Prop := (0 ≤ l.o ∧ l.o ≤ 64) ∧ (0 ≤ l.s ∧ l.s ≤ 64) ∧ (0 ≤ l.t ∧ l.t ≤ 200) ∧ (0 ≤ l.v ∧ l.v ≤ 32)

def limB (l : LimD) : Bool := decide (limP l)

set_option maxHeartbeats 800000 in
theorem l1LimOK_any (o s t v : Int) (w : World) : Calls Try.prog 52 #[.agg #[.int .i64 o, .int .i64 s, .int .i64 t, .int .i64 v]] w fun e w' => e = .returned (.bool (limB ⟨o, s, t, v⟩)) ∧ Below w.heap.size w w' := by
  obtain ⟨b1, h1⟩ : ∃ b, b = betB o 0 64 := ⟨_, rfl⟩
  obtain ⟨b2, h2⟩ : ∃ b, b = betB s 0 64 := ⟨_, rfl⟩
  obtain ⟨b3, h3⟩ : ∃ b, b = betB t 0 200 := ⟨_, rfl⟩
  obtain ⟨b4, h4⟩ : ∃ b, b = betB v 0 32 := ⟨_, rfl⟩
  have C1 := hid (l1Between_of o 0 64 b1 h1)
  have C2 := hid (l1Between_of s 0 64 b2 h2)
  have C3 := hid (l1Between_of t 0 200 b3 h3)
  have C4 := hid (l1Between_of v 0 32 b4 h4)
  have E : Hid (limB ⟨o, s, t, v⟩ = (b1 && b2 && b3 && b4)) := hid (by rw [h1, h2, h3, h4, Bool.eq_iff_iff]; simp [limB, limP, betB, and_assoc])
  clear h1 h2 h3 h4
  rw [E.out]
  cases b1 <;> cases b2 <;> cases b3 <;> cases b4
  all_goals
    go_enter Try.func52, Try.ntmps52
    go_wp2_with (first | (go_at_call_of 40 (Value.int .i64 o); refine (C1.out _).mono ?_; rintro e w1 ⟨rfl, hw⟩; obtain rfl := hw.symm) | (go_at_call_of 40 (Value.int .i64 s); refine (C2.out _).mono ?_; rintro e w1 ⟨rfl, hw⟩; obtain rfl := hw.symm) | (go_at_call_of 40 (Value.int .i64 t); refine (C3.out _).mono ?_; rintro e w1 ⟨rfl, hw⟩; obtain rfl := hw.symm) | (go_at_call_of 40 (Value.int .i64 v); refine (C4.out _).mono ?_; rintro e w1 ⟨rfl, hw⟩; obtain rfl := hw.symm))
    go_ret
    exact ⟨rfl, below1 _ _⟩

end Go.Proofs.Ytjeckanjekgkkaa
