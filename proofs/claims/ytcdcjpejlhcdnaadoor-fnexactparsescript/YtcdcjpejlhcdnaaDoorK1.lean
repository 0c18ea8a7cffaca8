import Derived.Test.YtcdcjpejlhcdnaaDoorProg
import Derived.WalkKit
import Derived.WalkSpells
import Derived.WalkLawsBesides
import Derived.Deep.OwnRows
import Derived.Deep.QuietTactic
import Derived.BigQuiet
import Derived.Lib.QuietBelow
import Derived.Laws.EntriesVeiled
import Derived.Deep.RegionWith
import Derived.Deep.DrawnRows
import Derived.Maps.AppendAt
namespace Go.Proofs.YtcdcjpejlhcdnaaDoor
open Go.RowKit Go.Sort

theorem ret_int {k : IntKind} {a b : Int} (h : a = b) : Ending.returned (.int k a) = .returned (.int k b) := by rw [h]

theorem ret_bool {a b : Bool} (h : a = b) : Ending.returned (.bool a) = .returned (.bool b) := by rw [h]

theorem below1 (w : World) (o1 : Obj) : Below w.heap.size w (w.alloc o1) := (Below.refl _ _).alloc (Nat.le_refl _) o1

theorem below2 (w : World) (o1 o2 : Obj) : Below w.heap.size w ((w.alloc o1).alloc o2) := (below1 w o1).alloc (by simp) o2

theorem below3 (w : World) (o1 o2 o3 : Obj) : Below w.heap.size w (((w.alloc o1).alloc o2).alloc o3) := (below2 w o1 o2).alloc (by simp; omega) o3

theorem hid {p : Prop} (h : p) : Hid p := h

theorem belowDraws {B : Nat} {w w' : World} (h : Below B w w') (n : Nat) : Below B w (w'.drewN n) := ⟨h.os, h.tape, h.output, h.size, h.block⟩

theorem bcell2 {W w1 : World} (hb : Below W.heap.size W w1) : (∀ b o, b < W.heap.size → w1.cell? ⟨b, o, none⟩ = W.cell? ⟨b, o, none⟩) ∧ (∀ b o, b < W.heap.size → w1.frozen? ⟨b, o, none⟩ = W.frozen? ⟨b, o, none⟩) :=
  ⟨fun b o h => hb.cell (p := ⟨b, o, none⟩) h, fun b o h => hb.frozen (p := ⟨b, o, none⟩) h⟩

theorem quad_cells {w : World} {H : Nat} {a b c d : Value} {t : TypeId} (h : w.heap[H]? = some (.cells #[a, b, c, d] t (0, 0))) : w.cell? ⟨H, 0, none⟩ = some a ∧ w.cell? ⟨H, 1, none⟩ = some b ∧ w.cell? ⟨H, 2, none⟩ = some c ∧ w.cell? ⟨H, 3, none⟩ = some d := by
  simp [World.cell?, h]

theorem block_below {w w' : World} {H : Nat} {ob : Obj} (h : w.heap[H]? = some ob) (hb : Below w.heap.size w w') : w'.heap[H]? = some ob := (hb.block _ (lt_of_block h)).trans h

theorem ret_two {a b c d : Int} (h1 : a = c) (h2 : b = d) : Ending.returned (.tuple #[.int .i64 a, .int .i64 b]) = .returned (.tuple #[.int .i64 c, .int .i64 d]) := by rw [h1, h2]

theorem ownsRow_below {w w' : World} {base : Nat} {e : TypeId} {size : Nat} {v : Value} {n : Nat} {xs : List Value} (h : w.ownsRow base e size v n xs) (hb : Below w.heap.size w w') : w'.ownsRow base e size v n xs := by
  refine ⟨h.1, ?_⟩
  rcases h.2 with h0 | ⟨g, cap, cur, h1, h2, h3, h4⟩
  · exact .inl h0
  · exact .inr ⟨g, cap, cur, h1, h2, (hb.block _ (lt_of_block h3)).trans h3, h4⟩

theorem grown_block {w w' : World} {row : Option Nat} (h : w.grownBy w' row) {k : Nat} (hk : k < w.heap.size) (hr : row ≠ some k) : w'.heap[k]? = w.heap[k]? := h.block k hk (fun e => hr e.symm)

/-- A slice of numbers as the walk is told of it: where there is an element it has an address, below the heap's end, and its cells hold the numbers. -/
def SliceOf (w : World) (ao : Option Addr) (n : Nat) (zs : List Int) : Prop :=
  zs.length = n ∧ (0 < n → ∃ b off, ao = some ⟨b, off, none⟩ ∧ b < w.heap.size ∧ ∀ i, i < n → w.cell? ⟨b, off + i, none⟩ = some (.int .i64 (zs.getD i 0)))

theorem SliceOf.below {w w' : World} {ao : Option Addr} {n : Nat} {zs : List Int} (h : SliceOf w ao n zs) (hb : Below w.heap.size w w') : SliceOf w' ao n zs :=
  ⟨h.1, fun hn => by
    obtain ⟨b, off, e, hlt, hc⟩ := h.2 hn
    exact ⟨b, off, e, Nat.lt_of_lt_of_le hlt hb.size, fun i hi => (hb.cell (p := ⟨b, off + i, none⟩) hlt).trans (hc i hi)⟩⟩

theorem SliceOf.row {w : World} {b n : Nat} {zs : List Int} (hz : zs.length = n) (h : w.rowIs b 3 n (fun i => .int .i64 (zs.getD i 0))) : SliceOf w (some ⟨b, 0, none⟩) n zs :=
  ⟨hz, fun _ => ⟨b, 0, rfl, h.lt, fun i hi => by simpa using h.cell hi⟩⟩

def betB (x lo hi : Int) : Bool := decide (lo ≤ x ∧ x ≤ hi)

set_option maxHeartbeats 400000 in
theorem l1Between_any (x lo hi : Int) (w : World) : Calls Tryd.prog 16 #[.int .i64 x, .int .i64 lo, .int .i64 hi] w fun e w' => e = .returned (.bool (betB x lo hi)) ∧ w' = w := by
  by_cases h1 : lo ≤ x <;> by_cases h7 : x ≤ hi
  all_goals
    go_enter Tryd.func16, Tryd.ntmps16
    go_wp2
    go_ret
    exact ⟨ret_bool (by simp [betB]; omega), rfl⟩

theorem l1Between_of (x lo hi : Int) (b : Bool) (h : b = betB x lo hi) (w : World) : Calls Tryd.prog 16 #[.int .i64 x, .int .i64 lo, .int .i64 hi] w fun e w' => e = .returned (.bool b) ∧ w' = w := by
  rw [h]; exact l1Between_any x lo hi w

/-- A slice of items as the walk is told of it. -/
def ItemsOf (w : World) (ao : Option Addr) (n : Nat) (its : List (Int × Int)) : Prop :=
  its.length = n ∧ (0 < n → ∃ b off, ao = some ⟨b, off, none⟩ ∧ b < w.heap.size ∧ ∀ i, i < n → w.cell? ⟨b, off + i * 2, none⟩ = some (.int .i64 (its.getD i (0, 0)).1) ∧ w.cell? ⟨b, off + i * 2 + 1, none⟩ = some (.int .i64 (its.getD i (0, 0)).2))

theorem ItemsOf.below {w w' : World} {ao : Option Addr} {n : Nat} {its : List (Int × Int)} (h : ItemsOf w ao n its) (hb : Below w.heap.size w w') : ItemsOf w' ao n its :=
  ⟨h.1, fun hn => by
    obtain ⟨b, off, e, hlt, hc⟩ := h.2 hn
    exact ⟨b, off, e, Nat.lt_of_lt_of_le hlt hb.size, fun i hi => ⟨(hb.cell (p := ⟨b, off + i * 2, none⟩) hlt).trans (hc i hi).1, (hb.cell (p := ⟨b, off + i * 2 + 1, none⟩) hlt).trans (hc i hi).2⟩⟩⟩

/-- The cell of an item list. -/
def icell (its : List (Int × Int)) (j : Nat) : Value := if j % 2 = 0 then .int .i64 (its.getD (j / 2) (0, 0)).1 else .int .i64 (its.getD (j / 2) (0, 0)).2

theorem icell_even (its : List (Int × Int)) (i : Nat) : icell its (i * 2) = .int .i64 (its.getD i (0, 0)).1 := by
  have h1 : i * 2 % 2 = 0 := by omega
  have h2 : i * 2 / 2 = i := by omega
  simp [icell, h1, h2]

theorem icell_odd (its : List (Int × Int)) (i : Nat) : icell its (i * 2 + 1) = .int .i64 (its.getD i (0, 0)).2 := by
  have h1 : ¬ (i * 2 + 1) % 2 = 0 := by omega
  have h2 : (i * 2 + 1) / 2 = i := by omega
  simp [icell, h2]

/-- 'make([]Item, n)' -/
theorem run_make_pairs (t e : TypeId) (z0 z1 : Value) (bytes : Nat) (ht : Tryd.prog.underlying t = some (.slice e)) (hinfo : (Tryd.prog.info? e).map (fun i => (i.zero, i.size, i.bytes)) = some (some (.agg #[z0, z1]), 2, bytes))
    (kl kc : IntKind) (n : Nat) (hbytes : bytes * n ≤ 281474976710656) (h63 : n ≤ 9223372036854775807) (w : World) :
    (Instr.makeSlice t (.int kl (n : Int)) (.int kc (n : Int))).run Tryd.prog w = .ok (.slice (some ⟨w.heap.size, 0, none⟩) n n) (w.alloc (.cells (madeCells #[z0, z1] (n * 2)) e)) := by
  obtain ⟨i, hi, hzz⟩ := Option.map_eq_some_iff.1 hinfo
  simp only [Prod.mk.injEq] at hzz
  obtain ⟨hz, hs, hb⟩ := hzz
  have hb' : (i.bytes : Int) * (n : Int) ≤ 281474976710656 := by
    have h : ((i.bytes * n : Nat) : Int) ≤ 281474976710656 := by rw [hb]; omega
    rwa [Int.natCast_mul] at h
  have hr := run_make (P := Tryd.prog) w t e i (.agg #[z0, z1]) ht hi hz kl kc n n (by omega) (Int.le_refl _) hb' (by omega)
  simp only [Int.toNat_natCast, hs] at hr
  exact hr

theorem rowIs_pairs (w : World) (z : Value) (n : Nat) (t : TypeId) : (w.alloc (.cells (madeCells #[z, z] (n * 2)) t)).rowIs w.heap.size t (n * 2) (fun _ => z) :=
  ⟨_, heap_alloc_new _ _, size_madeCells _ _, fun i hi => by
    have h : i % 2 = 0 ∨ i % 2 = 1 := by omega
    rcases h with h | h <;> simp [madeCells, hi, h]⟩

theorem getD_ext {xs ys : List (Int × Int)} {n : Nat} (h1 : xs.length = n) (h2 : ys.length = n) (h : ∀ j, j < n → xs.getD j (0, 0) = ys.getD j (0, 0)) : xs = ys := by
  apply List.ext_getElem (by omega)
  intro i a b
  have := h i (by omega)
  simpa [List.getD_eq_getElem?_getD, List.getElem?_eq_getElem a, List.getElem?_eq_getElem b] using this

/-- Limits as data. -/
structure LimD where
  o : Int
  s : Int
  t : Int
  v : Int

abbrev limP (l : LimD) : Prop := (0 ≤ l.o ∧ l.o ≤ 64) ∧ (0 ≤ l.s ∧ l.s ≤ 64) ∧ (0 ≤ l.t ∧ l.t ≤ 200) ∧ (0 ≤ l.v ∧ l.v ≤ 32)

def limB (l : LimD) : Bool := decide (limP l)

end Go.Proofs.YtcdcjpejlhcdnaaDoor
