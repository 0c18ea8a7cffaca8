import Derived.Test.YtdpejnacganadaaProg
import Derived.WalkKit
import Derived.WalkSpells
import Derived.WalkLawsBesides
import Derived.Deep.OwnRows
import Derived.Deep.QuietTactic
import Derived.BigQuiet
namespace Go.Proofs.Ytdpejnacganadaa
open Go.RowKit

/-- A slice of numbers as the walk is told of it: where there is an element it has an address, below the heap's end, and its cells hold the numbers. -/
def SliceOf (w : World) (ao : Option Addr) (n : Nat) (zs : List Int) : Prop :=
  zs.length = n ∧ (0 < n → ∃ b off, ao = some ⟨b, off, none⟩ ∧ b < w.heap.size ∧ ∀ i, i < n → w.cell? ⟨b, off + i, none⟩ = some (.int .i64 (zs.getD i 0)))

theorem SliceOf.below {w w' : World} {ao : Option Addr} {n : Nat} {zs : List Int} (h : SliceOf w ao n zs) (hb : Below w.heap.size w w') : SliceOf w' ao n zs :=
  ⟨h.1, fun hn => by
    obtain ⟨b, off, e, hlt, hc⟩ := h.2 hn
    exact ⟨b, off, e, Nat.lt_of_lt_of_le hlt hb.size, fun i hi => (hb.cell (p := ⟨b, off + i, none⟩) hlt).trans (hc i hi)⟩⟩

theorem SliceOf.row {w : World} {b n : Nat} {zs : List Int} (hz : zs.length = n) (h : w.rowIs b 3 n (fun i => .int .i64 (zs.getD i 0))) : SliceOf w (some ⟨b, 0, none⟩) n zs :=
  ⟨hz, fun _ => ⟨b, 0, rfl, h.lt, fun i hi => by simpa using h.cell hi⟩⟩

theorem Try.info3 : (Try.prog.info? 3).map (fun i => (i.zero, i.size, i.bytes)) = some (some (.int .i64 0), 1, 8) := by kernel_rfl

set_option maxHeartbeats 400000 in
theorem szIntS_any (ao : Option Addr) (n c : Nat) (left : Int) (w : World) (hn : n ≤ 9223372036854775807) (h0 : 0 ≤ left) (h1 : left ≤ 1048576) :
    Calls Try.prog 50 #[.slice ao n c, .int .i64 left] w fun e w' => e = .returned (.int .i64 (if left < n then -1 else left - n)) ∧ w' = w := by
  by_cases h : left < n
  · rw [if_pos h]
    have h2 : left - n < 0 := by omega
    go_enter Try.func50, Try.ntmps50
    go_wp2
    go_ret
    exact ⟨rfl, rfl⟩
  · rw [if_neg h]
    have h2 : ¬ left - n < 0 := by omega
    go_enter Try.func50, Try.ntmps50
    go_wp2
    go_ret
    exact ⟨rfl, rfl⟩

theorem toInt_step {w wr : World} {B n k : Nat} {zs : List Int}
    (hr : wr.rowIs B 3 n (fun j => if j < k then .int .i64 (zs.getD j 0) else .int .i64 0)) (hb : Below B w wr) :
    (wr.setCell ⟨B, k, none⟩ (.int .i64 (zs.getD k 0))).rowIs B 3 n (fun j => if j < k + 1 then .int .i64 (zs.getD j 0) else .int .i64 0) ∧ Below B w (wr.setCell ⟨B, k, none⟩ (.int .i64 (zs.getD k 0))) := by
  refine ⟨(hr.set k _).congr fun i hi => ?_, hb.setCell (Nat.le_refl _) _⟩
  by_cases e : i = k
  · simp [e]
  · by_cases h : i < k
    · simp [e, h, show i < k + 1 by omega]
    · simp [e, h, show ¬ i < k + 1 by omega]

set_option maxHeartbeats 400000 in
theorem toIntS_any (ao : Option Addr) (n c : Nat) (zs : List Int) (w : World) (hn : n ≤ 1048576) (hs : SliceOf w ao n zs) :
    Calls Try.prog 52 #[.slice ao n c] w fun e w' => e = .returned (.slice (some ⟨w.heap.size, 0, none⟩) n n) ∧ w'.rowIs w.heap.size 3 n (fun i => .int .i64 (zs.getD i 0)) ∧ Below w.heap.size w w' := by
  have hmk := run_make_row' (P := Try.prog) 24 3 (.int .i64 0) 8 Try.underlying24 Try.info3 rfl .i64 .i64 n (by omega) (by omega)
  go_enter Try.func52, Try.ntmps52
  go_wp2
  go_loopw [4] (fun i wr => ∃ k : Nat, k ≤ n ∧ i = .int .i64 k ∧ wr.rowIs w.heap.size 3 n (fun j => if j < k then .int .i64 (zs.getD j 0) else .int .i64 0) ∧ Below w.heap.size w wr) (fun i _ => n - (intOf i).toNat)
  case atStart => exact ⟨0, Nat.zero_le _, rfl, by simpa using World.rowIs_made w (.int .i64 0) n 3, (Below.refl _ _).alloc (Nat.le_refl _) _⟩
  case round =>
    obtain ⟨k, hk, rfl, hr, hb⟩ := hrel
    by_cases hlt : k < n
    · obtain ⟨b, off, rfl, hbl, hc⟩ := hs.2 (by omega)
      have hck : wr.cell? ⟨b, off + k, none⟩ = some (.int .i64 (zs.getD k 0)) := (hb.cell (p := ⟨b, off + k, none⟩) hbl).trans (hc k hlt)
      have hst := toInt_step hr hb
      have hcell := hr.cell hlt
      have hfz := hr.frozen k
      have R : Hid _ := hst
      clear hst hr hb hs hc
      go_wp2
      go_roundw
      case rel => exact ⟨k + 1, by omega, by go_num, R.out.1, R.out.2⟩
      case measure => simp [intOf]; omega
    · have e : k = n := by omega
      subst e
      have R := World.rowIs.congr hr (g := fun j => .int .i64 (zs.getD j 0)) (fun i hi => by simp [hi])
      have R : Hid (wr.rowIs w.heap.size 3 k (fun j => .int .i64 (zs.getD j 0))) := R
      clear hr
      go_wp2
      go_ret
      exact ⟨rfl, R.out, hb⟩


set_option maxHeartbeats 400000 in
theorem eqIntS_any (ao bo : Option Addr) (n m c d : Nat) (xs ys : List Int) (w : World) (hn : n ≤ 1048576) (hm : m ≤ 9223372036854775807) (hx : SliceOf w ao n xs) (hy : SliceOf w bo m ys) :
    Calls Try.prog 55 #[.slice ao n c, .slice bo m d] w fun e w' => e = .returned (.bool (decide (xs = ys))) ∧ ∃ q, w' = w.drewN q := by
  by_cases hnm : n = m
  · subst hnm
    have hl : xs.length = ys.length := by rw [hx.1, hy.1]
    go_enter Try.func55, Try.ntmps55
    go_wp2
    go_loopw [5] (fun i wr => ∃ k : Nat, k ≤ n ∧ i = .int .i64 k ∧ (∀ j, j < k → xs.getD j 0 = ys.getD j 0) ∧ ∃ q, wr = w.drewN q) (fun i _ => n - (intOf i).toNat)
    case atStart => exact ⟨0, Nat.zero_le _, rfl, fun j h => absurd h (by omega), 0, rfl⟩
    case round =>
      obtain ⟨k, hk, rfl, he, q, rfl⟩ := hrel
      have HE : Hid (∀ j, j < k → xs.getD j 0 = ys.getD j 0) := he
      clear he
      by_cases hlt : k < n
      · obtain ⟨b, off, rfl, hbl, hc⟩ := hx.2 (by omega)
        obtain ⟨b2, off2, rfl, hbl2, hc2⟩ := hy.2 (by omega)
        have h1 := hc k hlt
        have h2 := hc2 k hlt
        have hi : (k : Int) < (n : Int) := by omega
        obtain ⟨x, ex⟩ : ∃ x, x = xs.getD k 0 := ⟨_, rfl⟩
        obtain ⟨y, ey⟩ : ∃ y, y = ys.getD k 0 := ⟨_, rfl⟩
        rw [← ex] at h1
        rw [← ey] at h2
        have EX : Hid (x = xs.getD k 0) := ex
        have EY : Hid (y = ys.getD k 0) := ey
        have HL : Hid (xs.length = ys.length ∧ xs.length = n ∧ ys.length = n) := ⟨hl, hx.1, hy.1⟩
        clear ex ey hc hc2 hx hy hl
        by_cases hxy : x = y
        · subst hxy
          go_wp2
          go_quiet (fail)
          go_wp2
          go_roundw
          case rel =>
            refine ⟨k + 1, by omega, by go_num, fun j hj => ?_, ?_⟩
            · by_cases e : j = k
              · subst e; rw [← EX.out, ← EY.out]
              · exact HE.out j (by omega)
            · exact ⟨q + nq, by first | rfl | rw [World.drewN_drewN]⟩
          case measure => simp [intOf]; omega
        · have hb : (x != y) = true := by simpa using hxy
          go_wp2
          go_quiet (fail)
          go_wp2
          go_ret
          refine ⟨?_, q + nq, by first | rfl | rw [World.drewN_drewN]⟩
          have hne : ¬ xs = ys := fun e => hxy (by rw [EX.out, EY.out, e])
          simp [hne]
      · have e : k = n := by omega
        subst e
        have hxs : xs = ys := by
          apply List.ext_getElem hl
          intro i h1 h2
          have := HE.out i (by have := hx.1; omega)
          simpa [List.getD_eq_getElem?_getD, List.getElem?_eq_getElem h1, List.getElem?_eq_getElem h2] using this
        have HX : Hid (xs = ys) := hxs
        clear hxs
        go_wp2
        go_ret
        exact ⟨by simp [HX.out], q, rfl⟩
  · have hne : ¬ xs = ys := fun e => hnm (by rw [← hx.1, ← hy.1, e])
    have h2 : ((n : Int) != (m : Int)) = true := by simp; omega
    have HX : Hid (¬ xs = ys) := hne
    clear hne hx hy
    go_enter Try.func55, Try.ntmps55
    go_wp2
    go_ret
    exact ⟨by simp [HX.out], 0, rfl⟩

end Go.Proofs.Ytdpejnacganadaa
