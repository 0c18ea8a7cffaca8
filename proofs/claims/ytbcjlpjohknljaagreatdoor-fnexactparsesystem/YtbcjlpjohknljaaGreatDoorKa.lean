import Derived.Test.YtbcjlpjohknljaaGreatDoorProg
import Derived.WalkKit
import Derived.WalkSpells
import Derived.WalkLawsBesides
import Derived.Deep.OwnRows
import Derived.Deep.QuietTactic
import Derived.BigQuiet
import Derived.Lib.QuietBelow
import Derived.Laws.EntriesVeiled
import Derived.Deep.RegionWith
import Derived.Deep.DrawnRows
import Derived.Maps.AppendAt
namespace Go.Proofs.YtbcjlpjohknljaaGreatDoor
open Go.RowKit Go.Sort

theorem ret_int {k : IntKind} {a b : Int} (h : a = b) : Ending.returned (.int k a) = .returned (.int k b) := by rw [h]

theorem ret_bool {a b : Bool} (h : a = b) : Ending.returned (.bool a) = .returned (.bool b) := by rw [h]

theorem below1 (w : World) (o1 : Obj) : Below w.heap.size w (w.alloc o1) := (Below.refl _ _).alloc (Nat.le_refl _) o1

theorem below2 (w : World) (o1 o2 : Obj) : Below w.heap.size w ((w.alloc o1).alloc o2) := (below1 w o1).alloc (by simp) o2

theorem below3 (w : World) (o1 o2 o3 : Obj) : Below w.heap.size w (((w.alloc o1).alloc o2).alloc o3) := (below2 w o1 o2).alloc (by simp; omega) o3

theorem hid {p : Prop} (h : p) : Hid p := h

theorem belowDraws {B : Nat} {w w' : World} (h : Below B w w') (n : Nat) : Below B w (w'.drewN n) := ⟨h.os, h.tape, h.output, h.size, h.block⟩

theorem quad_cells {w : World} {H : Nat} {a b c d : Value} {t : TypeId} (h : w.heap[H]? = some (.cells #[a, b, c, d] t (0, 0))) : w.cell? ⟨H, 0, none⟩ = some a ∧ w.cell? ⟨H, 1, none⟩ = some b ∧ w.cell? ⟨H, 2, none⟩ = some c ∧ w.cell? ⟨H, 3, none⟩ = some d := by
  simp [World.cell?, h]

theorem block_below {w w' : World} {H : Nat} {ob : Obj} (h : w.heap[H]? = some ob) (hb : Below w.heap.size w w') : w'.heap[H]? = some ob := (hb.block _ (lt_of_block h)).trans h

theorem ownsRow_below {w w' : World} {base : Nat} {e : TypeId} {size : Nat} {v : Value} {n : Nat} {xs : List Value} (h : w.ownsRow base e size v n xs) (hb : Below w.heap.size w w') : w'.ownsRow base e size v n xs := by
  refine ⟨h.1, ?_⟩
  rcases h.2 with h0 | ⟨g, cap, cur, h1, h2, h3, h4⟩
  · exact .inl h0
  · exact .inr ⟨g, cap, cur, h1, h2, (hb.block _ (lt_of_block h3)).trans h3, h4⟩

/-- A slice of numbers as the walk is told of it: where there is an element it has an address, below the heap's end, and its cells hold the numbers. -/
def SliceOf (w : World) (ao : Option Addr) (n : Nat) (zs : List Int) : Prop :=
  zs.length = n ∧ (0 < n → ∃ b off, ao = some ⟨b, off, none⟩ ∧ b < w.heap.size ∧ ∀ i, i < n → w.cell? ⟨b, off + i, none⟩ = some (.int .i64 (zs.getD i 0)))

theorem SliceOf.below {w w' : World} {ao : Option Addr} {n : Nat} {zs : List Int} (h : SliceOf w ao n zs) (hb : Below w.heap.size w w') : SliceOf w' ao n zs :=
  ⟨h.1, fun hn => by
    obtain ⟨b, off, e, hlt, hc⟩ := h.2 hn
    exact ⟨b, off, e, Nat.lt_of_lt_of_le hlt hb.size, fun i hi => (hb.cell (p := ⟨b, off + i, none⟩) hlt).trans (hc i hi)⟩⟩

set_option maxHeartbeats 400000 in
theorem eqIntS_any (ao bo : Option Addr) (n m c d : Nat) (xs ys : List Int) (w : World) (hn : n ≤ 1048576) (hm : m ≤ 9223372036854775807) (hx : SliceOf w ao n xs) (hy : SliceOf w bo m ys) :
    Calls Tryz.prog 61 #[.slice ao n c, .slice bo m d] w fun e w' => e = .returned (.bool (decide (xs = ys))) ∧ ∃ q, w' = w.drewN q := by
  by_cases hnm : n = m
  · subst hnm
    have hl : xs.length = ys.length := by rw [hx.1, hy.1]
    go_enter Tryz.func61, Tryz.ntmps61
    go_wp2
    go_loopw [5] (fun i wr => ∃ k : Nat, k ≤ n ∧ i = .int .i64 k ∧ (∀ j, j < k → xs.getD j 0 = ys.getD j 0) ∧ ∃ q, wr = w.drewN q) (fun i _ => n - (intOf i).toNat)
    case atStart => exact ⟨0, Nat.zero_le _, rfl, fun j h => absurd h (by omega), 0, rfl⟩
    case round =>
      obtain ⟨k, hk, rfl, he, q, rfl⟩ := hrel
      have HE : Hid (∀ j, j < k → xs.getD j 0 = ys.getD j 0) := he
      clear he
      by_cases hlt : k < n
      · obtain ⟨b, off, rfl, hbl, hc⟩ := hx.2 (by omega)
        obtain ⟨b2, off2, rfl, hbl2, hc2⟩ := hy.2 (by omega)
        have h1 := hc k hlt
        have h2 := hc2 k hlt
        have hi : (k : Int) < (n : Int) := by omega
        obtain ⟨x, ex⟩ : ∃ x, x = xs.getD k 0 := ⟨_, rfl⟩
        obtain ⟨y, ey⟩ : ∃ y, y = ys.getD k 0 := ⟨_, rfl⟩
        rw [← ex] at h1
        rw [← ey] at h2
        have EX : Hid (x = xs.getD k 0) := ex
        have EY : Hid (y = ys.getD k 0) := ey
        have HL : Hid (xs.length = ys.length ∧ xs.length = n ∧ ys.length = n) := ⟨hl, hx.1, hy.1⟩
        clear ex ey hc hc2 hx hy hl
        by_cases hxy : x = y
        · subst hxy
          go_wp2
          go_quiet (fail)
          go_wp2
          go_roundw
          case rel =>
            refine ⟨k + 1, by omega, by go_num, fun j hj => ?_, ?_⟩
            · by_cases e : j = k
              · subst e; rw [← EX.out, ← EY.out]
              · exact HE.out j (by omega)
            · exact ⟨q + nq, by first | rfl | rw [World.drewN_drewN]⟩
          case measure => simp [intOf]; omega
        · have hb : (x != y) = true := by simpa using hxy
          go_wp2
          go_quiet (fail)
          go_wp2
          go_ret
          refine ⟨?_, q + nq, by first | rfl | rw [World.drewN_drewN]⟩
          have hne : ¬ xs = ys := fun e => hxy (by rw [EX.out, EY.out, e])
          simp [hne]
      · have e : k = n := by omega
        subst e
        have hxs : xs = ys := by
          apply List.ext_getElem hl
          intro i h1 h2
          have := HE.out i (by have := hx.1; omega)
          simpa [List.getD_eq_getElem?_getD, List.getElem?_eq_getElem h1, List.getElem?_eq_getElem h2] using this
        have HX : Hid (xs = ys) := hxs
        clear hxs
        go_wp2
        go_ret
        exact ⟨by simp [HX.out], q, rfl⟩
  · have hne : ¬ xs = ys := fun e => hnm (by rw [← hx.1, ← hy.1, e])
    have h2 : ((n : Int) != (m : Int)) = true := by simp; omega
    have HX : Hid (¬ xs = ys) := hne
    clear hne hx hy
    go_enter Tryz.func61, Tryz.ntmps61
    go_wp2
    go_ret
    exact ⟨by simp [HX.out], 0, rfl⟩

/-- A slice of items as the walk is told of it. -/
def ItemsOf (w : World) (ao : Option Addr) (n : Nat) (its : List (Int × Int)) : Prop :=
  its.length = n ∧ (0 < n → ∃ b off, ao = some ⟨b, off, none⟩ ∧ b < w.heap.size ∧ ∀ i, i < n → w.cell? ⟨b, off + i * 2, none⟩ = some (.int .i64 (its.getD i (0, 0)).1) ∧ w.cell? ⟨b, off + i * 2 + 1, none⟩ = some (.int .i64 (its.getD i (0, 0)).2))

theorem ItemsOf.below {w w' : World} {ao : Option Addr} {n : Nat} {its : List (Int × Int)} (h : ItemsOf w ao n its) (hb : Below w.heap.size w w') : ItemsOf w' ao n its :=
  ⟨h.1, fun hn => by
    obtain ⟨b, off, e, hlt, hc⟩ := h.2 hn
    exact ⟨b, off, e, Nat.lt_of_lt_of_le hlt hb.size, fun i hi => ⟨(hb.cell (p := ⟨b, off + i * 2, none⟩) hlt).trans (hc i hi).1, (hb.cell (p := ⟨b, off + i * 2 + 1, none⟩) hlt).trans (hc i hi).2⟩⟩⟩

set_option maxHeartbeats 400000 in
theorem eqItem_any (x y x' y' : Int) (w : World) : Calls Tryz.prog 102 #[.agg #[.int .i64 x, .int .i64 y], .agg #[.int .i64 x', .int .i64 y']] w fun e w' => e = .returned (.bool (decide (x = x' ∧ y = y'))) ∧ Below w.heap.size w w' := by
  by_cases h1 : x = x'
  · by_cases h2 : y = y'
    · subst h1 h2
      go_enter Tryz.func102, Tryz.ntmps102
      go_wp2
      go_ret
      exact ⟨ret_bool (by simp), below2 _ _ _⟩
    · subst h1
      have hb : (y != y') = true := by simpa using h2
      have H : Hid (¬ y = y') := h2
      clear h2
      go_enter Tryz.func102, Tryz.ntmps102
      go_wp2
      go_ret
      exact ⟨ret_bool (by simp [H.out]), below2 _ _ _⟩
  · have hb : (x != x') = true := by simpa using h1
    have H : Hid (¬ x = x') := h1
    clear h1
    go_enter Tryz.func102, Tryz.ntmps102
    go_wp2
    go_ret
    exact ⟨ret_bool (by simp [H.out]), below2 _ _ _⟩

theorem getD_ext {xs ys : List (Int × Int)} {n : Nat} (h1 : xs.length = n) (h2 : ys.length = n) (h : ∀ j, j < n → xs.getD j (0, 0) = ys.getD j (0, 0)) : xs = ys := by
  apply List.ext_getElem (by omega)
  intro i a b
  have := h i (by omega)
  simpa [List.getD_eq_getElem?_getD, List.getElem?_eq_getElem a, List.getElem?_eq_getElem b] using this

set_option maxHeartbeats 800000 in
theorem eqItemS_any (ao bo : Option Addr) (n m c d : Nat) (xs ys : List (Int × Int)) (w : World) (hn : n ≤ 1048576) (hm : m ≤ 9223372036854775807) (hx : ItemsOf w ao n xs) (hy : ItemsOf w bo m ys) :
    Calls Tryz.prog 96 #[.slice ao n c, .slice bo m d] w fun e w' => e = .returned (.bool (decide (xs = ys))) ∧ Below w.heap.size w w' := by
  by_cases hnm : n = m
  · subst hnm
    have HL : Hid (xs.length = n ∧ ys.length = n) := ⟨hx.1, hy.1⟩
    go_enter Tryz.func96, Tryz.ntmps96
    go_wp2
    go_loopw [5] (fun i wr => ∃ k : Nat, k ≤ n ∧ i = .int .i64 k ∧ (∀ j, j < k → xs.getD j (0, 0) = ys.getD j (0, 0)) ∧ Below w.heap.size w wr) (fun i _ => n - (intOf i).toNat)
    case atStart => exact ⟨0, Nat.zero_le _, rfl, fun j h => absurd h (by omega), Below.refl _ _⟩
    case round =>
      obtain ⟨k, hk, rfl, he, hb⟩ := hrel
      have HE : Hid (∀ j, j < k → xs.getD j (0, 0) = ys.getD j (0, 0)) := he
      have HB := hid hb
      clear he
      by_cases hlt : k < n
      · obtain ⟨b, off, rfl, hbl, hc⟩ := hx.2 (by omega)
        obtain ⟨b2, off2, rfl, hbl2, hc2⟩ := hy.2 (by omega)
        have hi : (k : Int) < (n : Int) := by omega
        obtain ⟨x, ex⟩ : ∃ x, x = xs.getD k (0, 0) := ⟨_, rfl⟩
        obtain ⟨y, ey⟩ : ∃ y, y = ys.getD k (0, 0) := ⟨_, rfl⟩
        obtain ⟨x1, x2⟩ := x
        obtain ⟨y1, y2⟩ := y
        have k1 : wr.cell? ⟨b, off + k * 2, none⟩ = some (.int .i64 x1) := (hb.cell (p := ⟨b, off + k * 2, none⟩) hbl).trans (by rw [(hc k hlt).1, ← ex])
        have k2 : wr.cell? ⟨b, off + k * 2 + 1, none⟩ = some (.int .i64 x2) := (hb.cell (p := ⟨b, off + k * 2 + 1, none⟩) hbl).trans (by rw [(hc k hlt).2, ← ex])
        have l1 : wr.cell? ⟨b2, off2 + k * 2, none⟩ = some (.int .i64 y1) := (hb.cell (p := ⟨b2, off2 + k * 2, none⟩) hbl2).trans (by rw [(hc2 k hlt).1, ← ey])
        have l2 : wr.cell? ⟨b2, off2 + k * 2 + 1, none⟩ = some (.int .i64 y2) := (hb.cell (p := ⟨b2, off2 + k * 2 + 1, none⟩) hbl2).trans (by rw [(hc2 k hlt).2, ← ey])
        have q1 := cell_regrown k1
        have q2 := cell_regrown k2
        have r1 := cell_regrown l1
        have r2 := cell_regrown l2
        have EX : Hid ((x1, x2) = xs.getD k (0, 0)) := ex
        have EY : Hid ((y1, y2) = ys.getD k (0, 0)) := ey
        have hsz : Hid (w.heap.size ≤ wr.heap.size) := hb.size
        clear ex ey hc hc2 hx hy hb k1 k2 l1 l2
        by_cases hxy : x1 = y1 ∧ x2 = y2
        · have hd : decide (x1 = y1 ∧ x2 = y2) = true := by simpa using hxy
          have HXY := hid hxy
          have c40 : ∀ d os, Calls Tryz.prog 102 #[.agg #[.int .i64 x1, .int .i64 x2], .agg #[.int .i64 y1, .int .i64 y2]] (grow (redrawn wr d) os) fun e w'' => e = .returned (.bool true) ∧ ∃ p : Regrown, w'' = grow (redrawn wr p.d) p.os :=
            fun d os => Calls.regrown_of (by rw [← hd]; exact eqItem_any x1 x2 y1 y2 _)
          clear hxy hd
          go_wp2
          refine wp_region_quiet_below (by kernel_rfl) (by kernel_rfl) ?_
          repeat (any_goals (first | go_big_quiet_step (first | exact c40 _ _) | quiet_step (first | exact c40 _ _)))
          refine wpQuiet_nil ?_
          intro _ hw'
          obtain ⟨⟨dq, osq⟩, hw''⟩ := hw'
          subst hw''
          go_wp2
          go_roundw
          case rel =>
            refine ⟨k + 1, by omega, by go_num, fun j hj => ?_, HB.out.trans ((below_regrown wr dq osq).mono hsz.out)⟩
            by_cases e : j = k
            · subst e; rw [← EX.out, ← EY.out, HXY.out.1, HXY.out.2]
            · exact HE.out j (by omega)
          case measure => simp [intOf]; omega
        · have hd : decide (x1 = y1 ∧ x2 = y2) = false := by simpa using hxy
          have HXY := hid hxy
          have c40 : ∀ d os, Calls Tryz.prog 102 #[.agg #[.int .i64 x1, .int .i64 x2], .agg #[.int .i64 y1, .int .i64 y2]] (grow (redrawn wr d) os) fun e w'' => e = .returned (.bool false) ∧ ∃ p : Regrown, w'' = grow (redrawn wr p.d) p.os :=
            fun d os => Calls.regrown_of (by rw [← hd]; exact eqItem_any x1 x2 y1 y2 _)
          clear hxy hd
          go_wp2
          refine wp_region_quiet_below (by kernel_rfl) (by kernel_rfl) ?_
          repeat (any_goals (first | go_big_quiet_step (first | exact c40 _ _) | quiet_step (first | exact c40 _ _)))
          refine wpQuiet_nil ?_
          intro _ hw'
          obtain ⟨⟨dq, osq⟩, hw''⟩ := hw'
          subst hw''
          go_wp2
          go_ret
          refine ⟨ret_bool ?_, HB.out.trans ((below_regrown wr dq osq).mono hsz.out)⟩
          symm
          rw [decide_eq_false_iff_not]
          intro e
          have := EX.out.trans ((congrArg (fun l => l.getD k (0, 0)) e).trans EY.out.symm)
          exact HXY.out ⟨congrArg Prod.fst this, congrArg Prod.snd this⟩
      · have e : k = n := by omega
        subst e
        have HX : Hid (xs = ys) := getD_ext HL.out.1 HL.out.2 HE.out
        clear hx hy
        go_wp2
        go_ret
        exact ⟨ret_bool (by simp [HX.out]), HB.out⟩
  · have HX : Hid (¬ xs = ys) := hid fun e => hnm (by rw [← hx.1, ← hy.1, e])
    have h2 : ((n : Int) != (m : Int)) = true := by simp; omega
    clear hx hy
    go_enter Tryz.func96, Tryz.ntmps96
    go_wp2
    go_ret
    exact ⟨ret_bool (by simp [HX.out]), Below.refl _ _⟩

theorem eqItemS_same (ao bo : Option Addr) (n c d : Nat) (xs : List (Int × Int)) (w : World) (hn : n ≤ 1048576) (hx : ItemsOf w ao n xs) (hy : ItemsOf w bo n xs) :
    Calls Tryz.prog 96 #[.slice ao n c, .slice bo n d] w fun e w' => e = .returned (.bool true) ∧ Below w.heap.size w w' :=
  (eqItemS_any ao bo n n c d xs xs w hn (by omega) hx hy).mono fun e w' ⟨h1, h2⟩ => ⟨by rw [h1]; simp, h2⟩

end Go.Proofs.YtbcjlpjohknljaaGreatDoor
namespace Go.Proofs.YtbcjlpjohknljaaGreatDoor
open Go.RowKit Go.Sort

end Go.Proofs.YtbcjlpjohknljaaGreatDoor
namespace Go.Proofs.YtbcjlpjohknljaaGreatDoor
open Go.RowKit Go.Sort

/-- A list's entry as data. -/
structure StmD where
  kind : Int
  a : Int
  b : Int
  code : List (Int × Int)
def stm0 : StmD := ⟨0, 0, 0, []⟩

def StmAt (w : World) (b o : Nat) (s : StmD) : Prop :=
  w.cell? ⟨b, o, none⟩ = some (.int .i64 s.kind) ∧ w.cell? ⟨b, o + 1, none⟩ = some (.int .i64 s.a) ∧ w.cell? ⟨b, o + 2, none⟩ = some (.int .i64 s.b) ∧
    ∃ co cn cc, w.cell? ⟨b, o + 3, none⟩ = some (.slice co cn cc) ∧ cn ≤ 9223372036854775807 ∧ ItemsOf w co cn s.code
def StmsOf (w : World) (ao : Option Addr) (n : Nat) (ss : List StmD) : Prop :=
  ss.length = n ∧ (0 < n → ∃ b off, ao = some ⟨b, off, none⟩ ∧ b < w.heap.size ∧ ∀ i, i < n → StmAt w b (off + i * 4) (ss.getD i stm0))

theorem StmAt.below {w w' : World} {b o : Nat} {s : StmD} (h : StmAt w b o s) (hlt : b < w.heap.size) (hb : Below w.heap.size w w') : StmAt w' b o s := by
  obtain ⟨h1, h2, h3, co, cn, cc, h4, h5, h6⟩ := h
  exact ⟨(hb.cell (p := ⟨b, o, none⟩) hlt).trans h1, (hb.cell (p := ⟨b, o + 1, none⟩) hlt).trans h2, (hb.cell (p := ⟨b, o + 2, none⟩) hlt).trans h3, co, cn, cc, (hb.cell (p := ⟨b, o + 3, none⟩) hlt).trans h4, h5, h6.below hb⟩
theorem StmsOf.below {w w' : World} {ao : Option Addr} {n : Nat} {ss : List StmD} (h : StmsOf w ao n ss) (hb : Below w.heap.size w w') : StmsOf w' ao n ss :=
  ⟨h.1, fun hn => by
    obtain ⟨b, off, e, hlt, hc⟩ := h.2 hn
    exact ⟨b, off, e, Nat.lt_of_lt_of_le hlt hb.size, fun i hi => (hc i hi).below hlt hb⟩⟩

set_option maxHeartbeats 400000 in
theorem eqStm_same (k a b : Int) (co bo : Option Addr) (cn cc dc : Nat) (its : List (Int × Int)) (w : World) (hn : cn ≤ 1048576) (hx : ItemsOf w co cn its) (hy : ItemsOf w bo cn its) :
    Calls Tryz.prog 101 #[.agg #[.int .i64 k, .int .i64 a, .int .i64 b, .slice co cn cc], .agg #[.int .i64 k, .int .i64 a, .int .i64 b, .slice bo cn dc]] w fun e w' => e = .returned (.bool true) ∧ Below w.heap.size w w' := by
  have HX : Hid (∀ w', Below w.heap.size w w' → ItemsOf w' co cn its ∧ ItemsOf w' bo cn its) := fun w' h => ⟨hx.below h, hy.below h⟩
  clear hx hy
  go_enter Tryz.func101, Tryz.ntmps101
  go_wp2_with (go_at_call 96; refine (eqItemS_same co bo cn cc dc its _ hn (HX.out _ (below2 _ _ _)).1 (HX.out _ (below2 _ _ _)).2).mono ?_; rintro e w1 ⟨rfl, hb⟩; have HB := hid hb; clear hb)
  go_ret
  exact ⟨rfl, (below2 _ _ _).trans (HB.out.mono (by simp; omega))⟩

set_option maxHeartbeats 800000 in
theorem eqStmS_same (ao bo : Option Addr) (n c d : Nat) (ss : List StmD) (w : World) (hn : n ≤ 1048576) (hcs : ∀ i, i < n → (ss.getD i stm0).code.length ≤ 1048576) (hx : StmsOf w ao n ss) (hy : StmsOf w bo n ss) :
    Calls Tryz.prog 95 #[.slice ao n c, .slice bo n d] w fun e w' => e = .returned (.bool true) ∧ Below w.heap.size w w' := by
  have HC := hid hcs
  clear hcs
  go_enter Tryz.func95, Tryz.ntmps95
  go_wp2
  go_loopw [5] (fun i wr => ∃ k : Nat, k ≤ n ∧ i = .int .i64 k ∧ Below w.heap.size w wr) (fun i _ => n - (intOf i).toNat)
  case atStart => exact ⟨0, Nat.zero_le _, rfl, Below.refl _ _⟩
  case round =>
    obtain ⟨k, hk, rfl, hb⟩ := hrel
    have HB := hid hb
    by_cases hlt : k < n
    · obtain ⟨b, off, rfl, hbl, hc⟩ := hx.2 (by omega)
      obtain ⟨b2, off2, rfl, hbl2, hc2⟩ := hy.2 (by omega)
      have hi : (k : Int) < (n : Int) := by omega
      obtain ⟨x1, x2, x3, co, cn, cc, x4, hcn, hit⟩ := hc k hlt
      obtain ⟨y1, y2, y3, do_, dn, dc, y4, hdn, hit2⟩ := hc2 k hlt
      have hdn' : dn = cn := by rw [← hit2.1, hit.1]
      subst hdn'
      have hcn' : dn ≤ 1048576 := by have := HC.out k hlt; rw [hit.1] at this; exact this
      have j1 : Below w.heap.size w wr := hb
      have k1 := cell_regrown ((hb.cell (p := ⟨b, off + k * 4, none⟩) hbl).trans x1)
      have k2 := cell_regrown ((hb.cell (p := ⟨b, off + k * 4 + 1, none⟩) hbl).trans x2)
      have k3 := cell_regrown ((hb.cell (p := ⟨b, off + k * 4 + 2, none⟩) hbl).trans x3)
      have k4 := cell_regrown ((hb.cell (p := ⟨b, off + k * 4 + 3, none⟩) hbl).trans x4)
      have l1 := cell_regrown ((hb.cell (p := ⟨b2, off2 + k * 4, none⟩) hbl2).trans y1)
      have l2 := cell_regrown ((hb.cell (p := ⟨b2, off2 + k * 4 + 1, none⟩) hbl2).trans y2)
      have l3 := cell_regrown ((hb.cell (p := ⟨b2, off2 + k * 4 + 2, none⟩) hbl2).trans y3)
      have l4 := cell_regrown ((hb.cell (p := ⟨b2, off2 + k * 4 + 3, none⟩) hbl2).trans y4)
      obtain ⟨s, es⟩ : ∃ s, s = ss.getD k stm0 := ⟨_, rfl⟩
      rw [← es] at k1 k2 k3 l1 l2 l3 hit hit2
      have c47 : ∀ d os, Calls Tryz.prog 101 #[.agg #[.int .i64 s.kind, .int .i64 s.a, .int .i64 s.b, .slice co dn cc], .agg #[.int .i64 s.kind, .int .i64 s.a, .int .i64 s.b, .slice do_ dn dc]] (grow (redrawn wr d) os) fun e w'' => e = .returned (.bool true) ∧ ∃ p : Regrown, w'' = grow (redrawn wr p.d) p.os :=
        fun d os => Calls.regrown_of (eqStm_same s.kind s.a s.b co do_ dn cc dc s.code _ hcn' (hit.below (j1.trans ((below_regrown wr d os).mono j1.size))) (hit2.below (j1.trans ((below_regrown wr d os).mono j1.size))))
      obtain ⟨kd, hkd⟩ : ∃ kd, kd = s.kind := ⟨_, rfl⟩
      obtain ⟨av, hav⟩ : ∃ av, av = s.a := ⟨_, rfl⟩
      obtain ⟨bv, hbv⟩ : ∃ bv, bv = s.b := ⟨_, rfl⟩
      rw [← hkd] at k1 l1 c47
      rw [← hav] at k2 l2 c47
      rw [← hbv] at k3 l3 c47
      clear hx hy hc hc2 x1 x2 x3 x4 y1 y2 y3 y4 hit hit2 es j1 hb hkd hav hbv hcn hdn
      go_wp2
      refine wp_region_quiet_below (by kernel_rfl) (by kernel_rfl) ?_
      repeat (any_goals (first | go_big_quiet_step (first | exact c47 _ _) | quiet_step (first | exact c47 _ _)))
      refine wpQuiet_nil ?_
      intro _ hw'
      obtain ⟨⟨dq, osq⟩, hw''⟩ := hw'
      subst hw''
      go_wp2
      go_roundw
      case rel => exact ⟨k + 1, by omega, by go_num, HB.out.trans ((below_regrown wr dq osq).mono HB.out.size)⟩
      case measure => simp [intOf]; omega
    · have e : k = n := by omega
      subst e
      clear hx hy hb
      go_wp2
      go_ret
      exact ⟨rfl, HB.out⟩
end Go.Proofs.YtbcjlpjohknljaaGreatDoor
namespace Go.Proofs.YtbcjlpjohknljaaGreatDoor
open Go.RowKit Go.Sort

/-- A state, a transition, as data. -/
structure StD where
  parent : Int
  initial : Int
  entry : List StmD
  exit : List StmD
def st0 : StD := ⟨0, 0, [], []⟩
structure TrD where
  src : Int
  sig : Int
  guard : List (Int × Int)
  target : Int
  action : List StmD
def tr0 : TrD := ⟨0, 0, [], 0, []⟩

def StAt (w : World) (b o : Nat) (s : StD) : Prop :=
  w.cell? ⟨b, o, none⟩ = some (.int .i64 s.parent) ∧ w.cell? ⟨b, o + 1, none⟩ = some (.int .i64 s.initial) ∧
    (∃ co cn cc, w.cell? ⟨b, o + 2, none⟩ = some (.slice co cn cc) ∧ cn ≤ 9223372036854775807 ∧ StmsOf w co cn s.entry) ∧
    ∃ co cn cc, w.cell? ⟨b, o + 3, none⟩ = some (.slice co cn cc) ∧ cn ≤ 9223372036854775807 ∧ StmsOf w co cn s.exit
def StatesOf (w : World) (ao : Option Addr) (n : Nat) (ss : List StD) : Prop :=
  ss.length = n ∧ (0 < n → ∃ b off, ao = some ⟨b, off, none⟩ ∧ b < w.heap.size ∧ ∀ i, i < n → StAt w b (off + i * 4) (ss.getD i st0))
def TrAt (w : World) (b o : Nat) (s : TrD) : Prop :=
  w.cell? ⟨b, o, none⟩ = some (.int .i64 s.src) ∧ w.cell? ⟨b, o + 1, none⟩ = some (.int .i64 s.sig) ∧
    (∃ co cn cc, w.cell? ⟨b, o + 2, none⟩ = some (.slice co cn cc) ∧ cn ≤ 9223372036854775807 ∧ ItemsOf w co cn s.guard) ∧ w.cell? ⟨b, o + 3, none⟩ = some (.int .i64 s.target) ∧
    ∃ co cn cc, w.cell? ⟨b, o + 4, none⟩ = some (.slice co cn cc) ∧ cn ≤ 9223372036854775807 ∧ StmsOf w co cn s.action
def TransOf (w : World) (ao : Option Addr) (n : Nat) (ss : List TrD) : Prop :=
  ss.length = n ∧ (0 < n → ∃ b off, ao = some ⟨b, off, none⟩ ∧ b < w.heap.size ∧ ∀ i, i < n → TrAt w b (off + i * 5) (ss.getD i tr0))

theorem StAt.below {w w' : World} {b o : Nat} {s : StD} (h : StAt w b o s) (hlt : b < w.heap.size) (hb : Below w.heap.size w w') : StAt w' b o s := by
  obtain ⟨h1, h2, ⟨co, cn, cc, h4, h5, h6⟩, ⟨do_, dn, dc, h7, h8, h9⟩⟩ := h
  exact ⟨(hb.cell (p := ⟨b, o, none⟩) hlt).trans h1, (hb.cell (p := ⟨b, o + 1, none⟩) hlt).trans h2, ⟨co, cn, cc, (hb.cell (p := ⟨b, o + 2, none⟩) hlt).trans h4, h5, h6.below hb⟩, ⟨do_, dn, dc, (hb.cell (p := ⟨b, o + 3, none⟩) hlt).trans h7, h8, h9.below hb⟩⟩
theorem StatesOf.below {w w' : World} {ao : Option Addr} {n : Nat} {ss : List StD} (h : StatesOf w ao n ss) (hb : Below w.heap.size w w') : StatesOf w' ao n ss :=
  ⟨h.1, fun hn => by
    obtain ⟨b, off, e, hlt, hc⟩ := h.2 hn
    exact ⟨b, off, e, Nat.lt_of_lt_of_le hlt hb.size, fun i hi => (hc i hi).below hlt hb⟩⟩
theorem TrAt.below {w w' : World} {b o : Nat} {s : TrD} (h : TrAt w b o s) (hlt : b < w.heap.size) (hb : Below w.heap.size w w') : TrAt w' b o s := by
  obtain ⟨h1, h2, ⟨co, cn, cc, h4, h5, h6⟩, h3, ⟨do_, dn, dc, h7, h8, h9⟩⟩ := h
  exact ⟨(hb.cell (p := ⟨b, o, none⟩) hlt).trans h1, (hb.cell (p := ⟨b, o + 1, none⟩) hlt).trans h2, ⟨co, cn, cc, (hb.cell (p := ⟨b, o + 2, none⟩) hlt).trans h4, h5, h6.below hb⟩, (hb.cell (p := ⟨b, o + 3, none⟩) hlt).trans h3, ⟨do_, dn, dc, (hb.cell (p := ⟨b, o + 4, none⟩) hlt).trans h7, h8, h9.below hb⟩⟩
theorem TransOf.below {w w' : World} {ao : Option Addr} {n : Nat} {ss : List TrD} (h : TransOf w ao n ss) (hb : Below w.heap.size w w') : TransOf w' ao n ss :=
  ⟨h.1, fun hn => by
    obtain ⟨b, off, e, hlt, hc⟩ := h.2 hn
    exact ⟨b, off, e, Nat.lt_of_lt_of_le hlt hb.size, fun i hi => (hc i hi).below hlt hb⟩⟩

theorem five_cells {w : World} {H : Nat} {a b c d e : Value} {t : TypeId} (h : w.heap[H]? = some (.cells #[a, b, c, d, e] t (0, 0))) : w.cell? ⟨H, 0, none⟩ = some a ∧ w.cell? ⟨H, 1, none⟩ = some b ∧ w.cell? ⟨H, 2, none⟩ = some c ∧ w.cell? ⟨H, 3, none⟩ = some d ∧ w.cell? ⟨H, 4, none⟩ = some e := by
  simp [World.cell?, h]
theorem two_cells {w : World} {H : Nat} {a b : Value} {t : TypeId} (h : w.heap[H]? = some (.cells #[a, b] t (0, 0))) : w.cell? ⟨H, 0, none⟩ = some a ∧ w.cell? ⟨H, 1, none⟩ = some b := by
  simp [World.cell?, h]

end Go.Proofs.YtbcjlpjohknljaaGreatDoor
namespace Go.Proofs.YtbcjlpjohknljaaGreatDoor
open Go.RowKit Go.Sort

/-- The codes of a list of statements are no longer than all that is asked. -/
def Fits (ss : List StmD) : Prop := ss.length ≤ 1048576 ∧ ∀ i, i < ss.length → (ss.getD i stm0).code.length ≤ 1048576
def FitsSt (ss : List StD) : Prop := ss.length ≤ 1048576 ∧ ∀ i, i < ss.length → Fits (ss.getD i st0).entry ∧ Fits (ss.getD i st0).exit
end Go.Proofs.YtbcjlpjohknljaaGreatDoor
namespace Go.Proofs.YtbcjlpjohknljaaGreatDoor
open Go.RowKit Go.Sort

def FitsTr (ss : List TrD) : Prop := ss.length ≤ 1048576 ∧ ∀ i, i < ss.length → (ss.getD i tr0).guard.length ≤ 1048576 ∧ Fits (ss.getD i tr0).action
end Go.Proofs.YtbcjlpjohknljaaGreatDoor
namespace Go.Proofs.YtbcjlpjohknljaaGreatDoor
open Go.RowKit Go.Sort
attribute [local go_sem ↓] Go.wp_at_zero Go.wp_at_succ

theorem eqStmS_fit (ao bo : Option Addr) (n c d : Nat) (ss : List StmD) (w : World) (hf : Fits ss) (hx : StmsOf w ao n ss) (hy : StmsOf w bo n ss) :
    Calls Tryz.prog 95 #[.slice ao n c, .slice bo n d] w fun e w' => e = .returned (.bool true) ∧ Below w.heap.size w w' :=
  eqStmS_same ao bo n c d ss w (by rw [← hx.1]; exact hf.1) (by rw [← hx.1]; exact hf.2) hx hy

set_option maxHeartbeats 800000 in
theorem eqState_same (p i : Int) (eo xo eo' xo' : Option Addr) (en ec xn xc ec' xc' : Nat) (es xs : List StmD) (w : World) (fe : Fits es) (fx : Fits xs) (he : StmsOf w eo en es) (hx : StmsOf w xo xn xs) (he' : StmsOf w eo' en es) (hx' : StmsOf w xo' xn xs) :
    Calls Tryz.prog 89 #[.agg #[.int .i64 p, .int .i64 i, .slice eo en ec, .slice xo xn xc], .agg #[.int .i64 p, .int .i64 i, .slice eo' en ec', .slice xo' xn xc']] w fun e w' => e = .returned (.bool true) ∧ Below w.heap.size w w' := by
  have HS : Hid (∀ w', Below w.heap.size w w' → (StmsOf w' eo en es ∧ StmsOf w' eo' en es) ∧ StmsOf w' xo xn xs ∧ StmsOf w' xo' xn xs) := fun w' h => ⟨⟨he.below h, he'.below h⟩, hx.below h, hx'.below h⟩
  clear he hx he' hx'
  go_enter Tryz.func89, Tryz.ntmps89
  go_wp2_with (first | (go_at_call_of 95 (Value.slice eo en ec); refine (eqStmS_fit eo eo' en ec ec' es _ fe (HS.out _ (below2 _ _ _)).1.1 (HS.out _ (below2 _ _ _)).1.2).mono ?_; rintro e w1 ⟨rfl, hb1⟩; have B1 := hid ((below2 _ _ _).trans (hb1.mono (by simp; omega))); obtain ⟨q0, q1, q2, q3⟩ := quad_cells (block_below (block_below (heap_alloc_new w _) (below1 _ _)) hb1); obtain ⟨p0, p1, p2, p3⟩ := quad_cells (block_below (heap_alloc_new (w.alloc _) _) hb1); simp only [World.size_alloc] at p0 p1 p2 p3; clear hb1) | (go_at_call_of 95 (Value.slice xo xn xc); refine (eqStmS_fit xo xo' xn xc xc' xs _ fx (HS.out _ B1.out).2.1 (HS.out _ B1.out).2.2).mono ?_; rintro e w2 ⟨rfl, hb2⟩; have B2 := hid (B1.out.trans (hb2.mono B1.out.size)); clear hb2))
  go_ret
  exact ⟨rfl, B2.out⟩

set_option maxHeartbeats 800000 in
theorem eqTrans_same (f s t : Int) (eo xo eo' xo' : Option Addr) (en ec xn xc ec' xc' : Nat) (es : List (Int × Int)) (xs : List StmD) (w : World) (fe : en ≤ 1048576) (fx : Fits xs) (he : ItemsOf w eo en es) (hx : StmsOf w xo xn xs) (he' : ItemsOf w eo' en es) (hx' : StmsOf w xo' xn xs) :
    Calls Tryz.prog 90 #[.agg #[.int .i64 f, .int .i64 s, .slice eo en ec, .int .i64 t, .slice xo xn xc], .agg #[.int .i64 f, .int .i64 s, .slice eo' en ec', .int .i64 t, .slice xo' xn xc']] w fun e w' => e = .returned (.bool true) ∧ Below w.heap.size w w' := by
  have HS : Hid (∀ w', Below w.heap.size w w' → (ItemsOf w' eo en es ∧ ItemsOf w' eo' en es) ∧ StmsOf w' xo xn xs ∧ StmsOf w' xo' xn xs) := fun w' h => ⟨⟨he.below h, he'.below h⟩, hx.below h, hx'.below h⟩
  clear he hx he' hx'
  go_enter Tryz.func90, Tryz.ntmps90
  go_wp2_with (first | (go_at_call 96; refine (eqItemS_same eo eo' en ec ec' es _ fe (HS.out _ (below2 _ _ _)).1.1 (HS.out _ (below2 _ _ _)).1.2).mono ?_; rintro e w1 ⟨rfl, hb1⟩; have B1 := hid ((below2 _ _ _).trans (hb1.mono (by simp; omega))); obtain ⟨q0, q1, q2, q3, q4⟩ := five_cells (block_below (block_below (heap_alloc_new w _) (below1 _ _)) hb1); obtain ⟨p0, p1, p2, p3, p4⟩ := five_cells (block_below (heap_alloc_new (w.alloc _) _) hb1); simp only [World.size_alloc] at p0 p1 p2 p3 p4; clear hb1) | (go_at_call_of 95 (Value.slice xo xn xc); refine (eqStmS_fit xo xo' xn xc xc' xs _ fx (HS.out _ B1.out).2.1 (HS.out _ B1.out).2.2).mono ?_; rintro e w2 ⟨rfl, hb2⟩; have B2 := hid (B1.out.trans (hb2.mono B1.out.size)); clear hb2))
  go_ret
  exact ⟨rfl, B2.out⟩

set_option maxHeartbeats 800000 in
theorem eqStateS_same (ao bo : Option Addr) (n c d : Nat) (ss : List StD) (w : World) (hf : FitsSt ss) (hx : StatesOf w ao n ss) (hy : StatesOf w bo n ss) :
    Calls Tryz.prog 81 #[.slice ao n c, .slice bo n d] w fun e w' => e = .returned (.bool true) ∧ Below w.heap.size w w' := by
  have hn : n ≤ 1048576 := by rw [← hx.1]; exact hf.1
  have HF : Hid (∀ i, i < n → Fits (ss.getD i st0).entry ∧ Fits (ss.getD i st0).exit) := by have := hf.2; rw [hx.1] at this; exact this
  clear hf
  go_enter Tryz.func81, Tryz.ntmps81
  go_wp2
  go_loopw [5] (fun i wr => ∃ k : Nat, k ≤ n ∧ i = .int .i64 k ∧ Below w.heap.size w wr) (fun i _ => n - (intOf i).toNat)
  case atStart => exact ⟨0, Nat.zero_le _, rfl, Below.refl _ _⟩
  case round =>
    obtain ⟨k, hk, rfl, hb⟩ := hrel
    have HB := hid hb
    by_cases hlt : k < n
    · obtain ⟨b, off, rfl, hbl, hc⟩ := hx.2 (by omega)
      obtain ⟨b2, off2, rfl, hbl2, hc2⟩ := hy.2 (by omega)
      have hi : (k : Int) < (n : Int) := by omega
      have hff := HF.out k hlt
      obtain ⟨x1, x2, ⟨co, cn, cc, x3, hcn, hit⟩, ⟨do_, dn, dc, x4, hdn, hit2⟩⟩ := hc k hlt
      obtain ⟨y1, y2, ⟨eo, en, ec, y3, hen, jt⟩, ⟨fo, fn, fc, y4, hfn, jt2⟩⟩ := hc2 k hlt
      have e1 : en = cn := by rw [← jt.1, hit.1]
      have e2 : fn = dn := by rw [← jt2.1, hit2.1]
      subst e1 e2
      have k1 := cell_regrown ((hb.cell (p := ⟨b, off + k * 4, none⟩) hbl).trans x1)
      have k2 := cell_regrown ((hb.cell (p := ⟨b, off + k * 4 + 1, none⟩) hbl).trans x2)
      have k3 := cell_regrown ((hb.cell (p := ⟨b, off + k * 4 + 2, none⟩) hbl).trans x3)
      have k4 := cell_regrown ((hb.cell (p := ⟨b, off + k * 4 + 3, none⟩) hbl).trans x4)
      have l1 := cell_regrown ((hb.cell (p := ⟨b2, off2 + k * 4, none⟩) hbl2).trans y1)
      have l2 := cell_regrown ((hb.cell (p := ⟨b2, off2 + k * 4 + 1, none⟩) hbl2).trans y2)
      have l3 := cell_regrown ((hb.cell (p := ⟨b2, off2 + k * 4 + 2, none⟩) hbl2).trans y3)
      have l4 := cell_regrown ((hb.cell (p := ⟨b2, off2 + k * 4 + 3, none⟩) hbl2).trans y4)
      obtain ⟨s, es⟩ : ∃ s, s = ss.getD k st0 := ⟨_, rfl⟩
      rw [← es] at k1 k2 l1 l2 hit hit2 jt jt2 hff
      have cE : ∀ d os, Calls Tryz.prog 89 #[.agg #[.int .i64 s.parent, .int .i64 s.initial, .slice co en cc, .slice do_ fn dc], .agg #[.int .i64 s.parent, .int .i64 s.initial, .slice eo en ec, .slice fo fn fc]] (grow (redrawn wr d) os) fun e w'' => e = .returned (.bool true) ∧ ∃ p : Regrown, w'' = grow (redrawn wr p.d) p.os :=
        fun d os => Calls.regrown_of (eqState_same s.parent s.initial co do_ eo fo en cc fn dc ec fc s.entry s.exit _ hff.1 hff.2 (hit.below (hb.trans ((below_regrown wr d os).mono hb.size))) (hit2.below (hb.trans ((below_regrown wr d os).mono hb.size))) (jt.below (hb.trans ((below_regrown wr d os).mono hb.size))) (jt2.below (hb.trans ((below_regrown wr d os).mono hb.size))))
      obtain ⟨kd, hkd⟩ : ∃ kd, kd = s.parent := ⟨_, rfl⟩
      obtain ⟨av, hav⟩ : ∃ av, av = s.initial := ⟨_, rfl⟩
      rw [← hkd] at k1 l1 cE
      rw [← hav] at k2 l2 cE
      clear hx hy hc hc2 x1 x2 x3 x4 y1 y2 y3 y4 hit hit2 jt jt2 es hb hkd hav hcn hdn hen hfn hff
      go_wp2
      refine wp_region_quiet_below (by kernel_rfl) (by kernel_rfl) ?_
      repeat (any_goals (first | go_big_quiet_step (first | exact cE _ _) | quiet_step (first | exact cE _ _)))
      refine wpQuiet_nil ?_
      intro _ hw'
      obtain ⟨⟨dq, osq⟩, hw''⟩ := hw'
      subst hw''
      go_wp2
      go_roundw
      case rel => exact ⟨k + 1, by omega, by go_num, HB.out.trans ((below_regrown wr dq osq).mono HB.out.size)⟩
      case measure => simp [intOf]; omega
    · have e : k = n := by omega
      subst e
      clear hx hy hb
      go_wp2
      go_ret
      exact ⟨rfl, HB.out⟩

set_option maxHeartbeats 800000 in
theorem eqTransS_same (ao bo : Option Addr) (n c d : Nat) (ss : List TrD) (w : World) (hf : FitsTr ss) (hx : TransOf w ao n ss) (hy : TransOf w bo n ss) :
    Calls Tryz.prog 82 #[.slice ao n c, .slice bo n d] w fun e w' => e = .returned (.bool true) ∧ Below w.heap.size w w' := by
  have hn : n ≤ 1048576 := by rw [← hx.1]; exact hf.1
  have HF : Hid (∀ i, i < n → (ss.getD i tr0).guard.length ≤ 1048576 ∧ Fits (ss.getD i tr0).action) := by have := hf.2; rw [hx.1] at this; exact this
  clear hf
  go_enter Tryz.func82, Tryz.ntmps82
  go_wp2
  go_loopw [5] (fun i wr => ∃ k : Nat, k ≤ n ∧ i = .int .i64 k ∧ Below w.heap.size w wr) (fun i _ => n - (intOf i).toNat)
  case atStart => exact ⟨0, Nat.zero_le _, rfl, Below.refl _ _⟩
  case round =>
    obtain ⟨k, hk, rfl, hb⟩ := hrel
    have HB := hid hb
    by_cases hlt : k < n
    · obtain ⟨b, off, rfl, hbl, hc⟩ := hx.2 (by omega)
      obtain ⟨b2, off2, rfl, hbl2, hc2⟩ := hy.2 (by omega)
      have hi : (k : Int) < (n : Int) := by omega
      have hff := HF.out k hlt
      obtain ⟨x1, x2, ⟨co, cn, cc, x3, hcn, hit⟩, x5, ⟨do_, dn, dc, x4, hdn, hit2⟩⟩ := hc k hlt
      obtain ⟨y1, y2, ⟨eo, en, ec, y3, hen, jt⟩, y5, ⟨fo, fn, fc, y4, hfn, jt2⟩⟩ := hc2 k hlt
      have e1 : en = cn := by rw [← jt.1, hit.1]
      have e2 : fn = dn := by rw [← jt2.1, hit2.1]
      subst e1 e2
      have k1 := cell_regrown ((hb.cell (p := ⟨b, off + k * 5, none⟩) hbl).trans x1)
      have k2 := cell_regrown ((hb.cell (p := ⟨b, off + k * 5 + 1, none⟩) hbl).trans x2)
      have k3 := cell_regrown ((hb.cell (p := ⟨b, off + k * 5 + 2, none⟩) hbl).trans x3)
      have k5 := cell_regrown ((hb.cell (p := ⟨b, off + k * 5 + 3, none⟩) hbl).trans x5)
      have k4 := cell_regrown ((hb.cell (p := ⟨b, off + k * 5 + 4, none⟩) hbl).trans x4)
      have l1 := cell_regrown ((hb.cell (p := ⟨b2, off2 + k * 5, none⟩) hbl2).trans y1)
      have l2 := cell_regrown ((hb.cell (p := ⟨b2, off2 + k * 5 + 1, none⟩) hbl2).trans y2)
      have l3 := cell_regrown ((hb.cell (p := ⟨b2, off2 + k * 5 + 2, none⟩) hbl2).trans y3)
      have l5 := cell_regrown ((hb.cell (p := ⟨b2, off2 + k * 5 + 3, none⟩) hbl2).trans y5)
      have l4 := cell_regrown ((hb.cell (p := ⟨b2, off2 + k * 5 + 4, none⟩) hbl2).trans y4)
      obtain ⟨s, es⟩ : ∃ s, s = ss.getD k tr0 := ⟨_, rfl⟩
      rw [← es] at k1 k2 k5 l1 l2 l5 hit hit2 jt jt2 hff
      have hg : en ≤ 1048576 := by rw [← hit.1]; exact hff.1
      have cE : ∀ d os, Calls Tryz.prog 90 #[.agg #[.int .i64 s.src, .int .i64 s.sig, .slice co en cc, .int .i64 s.target, .slice do_ fn dc], .agg #[.int .i64 s.src, .int .i64 s.sig, .slice eo en ec, .int .i64 s.target, .slice fo fn fc]] (grow (redrawn wr d) os) fun e w'' => e = .returned (.bool true) ∧ ∃ p : Regrown, w'' = grow (redrawn wr p.d) p.os :=
        fun d os => Calls.regrown_of (eqTrans_same s.src s.sig s.target co do_ eo fo en cc fn dc ec fc s.guard s.action _ hg hff.2 (hit.below (hb.trans ((below_regrown wr d os).mono hb.size))) (hit2.below (hb.trans ((below_regrown wr d os).mono hb.size))) (jt.below (hb.trans ((below_regrown wr d os).mono hb.size))) (jt2.below (hb.trans ((below_regrown wr d os).mono hb.size))))
      obtain ⟨kd, hkd⟩ : ∃ kd, kd = s.src := ⟨_, rfl⟩
      obtain ⟨av, hav⟩ : ∃ av, av = s.sig := ⟨_, rfl⟩
      obtain ⟨tv, htv⟩ : ∃ tv, tv = s.target := ⟨_, rfl⟩
      rw [← hkd] at k1 l1 cE
      rw [← hav] at k2 l2 cE
      rw [← htv] at k5 l5 cE
      clear hx hy hc hc2 x1 x2 x3 x4 x5 y1 y2 y3 y4 y5 hit hit2 jt jt2 es hb hkd hav htv hcn hdn hen hfn hff hg
      go_wp2
      refine wp_region_quiet_below (by kernel_rfl) (by kernel_rfl) ?_
      repeat (any_goals (first | go_big_quiet_step (first | exact cE _ _) | quiet_step (first | exact cE _ _)))
      refine wpQuiet_nil ?_
      intro _ hw'
      obtain ⟨⟨dq, osq⟩, hw''⟩ := hw'
      subst hw''
      go_wp2
      go_roundw
      case rel => exact ⟨k + 1, by omega, by go_num, HB.out.trans ((below_regrown wr dq osq).mono HB.out.size)⟩
      case measure => simp [intOf]; omega
    · have e : k = n := by omega
      subst e
      clear hx hy hb
      go_wp2
      go_ret
      exact ⟨rfl, HB.out⟩

set_option maxHeartbeats 800000 in
theorem eqChart_same (eo xo eo' xo' : Option Addr) (en ec xn xc ec' xc' : Nat) (es : List StD) (xs : List TrD) (w : World) (fe : FitsSt es) (fx : FitsTr xs) (he : StatesOf w eo en es) (hx : TransOf w xo xn xs) (he' : StatesOf w eo' en es) (hx' : TransOf w xo' xn xs) :
    Calls Tryz.prog 62 #[.agg #[.slice eo en ec, .slice xo xn xc], .agg #[.slice eo' en ec', .slice xo' xn xc']] w fun e w' => e = .returned (.bool true) ∧ Below w.heap.size w w' := by
  have HS : Hid (∀ w', Below w.heap.size w w' → (StatesOf w' eo en es ∧ StatesOf w' eo' en es) ∧ TransOf w' xo xn xs ∧ TransOf w' xo' xn xs) := fun w' h => ⟨⟨he.below h, he'.below h⟩, hx.below h, hx'.below h⟩
  clear he hx he' hx'
  go_enter Tryz.func62, Tryz.ntmps62
  go_wp2_with (first | (go_at_call 81; refine (eqStateS_same eo eo' en ec ec' es _ fe (HS.out _ (below2 _ _ _)).1.1 (HS.out _ (below2 _ _ _)).1.2).mono ?_; rintro e w1 ⟨rfl, hb1⟩; have B1 := hid ((below2 _ _ _).trans (hb1.mono (by simp; omega))); obtain ⟨q0, q1⟩ := two_cells (block_below (block_below (heap_alloc_new w _) (below1 _ _)) hb1); obtain ⟨p0, p1⟩ := two_cells (block_below (heap_alloc_new (w.alloc _) _) hb1); simp only [World.size_alloc] at p0 p1; clear hb1) | (go_at_call 82; refine (eqTransS_same xo xo' xn xc xc' xs _ fx (HS.out _ B1.out).2.1 (HS.out _ B1.out).2.2).mono ?_; rintro e w2 ⟨rfl, hb2⟩; have B2 := hid (B1.out.trans (hb2.mono B1.out.size)); clear hb2))
  go_ret
  exact ⟨rfl, B2.out⟩
end Go.Proofs.YtbcjlpjohknljaaGreatDoor
