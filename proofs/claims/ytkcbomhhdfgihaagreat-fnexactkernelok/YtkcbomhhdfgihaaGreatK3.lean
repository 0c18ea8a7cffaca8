import Derived.Test.YtkcbomhhdfgihaaGreatK2
namespace Go.Proofs.YtkcbomhhdfgihaaGreat
open Go.RowKit Go.Sort

/-- A state, a transition, as data. -/
structure StD where
  parent : Int
  initial : Int
  entry : List StmD
  exit : List StmD
def st0 : StD := ⟨0, 0, [], []⟩
structure TrD where
  src : Int
  sig : Int
  guard : List (Int × Int)
  target : Int
  action : List StmD
def tr0 : TrD := ⟨0, 0, [], 0, []⟩

def StAt (w : World) (b o : Nat) (s : StD) : Prop :=
  w.cell? ⟨b, o, none⟩ = some (.int .i64 s.parent) ∧ w.cell? ⟨b, o + 1, none⟩ = some (.int .i64 s.initial) ∧
    (∃ co cn cc, w.cell? ⟨b, o + 2, none⟩ = some (.slice co cn cc) ∧ cn ≤ 9223372036854775807 ∧ StmsOf w co cn s.entry) ∧
    ∃ co cn cc, w.cell? ⟨b, o + 3, none⟩ = some (.slice co cn cc) ∧ cn ≤ 9223372036854775807 ∧ StmsOf w co cn s.exit
def StatesOf (w : World) (ao : Option Addr) (n : Nat) (ss : List StD) : Prop :=
  ss.length = n ∧ (0 < n → ∃ b off, ao = some ⟨b, off, none⟩ ∧ b < w.heap.size ∧ ∀ i, i < n → StAt w b (off + i * 4) (ss.getD i st0))
def TrAt (w : World) (b o : Nat) (s : TrD) : Prop :=
  w.cell? ⟨b, o, none⟩ = some (.int .i64 s.src) ∧ w.cell? ⟨b, o + 1, none⟩ = some (.int .i64 s.sig) ∧
    (∃ co cn cc, w.cell? ⟨b, o + 2, none⟩ = some (.slice co cn cc) ∧ cn ≤ 9223372036854775807 ∧ ItemsOf w co cn s.guard) ∧ w.cell? ⟨b, o + 3, none⟩ = some (.int .i64 s.target) ∧
    ∃ co cn cc, w.cell? ⟨b, o + 4, none⟩ = some (.slice co cn cc) ∧ cn ≤ 9223372036854775807 ∧ StmsOf w co cn s.action
def TransOf (w : World) (ao : Option Addr) (n : Nat) (ss : List TrD) : Prop :=
  ss.length = n ∧ (0 < n → ∃ b off, ao = some ⟨b, off, none⟩ ∧ b < w.heap.size ∧ ∀ i, i < n → TrAt w b (off + i * 5) (ss.getD i tr0))

theorem StAt.below {w w' : World} {b o : Nat} {s : StD} (h : StAt w b o s) (hlt : b < w.heap.size) (hb : Below w.heap.size w w') : StAt w' b o s := by
  obtain ⟨h1, h2, ⟨co, cn, cc, h4, h5, h6⟩, ⟨do_, dn, dc, h7, h8, h9⟩⟩ := h
  exact ⟨(hb.cell (p := ⟨b, o, none⟩) hlt).trans h1, (hb.cell (p := ⟨b, o + 1, none⟩) hlt).trans h2, ⟨co, cn, cc, (hb.cell (p := ⟨b, o + 2, none⟩) hlt).trans h4, h5, h6.below hb⟩, ⟨do_, dn, dc, (hb.cell (p := ⟨b, o + 3, none⟩) hlt).trans h7, h8, h9.below hb⟩⟩
theorem StatesOf.below {w w' : World} {ao : Option Addr} {n : Nat} {ss : List StD} (h : StatesOf w ao n ss) (hb : Below w.heap.size w w') : StatesOf w' ao n ss :=
  ⟨h.1, fun hn => by
    obtain ⟨b, off, e, hlt, hc⟩ := h.2 hn
    exact ⟨b, off, e, Nat.lt_of_lt_of_le hlt hb.size, fun i hi => (hc i hi).below hlt hb⟩⟩
theorem TrAt.below {w w' : World} {b o : Nat} {s : TrD} (h : TrAt w b o s) (hlt : b < w.heap.size) (hb : Below w.heap.size w w') : TrAt w' b o s := by
  obtain ⟨h1, h2, ⟨co, cn, cc, h4, h5, h6⟩, h3, ⟨do_, dn, dc, h7, h8, h9⟩⟩ := h
  exact ⟨(hb.cell (p := ⟨b, o, none⟩) hlt).trans h1, (hb.cell (p := ⟨b, o + 1, none⟩) hlt).trans h2, ⟨co, cn, cc, (hb.cell (p := ⟨b, o + 2, none⟩) hlt).trans h4, h5, h6.below hb⟩, (hb.cell (p := ⟨b, o + 3, none⟩) hlt).trans h3, ⟨do_, dn, dc, (hb.cell (p := ⟨b, o + 4, none⟩) hlt).trans h7, h8, h9.below hb⟩⟩
theorem TransOf.below {w w' : World} {ao : Option Addr} {n : Nat} {ss : List TrD} (h : TransOf w ao n ss) (hb : Below w.heap.size w w') : TransOf w' ao n ss :=
  ⟨h.1, fun hn => by
    obtain ⟨b, off, e, hlt, hc⟩ := h.2 hn
    exact ⟨b, off, e, Nat.lt_of_lt_of_le hlt hb.size, fun i hi => (hc i hi).below hlt hb⟩⟩

def wSt (s : StD) : Nat := wStms s.entry + wStms s.exit
def wStates (ss : List StD) : Nat := ss.length + sumTo (fun i => wSt (ss.getD i st0)) ss.length
def wTr (s : TrD) : Nat := s.guard.length + wStms s.action
def wTrans (ss : List TrD) : Nat := ss.length + sumTo (fun i => wTr (ss.getD i tr0)) ss.length

theorem szOut_no {l : Int} {a : Nat} (h : l < a) : szOut l a = -1 := if_pos h
theorem szOut_yes {l : Int} {a : Nat} (h : ¬ l < a) : szOut l a = l - a := if_neg h
theorem five_cells {w : World} {H : Nat} {a b c d e : Value} {t : TypeId} (h : w.heap[H]? = some (.cells #[a, b, c, d, e] t (0, 0))) : w.cell? ⟨H, 0, none⟩ = some a ∧ w.cell? ⟨H, 1, none⟩ = some b ∧ w.cell? ⟨H, 2, none⟩ = some c ∧ w.cell? ⟨H, 3, none⟩ = some d ∧ w.cell? ⟨H, 4, none⟩ = some e := by
  simp [World.cell?, h]
theorem two_cells {w : World} {H : Nat} {a b : Value} {t : TypeId} (h : w.heap[H]? = some (.cells #[a, b] t (0, 0))) : w.cell? ⟨H, 0, none⟩ = some a ∧ w.cell? ⟨H, 1, none⟩ = some b := by
  simp [World.cell?, h]

set_option maxHeartbeats 800000 in
theorem szState_any (p i : Int) (eo xo : Option Addr) (en ec xn xc : Nat) (es xs : List StmD) (left : Int) (w : World) (hen : en ≤ 9223372036854775807) (hxn : xn ≤ 9223372036854775807) (h0 : 0 ≤ left) (h1 : left ≤ 1048576) (he : StmsOf w eo en es) (hx : StmsOf w xo xn xs) :
    Calls Tryz.prog 111 #[.agg #[.int .i64 p, .int .i64 i, .slice eo en ec, .slice xo xn xc], .int .i64 left] w fun e w' => e = .returned (.int .i64 (szOut left (wStms es + wStms xs))) ∧ Below w.heap.size w w' := by
  have HE : Hid (∀ w', Below w.heap.size w w' → StmsOf w' eo en es ∧ StmsOf w' xo xn xs) := fun w' h => ⟨he.below h, hx.below h⟩
  have C1 := hid (fun w hw => szStmS_any eo en ec es left w hen h0 h1 hw)
  clear he hx
  by_cases a1 : left < wStms es
  · have E : Hid (szOut left (wStms es + wStms xs) = -1) := hid (szOut_no (by omega))
    rw [szOut_no a1] at C1
    rw [E.out]
    go_enter Tryz.func111, Tryz.ntmps111
    go_wp2_with (go_at_call 125; refine (C1.out _ (HE.out _ (below1 _ _)).1).mono ?_; rintro e w1 ⟨rfl, hb1⟩; have B1 := hid hb1; clear hb1)
    go_ret
    exact ⟨rfl, (below1 _ _).trans (B1.out.mono (by simp))⟩
  · obtain ⟨l2, hl2⟩ : ∃ l2, l2 = left - wStms es := ⟨_, rfl⟩
    have h20 : ¬ l2 < 0 := by omega
    have h20' : 0 ≤ l2 := by omega
    have h21 : l2 ≤ 1048576 := by omega
    have C2 := hid (fun w hw => szStmS_any xo xn xc xs l2 w hxn h20' h21 hw)
    rw [szOut_yes a1, ← hl2] at C1
    have HL := hid hl2
    by_cases a2 : l2 < wStms xs
    · have E : Hid (szOut left (wStms es + wStms xs) = -1) := hid (szOut_no (by omega))
      rw [szOut_no a2] at C2
      rw [E.out]
      clear a1 a2 hl2
      go_enter Tryz.func111, Tryz.ntmps111
      go_wp2_with (first | (go_at_call_of 125 (Value.slice eo en ec); refine (C1.out _ (HE.out _ (below1 _ _)).1).mono ?_; rintro e w1 ⟨rfl, hb1⟩; have B1 := hid ((below1 _ _).trans (hb1.mono (by simp))); obtain ⟨q0, q1, q2, q3⟩ := quad_cells (block_below (heap_alloc_new w _) hb1); clear hb1) | (go_at_call_of 125 (Value.slice xo xn xc); refine (C2.out _ (HE.out _ B1.out).2).mono ?_; rintro e w2 ⟨rfl, hb2⟩; have B2 := hid (B1.out.trans (hb2.mono B1.out.size)); clear hb2))
      go_ret
      exact ⟨rfl, B2.out⟩
    · have E : Hid (szOut left (wStms es + wStms xs) = l2 - wStms xs) := hid (by rw [szOut_yes (by omega)]; omega)
      have h30 : ¬ l2 - wStms xs < 0 := by omega
      rw [szOut_yes a2] at C2
      rw [E.out]
      clear a1 a2 hl2
      go_enter Tryz.func111, Tryz.ntmps111
      go_wp2_with (first | (go_at_call_of 125 (Value.slice eo en ec); refine (C1.out _ (HE.out _ (below1 _ _)).1).mono ?_; rintro e w1 ⟨rfl, hb1⟩; have B1 := hid ((below1 _ _).trans (hb1.mono (by simp))); obtain ⟨q0, q1, q2, q3⟩ := quad_cells (block_below (heap_alloc_new w _) hb1); clear hb1) | (go_at_call_of 125 (Value.slice xo xn xc); refine (C2.out _ (HE.out _ B1.out).2).mono ?_; rintro e w2 ⟨rfl, hb2⟩; have B2 := hid (B1.out.trans (hb2.mono B1.out.size)); clear hb2))
      go_ret
      exact ⟨rfl, B2.out⟩

set_option maxHeartbeats 800000 in
theorem szTrans_any (f g t : Int) (eo xo : Option Addr) (en ec xn xc : Nat) (es : List (Int × Int)) (xs : List StmD) (left : Int) (w : World) (hen : en ≤ 9223372036854775807) (hxn : xn ≤ 9223372036854775807) (h0 : 0 ≤ left) (h1 : left ≤ 1048576) (he : ItemsOf w eo en es) (hx : StmsOf w xo xn xs) :
    Calls Tryz.prog 112 #[.agg #[.int .i64 f, .int .i64 g, .slice eo en ec, .int .i64 t, .slice xo xn xc], .int .i64 left] w fun e w' => e = .returned (.int .i64 (szOut left (es.length + wStms xs))) ∧ Below w.heap.size w w' := by
  have HE : Hid (∀ w', Below w.heap.size w w' → StmsOf w' xo xn xs) := fun w' h => hx.below h
  have HN := he.1
  have C1 := hid (fun w => szItemS_any eo en ec left w hen h0 h1)
  clear he hx
  by_cases a1 : left < en
  · have E : Hid (szOut left (es.length + wStms xs) = -1) := hid (szOut_no (by omega))
    rw [if_pos a1] at C1
    rw [E.out]
    clear HN
    go_enter Tryz.func112, Tryz.ntmps112
    go_wp2_with (go_at_call 126; refine (C1.out _).mono ?_; rintro e w1 ⟨rfl, hw⟩; obtain rfl := hw.symm)
    go_ret
    exact ⟨rfl, below1 _ _⟩
  · obtain ⟨l2, hl2⟩ : ∃ l2, l2 = left - en := ⟨_, rfl⟩
    have h20 : ¬ l2 < 0 := by omega
    have h20' : 0 ≤ l2 := by omega
    have h21 : l2 ≤ 1048576 := by omega
    have C2 := hid (fun w hw => szStmS_any xo xn xc xs l2 w hxn h20' h21 hw)
    rw [if_neg a1, ← hl2] at C1
    by_cases a2 : l2 < wStms xs
    · have E : Hid (szOut left (es.length + wStms xs) = -1) := hid (szOut_no (by omega))
      rw [szOut_no a2] at C2
      rw [E.out]
      clear a1 a2 hl2 HN
      go_enter Tryz.func112, Tryz.ntmps112
      go_wp2_with (first | (go_at_call 126; refine (C1.out _).mono ?_; rintro e w1 ⟨rfl, hw⟩; obtain rfl := hw.symm) | (go_at_call 125; refine (C2.out _ (HE.out _ (below1 _ _))).mono ?_; rintro e w2 ⟨rfl, hb2⟩; have B2 := hid hb2; clear hb2))
      go_ret
      exact ⟨rfl, (below1 _ _).trans (B2.out.mono (by simp))⟩
    · have E : Hid (szOut left (es.length + wStms xs) = l2 - wStms xs) := hid (by rw [szOut_yes (by omega)]; omega)
      have h30 : ¬ l2 - wStms xs < 0 := by omega
      rw [szOut_yes a2] at C2
      rw [E.out]
      clear a1 a2 hl2 HN
      go_enter Tryz.func112, Tryz.ntmps112
      go_wp2_with (first | (go_at_call 126; refine (C1.out _).mono ?_; rintro e w1 ⟨rfl, hw⟩; obtain rfl := hw.symm) | (go_at_call 125; refine (C2.out _ (HE.out _ (below1 _ _))).mono ?_; rintro e w2 ⟨rfl, hb2⟩; have B2 := hid hb2; clear hb2))
      go_ret
      exact ⟨rfl, (below1 _ _).trans (B2.out.mono (by simp))⟩

set_option maxHeartbeats 800000 in
theorem szStateS_any (ao : Option Addr) (n c : Nat) (ss : List StD) (lft : Int) (w : World) (hn : n ≤ 9223372036854775807) (g0 : 0 ≤ lft) (g1 : lft ≤ 1048576) (hs : StatesOf w ao n ss) :
    Calls Tryz.prog 82 #[.slice ao n c, .int .i64 lft] w fun e w' => e = .returned (.int .i64 (szOut lft (wStates ss))) ∧ Below w.heap.size w w' := by
  have HL := hid hs.1
  by_cases h : lft - n < 0
  · have E : Hid (szOut lft (wStates ss) = -1) := hid (if_pos (by unfold wStates; rw [HL.out]; omega))
    rw [E.out]
    clear hs
    go_enter Tryz.func82, Tryz.ntmps82
    go_wp2
    go_ret
    exact ⟨rfl, Below.refl _ _⟩
  · have hn' : n ≤ 1048576 := by omega
    go_enter Tryz.func82, Tryz.ntmps82
    go_wp2
    go_loopw [1, 5] (fun l i wr => ∃ (k : Nat) (left : Int), k ≤ n ∧ i = .int .i64 k ∧ l = .int .i64 left ∧ 0 ≤ left ∧ left ≤ 1048576 ∧ Hid (left = lft - n - (sumTo (fun i => wSt (ss.getD i st0)) k : Nat)) ∧ Below w.heap.size w wr) (fun _ i _ => n - (intOf i).toNat)
    case atStart => exact ⟨0, _, Nat.zero_le _, rfl, rfl, by omega, by omega, hid (by simp [sumTo]), Below.refl _ _⟩
    case round =>
      obtain ⟨k, left, hk, rfl, rfl, hl0, hl1, HP, hb⟩ := hrel
      have HB := hid hb
      by_cases hlt : k < n
      · obtain ⟨b, off, rfl, hbl, hc⟩ := hs.2 (by omega)
        obtain ⟨s, es⟩ : ∃ s, s = ss.getD k st0 := ⟨_, rfl⟩
        have hk4 := hc k hlt
        rw [← es] at hk4
        obtain ⟨k1, k2, ⟨co, cn, cc, k3, hcn, hit⟩, ⟨do_, dn, dc, k4, hdn, hit2⟩⟩ := hk4
        have k1 := (hb.cell (p := ⟨b, off + k * 4, none⟩) hbl).trans k1
        have k2 := (hb.cell (p := ⟨b, off + k * 4 + 1, none⟩) hbl).trans k2
        have k3 := (hb.cell (p := ⟨b, off + k * 4 + 2, none⟩) hbl).trans k3
        have k4 := (hb.cell (p := ⟨b, off + k * 4 + 3, none⟩) hbl).trans k4
        obtain ⟨wt, EW⟩ : ∃ wt, wt = wStms s.entry + wStms s.exit := ⟨_, rfl⟩
        have ES : Hid (sumTo (fun i => wSt (ss.getD i st0)) (k + 1) = sumTo (fun i => wSt (ss.getD i st0)) k + wt) := hid (sumTo_step _ (by show wSt (ss.getD k st0) = wt; rw [← es, EW]; rfl))
        have EM : Hid (sumTo (fun i => wSt (ss.getD i st0)) (k + 1) ≤ sumTo (fun i => wSt (ss.getD i st0)) n) := hid (sumTo_le _ hlt)
        have C := hid (szState_any s.parent s.initial co do_ cn cc dn dc s.entry s.exit left wr hcn hdn hl0 hl1 (hit.below hb) (hit2.below hb))
        rw [← EW] at C
        clear hc hs hb es hit hit2 EW
        by_cases hneg : left < wt
        · rw [szOut_no hneg] at C
          go_wp2_with (go_at_call 111; refine C.out.mono ?_; rintro e w1 ⟨rfl, hb1⟩; have B1 := hid hb1; clear hb1)
          go_ret
          have h1 := HP.out
          have h2 := ES.out
          have h3 := EM.out
          refine ⟨ret_int (Eq.symm (if_pos ?_)), HB.out.trans (B1.out.mono HB.out.size)⟩
          unfold wStates
          rw [HL.out]
          omega
        · have hnn : ¬ left - wt < 0 := by omega
          rw [szOut_yes hneg] at C
          go_wp2_with (go_at_call 111; refine C.out.mono ?_; rintro e w1 ⟨rfl, hb1⟩; have B1 := hid hb1; clear hb1)
          go_roundw
          case rel =>
            have h1 := HP.out
            have h2 := ES.out
            exact ⟨k + 1, left - wt, by omega, by go_num, rfl, by omega, by omega, hid (by rw [h1, h2]; omega), HB.out.trans (B1.out.mono HB.out.size)⟩
          case measure => simp [intOf]; omega
      · have e : k = n := by omega
        subst e
        clear hs hb
        go_wp2
        go_ret
        have h1 := HP.out
        refine ⟨ret_int ?_, HB.out⟩
        unfold szOut wStates
        rw [HL.out, if_neg (by omega)]
        omega

set_option maxHeartbeats 800000 in
theorem szTransS_any (ao : Option Addr) (n c : Nat) (ss : List TrD) (lft : Int) (w : World) (hn : n ≤ 9223372036854775807) (g0 : 0 ≤ lft) (g1 : lft ≤ 1048576) (hs : TransOf w ao n ss) :
    Calls Tryz.prog 83 #[.slice ao n c, .int .i64 lft] w fun e w' => e = .returned (.int .i64 (szOut lft (wTrans ss))) ∧ Below w.heap.size w w' := by
  have HL := hid hs.1
  by_cases h : lft - n < 0
  · have E : Hid (szOut lft (wTrans ss) = -1) := hid (if_pos (by unfold wTrans; rw [HL.out]; omega))
    rw [E.out]
    clear hs
    go_enter Tryz.func83, Tryz.ntmps83
    go_wp2
    go_ret
    exact ⟨rfl, Below.refl _ _⟩
  · have hn' : n ≤ 1048576 := by omega
    go_enter Tryz.func83, Tryz.ntmps83
    go_wp2
    go_loopw [1, 5] (fun l i wr => ∃ (k : Nat) (left : Int), k ≤ n ∧ i = .int .i64 k ∧ l = .int .i64 left ∧ 0 ≤ left ∧ left ≤ 1048576 ∧ Hid (left = lft - n - (sumTo (fun i => wTr (ss.getD i tr0)) k : Nat)) ∧ Below w.heap.size w wr) (fun _ i _ => n - (intOf i).toNat)
    case atStart => exact ⟨0, _, Nat.zero_le _, rfl, rfl, by omega, by omega, hid (by simp [sumTo]), Below.refl _ _⟩
    case round =>
      obtain ⟨k, left, hk, rfl, rfl, hl0, hl1, HP, hb⟩ := hrel
      have HB := hid hb
      by_cases hlt : k < n
      · obtain ⟨b, off, rfl, hbl, hc⟩ := hs.2 (by omega)
        obtain ⟨s, es⟩ : ∃ s, s = ss.getD k tr0 := ⟨_, rfl⟩
        have hk4 := hc k hlt
        rw [← es] at hk4
        obtain ⟨k1, k2, ⟨co, cn, cc, k3, hcn, hit⟩, k5, ⟨do_, dn, dc, k4, hdn, hit2⟩⟩ := hk4
        have k1 := (hb.cell (p := ⟨b, off + k * 5, none⟩) hbl).trans k1
        have k2 := (hb.cell (p := ⟨b, off + k * 5 + 1, none⟩) hbl).trans k2
        have k3 := (hb.cell (p := ⟨b, off + k * 5 + 2, none⟩) hbl).trans k3
        have k5 := (hb.cell (p := ⟨b, off + k * 5 + 3, none⟩) hbl).trans k5
        have k4 := (hb.cell (p := ⟨b, off + k * 5 + 4, none⟩) hbl).trans k4
        obtain ⟨wt, EW⟩ : ∃ wt, wt = s.guard.length + wStms s.action := ⟨_, rfl⟩
        have ES : Hid (sumTo (fun i => wTr (ss.getD i tr0)) (k + 1) = sumTo (fun i => wTr (ss.getD i tr0)) k + wt) := hid (sumTo_step _ (by show wTr (ss.getD k tr0) = wt; rw [← es, EW]; rfl))
        have EM : Hid (sumTo (fun i => wTr (ss.getD i tr0)) (k + 1) ≤ sumTo (fun i => wTr (ss.getD i tr0)) n) := hid (sumTo_le _ hlt)
        have C := hid (szTrans_any s.src s.sig s.target co do_ cn cc dn dc s.guard s.action left wr hcn hdn hl0 hl1 (hit.below hb) (hit2.below hb))
        rw [← EW] at C
        clear hc hs hb es hit hit2 EW
        by_cases hneg : left < wt
        · rw [szOut_no hneg] at C
          go_wp2_with (go_at_call 112; refine C.out.mono ?_; rintro e w1 ⟨rfl, hb1⟩; have B1 := hid hb1; clear hb1)
          go_ret
          have h1 := HP.out
          have h2 := ES.out
          have h3 := EM.out
          refine ⟨ret_int (Eq.symm (if_pos ?_)), HB.out.trans (B1.out.mono HB.out.size)⟩
          unfold wTrans
          rw [HL.out]
          omega
        · have hnn : ¬ left - wt < 0 := by omega
          rw [szOut_yes hneg] at C
          go_wp2_with (go_at_call 112; refine C.out.mono ?_; rintro e w1 ⟨rfl, hb1⟩; have B1 := hid hb1; clear hb1)
          go_roundw
          case rel =>
            have h1 := HP.out
            have h2 := ES.out
            exact ⟨k + 1, left - wt, by omega, by go_num, rfl, by omega, by omega, hid (by rw [h1, h2]; omega), HB.out.trans (B1.out.mono HB.out.size)⟩
          case measure => simp [intOf]; omega
      · have e : k = n := by omega
        subst e
        clear hs hb
        go_wp2
        go_ret
        have h1 := HP.out
        refine ⟨ret_int ?_, HB.out⟩
        unfold szOut wTrans
        rw [HL.out, if_neg (by omega)]
        omega

set_option maxHeartbeats 800000 in
theorem szChart_any (eo xo : Option Addr) (en ec xn xc : Nat) (es : List StD) (xs : List TrD) (w : World) (hen : en ≤ 9223372036854775807) (hxn : xn ≤ 9223372036854775807) (he : StatesOf w eo en es) (hx : TransOf w xo xn xs) :
    Calls Tryz.prog 61 #[.agg #[.slice eo en ec, .slice xo xn xc], .int .i64 1048576] w fun e w' => e = .returned (.int .i64 (szOut 1048576 (wStates es + wTrans xs))) ∧ Below w.heap.size w w' := by
  have HE : Hid (∀ w', Below w.heap.size w w' → StatesOf w' eo en es ∧ TransOf w' xo xn xs) := fun w' h => ⟨he.below h, hx.below h⟩
  have C1 := hid (fun w hw => szStateS_any eo en ec es 1048576 w hen (by omega) (by omega) hw)
  clear he hx
  by_cases a1 : (1048576 : Int) < wStates es
  · have E : Hid (szOut 1048576 (wStates es + wTrans xs) = -1) := hid (szOut_no (by omega))
    rw [szOut_no a1] at C1
    rw [E.out]
    clear a1
    go_enter Tryz.func61, Tryz.ntmps61
    go_wp2_with (go_at_call 82; refine (C1.out _ (HE.out _ (below1 _ _)).1).mono ?_; rintro e w1 ⟨rfl, hb1⟩; have B1 := hid hb1; clear hb1)
    go_ret
    exact ⟨rfl, (below1 _ _).trans (B1.out.mono (by simp))⟩
  · obtain ⟨l2, hl2⟩ : ∃ l2 : Int, l2 = 1048576 - wStates es := ⟨_, rfl⟩
    have h20 : ¬ l2 < 0 := by omega
    have h20' : 0 ≤ l2 := by omega
    have h21 : l2 ≤ 1048576 := by omega
    have C2 := hid (fun w hw => szTransS_any xo xn xc xs l2 w hxn h20' h21 hw)
    rw [szOut_yes a1, ← hl2] at C1
    by_cases a2 : l2 < wTrans xs
    · have E : Hid (szOut 1048576 (wStates es + wTrans xs) = -1) := hid (szOut_no (by omega))
      rw [szOut_no a2] at C2
      rw [E.out]
      clear a1 a2 hl2
      go_enter Tryz.func61, Tryz.ntmps61
      go_wp2_with (first | (go_at_call 82; refine (C1.out _ (HE.out _ (below1 _ _)).1).mono ?_; rintro e w1 ⟨rfl, hb1⟩; have B1 := hid ((below1 _ _).trans (hb1.mono (by simp))); obtain ⟨q0, q1⟩ := two_cells (block_below (heap_alloc_new w _) hb1); clear hb1) | (go_at_call 83; refine (C2.out _ (HE.out _ B1.out).2).mono ?_; rintro e w2 ⟨rfl, hb2⟩; have B2 := hid (B1.out.trans (hb2.mono B1.out.size)); clear hb2))
      go_ret
      exact ⟨rfl, B2.out⟩
    · have E : Hid (szOut 1048576 (wStates es + wTrans xs) = l2 - wTrans xs) := hid (by rw [szOut_yes (by omega)]; omega)
      have h30 : ¬ l2 - wTrans xs < 0 := by omega
      rw [szOut_yes a2] at C2
      rw [E.out]
      clear a1 a2 hl2
      go_enter Tryz.func61, Tryz.ntmps61
      go_wp2_with (first | (go_at_call 82; refine (C1.out _ (HE.out _ (below1 _ _)).1).mono ?_; rintro e w1 ⟨rfl, hb1⟩; have B1 := hid ((below1 _ _).trans (hb1.mono (by simp))); obtain ⟨q0, q1⟩ := two_cells (block_below (heap_alloc_new w _) hb1); clear hb1) | (go_at_call 83; refine (C2.out _ (HE.out _ B1.out).2).mono ?_; rintro e w2 ⟨rfl, hb2⟩; have B2 := hid (B1.out.trans (hb2.mono B1.out.size)); clear hb2))
      go_ret
      exact ⟨rfl, B2.out⟩
end Go.Proofs.YtkcbomhhdfgihaaGreat
