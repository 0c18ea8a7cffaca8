import Derived.Test.YthaklmdhkkfigaaGreatQ0
import Derived.Test.YthaklmdhkkfigaaGreatKa
namespace Go.Proofs.YthaklmdhkkfigaaGreat
open Go.RowKit Go.Sort

/-- An object as data. -/
structure ObD where
  prio : Int
  qcap : Int
  dcap : Int
  kinds : List Int
  vals : List Int
  subs : List Int
  sts : List StD
  trs : List TrD
def ob0 : ObD := ⟨0, 0, 0, [], [], [], [], []⟩
/-- Where the five lists of an object lie. -/
structure ObS where
  ko : Option Addr
  kn : Nat
  kc : Nat
  vo : Option Addr
  vn : Nat
  vc : Nat
  uo : Option Addr
  un : Nat
  uc : Nat
  so : Option Addr
  sn : Nat
  sc : Nat
  to : Option Addr
  tn : Nat
  tc : Nat
structure ObOf (w : World) (h : ObS) (x : ObD) : Prop where
  hk : SliceOf w h.ko h.kn x.kinds
  hv : SliceOf w h.vo h.vn x.vals
  hu : SliceOf w h.uo h.un x.subs
  hs : StatesOf w h.so h.sn x.sts
  ht : TransOf w h.to h.tn x.trs
structure ObMax (h : ObS) : Prop where
  hk : h.kn ≤ 9223372036854775807
  hv : h.vn ≤ 9223372036854775807
  hu : h.un ≤ 9223372036854775807
  hs : h.sn ≤ 9223372036854775807
  ht : h.tn ≤ 9223372036854775807
  hc : h.un ≤ h.uc
theorem ObOf.below {w w' : World} {h : ObS} {x : ObD} (k : ObOf w h x) (hb : Below w.heap.size w w') : ObOf w' h x := ⟨k.hk.below hb, k.hv.below hb, k.hu.below hb, k.hs.below hb, k.ht.below hb⟩
/-- Its eight cells. -/
structure ObCells (w : World) (b o : Nat) (p q d : Int) (h : ObS) : Prop where
  c0 : w.cell? ⟨b, o, none⟩ = some (.int .i64 p)
  c1 : w.cell? ⟨b, o + 1, none⟩ = some (.int .i64 q)
  c2 : w.cell? ⟨b, o + 2, none⟩ = some (.int .i64 d)
  c3 : w.cell? ⟨b, o + 3, none⟩ = some (.slice h.ko h.kn h.kc)
  c4 : w.cell? ⟨b, o + 4, none⟩ = some (.slice h.vo h.vn h.vc)
  c5 : w.cell? ⟨b, o + 5, none⟩ = some (.slice h.uo h.un h.uc)
  c6 : w.cell? ⟨b, o + 6, none⟩ = some (.slice h.so h.sn h.sc)
  c7 : w.cell? ⟨b, o + 7, none⟩ = some (.slice h.to h.tn h.tc)
theorem ObCells.below {w w' : World} {b o : Nat} {p q d : Int} {h : ObS} {B : Nat} (k : ObCells w b o p q d h) (hlt : b < B) (hb : Below B w w') : ObCells w' b o p q d h :=
  ⟨(hb.cell (p := ⟨b, o, none⟩) hlt).trans k.c0, (hb.cell (p := ⟨b, o + 1, none⟩) hlt).trans k.c1, (hb.cell (p := ⟨b, o + 2, none⟩) hlt).trans k.c2, (hb.cell (p := ⟨b, o + 3, none⟩) hlt).trans k.c3, (hb.cell (p := ⟨b, o + 4, none⟩) hlt).trans k.c4, (hb.cell (p := ⟨b, o + 5, none⟩) hlt).trans k.c5, (hb.cell (p := ⟨b, o + 6, none⟩) hlt).trans k.c6, (hb.cell (p := ⟨b, o + 7, none⟩) hlt).trans k.c7⟩
def ObAt (w : World) (b o : Nat) (x : ObD) : Prop := ∃ h, ObCells w b o x.prio x.qcap x.dcap h ∧ ObMax h ∧ ObOf w h x
def ObsOf (w : World) (ao : Option Addr) (n : Nat) (os : List ObD) : Prop :=
  os.length = n ∧ (0 < n → ∃ b off, ao = some ⟨b, off, none⟩ ∧ b < w.heap.size ∧ ∀ i, i < n → ObAt w b (off + i * 8) (os.getD i ob0))
theorem ObAt.below {w w' : World} {b o : Nat} {x : ObD} (h : ObAt w b o x) (hlt : b < w.heap.size) (hb : Below w.heap.size w w') : ObAt w' b o x := by
  obtain ⟨s, h1, h2, h3⟩ := h
  exact ⟨s, h1.below hlt hb, h2, h3.below hb⟩
theorem ObsOf.below {w w' : World} {ao : Option Addr} {n : Nat} {os : List ObD} (h : ObsOf w ao n os) (hb : Below w.heap.size w w') : ObsOf w' ao n os :=
  ⟨h.1, fun hn => by
    obtain ⟨b, off, e, hlt, hc⟩ := h.2 hn
    exact ⟨b, off, e, Nat.lt_of_lt_of_le hlt hb.size, fun i hi => (hc i hi).below hlt hb⟩⟩
theorem eight_cells {w : World} {H : Nat} {a b c d e f g h : Value} {t : TypeId} (k : w.heap[H]? = some (.cells #[a, b, c, d, e, f, g, h] t (0, 0))) : w.cell? ⟨H, 0, none⟩ = some a ∧ w.cell? ⟨H, 1, none⟩ = some b ∧ w.cell? ⟨H, 2, none⟩ = some c ∧ w.cell? ⟨H, 3, none⟩ = some d ∧ w.cell? ⟨H, 4, none⟩ = some e ∧ w.cell? ⟨H, 5, none⟩ = some f ∧ w.cell? ⟨H, 6, none⟩ = some g ∧ w.cell? ⟨H, 7, none⟩ = some h := by
  simp [World.cell?, k]

def wOb (x : ObD) : Nat := (x.kinds.length + x.vals.length) + x.subs.length + (wStates x.sts + wTrans x.trs)
def wObs (os : List ObD) : Nat := os.length + sumTo (fun i => wOb (os.getD i ob0)) os.length

theorem szB_out {left : Int} {n m : Nat} : szB left n m = szOut left (n + m) := by
  unfold szB szOut
  by_cases h : left < n
  · rw [if_pos h, if_pos (by omega)]
  · rw [if_neg h]
    by_cases h2 : left - n < m
    · rw [if_pos h2, if_pos (by omega)]
    · rw [if_neg h2, if_neg (by omega)]; omega

set_option maxHeartbeats 800000 in
theorem szChart_left (eo xo : Option Addr) (en ec xn xc : Nat) (es : List StD) (xs : List TrD) (left : Int) (w : World) (hen : en ≤ 9223372036854775807) (hxn : xn ≤ 9223372036854775807) (h0 : 0 ≤ left) (h1 : left ≤ 1048576) (he : StatesOf w eo en es) (hx : TransOf w xo xn xs) :
    Calls Tryz.prog 90 #[.agg #[.slice eo en ec, .slice xo xn xc], .int .i64 left] w fun e w' => e = .returned (.int .i64 (szOut left (wStates es + wTrans xs))) ∧ Below w.heap.size w w' := by
  have HE : Hid (∀ w', Below w.heap.size w w' → StatesOf w' eo en es ∧ TransOf w' xo xn xs) := fun w' h => ⟨he.below h, hx.below h⟩
  have C1 := hid (fun w hw => szStateS_any eo en ec es left w hen h0 h1 hw)
  clear he hx
  by_cases a1 : left < wStates es
  · have E : Hid (szOut left (wStates es + wTrans xs) = -1) := hid (szOut_no (by omega))
    rw [szOut_no a1] at C1
    rw [E.out]
    clear a1
    go_enter Tryz.func90, Tryz.ntmps90
    go_wp2_with (go_at_call 116; refine (C1.out _ (HE.out _ (below1 _ _)).1).mono ?_; rintro e w1 ⟨rfl, hb1⟩; have B1 := hid hb1; clear hb1)
    go_ret
    exact ⟨rfl, (below1 _ _).trans (B1.out.mono (by simp))⟩
  · obtain ⟨l2, hl2⟩ : ∃ l2 : Int, l2 = left - wStates es := ⟨_, rfl⟩
    have h20 : ¬ l2 < 0 := by omega
    have h20' : 0 ≤ l2 := by omega
    have h21 : l2 ≤ 1048576 := by omega
    have C2 := hid (fun w hw => szTransS_any xo xn xc xs l2 w hxn h20' h21 hw)
    rw [szOut_yes a1, ← hl2] at C1
    by_cases a2 : l2 < wTrans xs
    · have E : Hid (szOut left (wStates es + wTrans xs) = -1) := hid (szOut_no (by omega))
      rw [szOut_no a2] at C2
      rw [E.out]
      clear a1 a2 hl2
      go_enter Tryz.func90, Tryz.ntmps90
      go_wp2_with (first | (go_at_call 116; refine (C1.out _ (HE.out _ (below1 _ _)).1).mono ?_; rintro e w1 ⟨rfl, hb1⟩; have B1 := hid ((below1 _ _).trans (hb1.mono (by simp))); obtain ⟨q0, q1⟩ := two_cells (block_below (heap_alloc_new w _) hb1); clear hb1) | (go_at_call 117; refine (C2.out _ (HE.out _ B1.out).2).mono ?_; rintro e w2 ⟨rfl, hb2⟩; have B2 := hid (B1.out.trans (hb2.mono B1.out.size)); clear hb2))
      go_ret
      exact ⟨rfl, B2.out⟩
    · have E : Hid (szOut left (wStates es + wTrans xs) = l2 - wTrans xs) := hid (by rw [szOut_yes (by omega)]; omega)
      have h30 : ¬ l2 - wTrans xs < 0 := by omega
      rw [szOut_yes a2] at C2
      rw [E.out]
      clear a1 a2 hl2
      go_enter Tryz.func90, Tryz.ntmps90
      go_wp2_with (first | (go_at_call 116; refine (C1.out _ (HE.out _ (below1 _ _)).1).mono ?_; rintro e w1 ⟨rfl, hb1⟩; have B1 := hid ((below1 _ _).trans (hb1.mono (by simp))); obtain ⟨q0, q1⟩ := two_cells (block_below (heap_alloc_new w _) hb1); clear hb1) | (go_at_call 117; refine (C2.out _ (HE.out _ B1.out).2).mono ?_; rintro e w2 ⟨rfl, hb2⟩; have B2 := hid (B1.out.trans (hb2.mono B1.out.size)); clear hb2))
      go_ret
      exact ⟨rfl, B2.out⟩

/-- An object's value. -/
def obV (p q d : Int) (h : ObS) : Value := .agg #[.int .i64 p, .int .i64 q, .int .i64 d, .slice h.ko h.kn h.kc, .slice h.vo h.vn h.vc, .slice h.uo h.un h.uc, .slice h.so h.sn h.sc, .slice h.to h.tn h.tc]

set_option maxRecDepth 100000 in
set_option maxHeartbeats 1600000 in
theorem szObject_any (p q d : Int) (h : ObS) (x : ObD) (left : Int) (w : World) (hm : ObMax h) (h0 : 0 ≤ left) (h1 : left ≤ 1048576) (ho : ObOf w h x) :
    Calls Tryz.prog 60 #[obV p q d h, .int .i64 left] w fun e w' => e = .returned (.int .i64 (szOut left (wOb x))) ∧ Below w.heap.size w w' := by
  obtain ⟨ko, kn, kc, vo, vn, vc, uo, un, uc, so, sn, sc, to, tn, tc⟩ := h
  obtain ⟨mk, mv, mu, ms, mt, mc⟩ := hm
  have HE : Hid (∀ w', Below w.heap.size w w' → StatesOf w' so sn x.sts ∧ TransOf w' to tn x.trs) := fun w' h => ⟨ho.hs.below h, ho.ht.below h⟩
  have ek : x.kinds.length = kn := ho.hk.1
  have ev : x.vals.length = vn := ho.hv.1
  have eu : x.subs.length = un := ho.hu.1
  have EW : wOb x = (kn + vn) + un + (wStates x.sts + wTrans x.trs) := by unfold wOb; rw [ek, ev, eu]
  obtain ⟨wc, hwc⟩ : ∃ wc, wc = wStates x.sts + wTrans x.trs := ⟨_, rfl⟩
  rw [← hwc] at EW
  rw [EW]
  have C1 := hid (fun w => szBank_any ko vo kn vn kc vc left w mk mv h0 h1)
  simp only [szB_out] at C1
  clear ho ek ev eu EW
  unfold obV
  dsimp only
  by_cases a1 : left < ((kn + vn : Nat) : Int)
  · have E : Hid (szOut left (kn + vn + un + wc) = -1) := hid (szOut_no (by omega))
    rw [szOut_no a1] at C1
    rw [E.out]
    clear a1 hwc
    go_enter Tryz.func60, Tryz.ntmps60
    go_wp2_with (go_at_call 89; refine (C1.out _).mono ?_; rintro e w1 ⟨rfl, hb1⟩; have B1 := hid hb1; clear hb1)
    go_ret
    exact ⟨rfl, (below1 _ _).trans (B1.out.mono (by simp))⟩
  · obtain ⟨l2, hl2⟩ : ∃ l2 : Int, l2 = left - ((kn + vn : Nat) : Int) := ⟨_, rfl⟩
    have h20 : ¬ l2 < 0 := by omega
    have h20' : 0 ≤ l2 := by omega
    have h21 : l2 ≤ 1048576 := by omega
    have C2 := hid (fun w => szIntS_any uo un uc l2 w mu h20' h21)
    rw [szOut_yes a1, ← hl2] at C1
    by_cases a2 : l2 < un
    · have E : Hid (szOut left (kn + vn + un + wc) = -1) := hid (szOut_no (by omega))
      rw [if_pos a2] at C2
      rw [E.out]
      clear a1 a2 hl2 hwc
      go_enter Tryz.func60, Tryz.ntmps60
      go_wp2_with (first | (go_at_call 89; refine (C1.out _).mono ?_; rintro e w1 ⟨rfl, hb1⟩; have B1 := hid ((below1 _ _).trans (hb1.mono (by simp))); obtain ⟨q0, q1, q2, q3, q4, q5, q6, q7⟩ := eight_cells (block_below (heap_alloc_new w _) hb1); clear hb1) | (go_at_call 26; refine (C2.out _).mono ?_; rintro e w2 ⟨rfl, hw⟩; obtain rfl := hw.symm))
      go_ret
      exact ⟨rfl, B1.out⟩
    · obtain ⟨l3, hl3⟩ : ∃ l3 : Int, l3 = l2 - un := ⟨_, rfl⟩
      have h30 : ¬ l3 < 0 := by omega
      have h30' : 0 ≤ l3 := by omega
      have h31 : l3 ≤ 1048576 := by omega
      have C3 := hid (fun w hs ht => szChart_left so to sn sc tn tc x.sts x.trs l3 w ms mt h30' h31 hs ht)
      rw [if_neg a2, ← hl3] at C2
      rw [← hwc] at C3
      by_cases a3 : l3 < wc
      · have E : Hid (szOut left (kn + vn + un + wc) = -1) := hid (szOut_no (by omega))
        rw [szOut_no a3] at C3
        rw [E.out]
        clear a1 a2 a3 hl2 hl3 hwc
        go_enter Tryz.func60, Tryz.ntmps60
        go_wp2_with (first | (go_at_call 89; refine (C1.out _).mono ?_; rintro e w1 ⟨rfl, hb1⟩; have B1 := hid ((below1 _ _).trans (hb1.mono (by simp))); obtain ⟨q0, q1, q2, q3, q4, q5, q6, q7⟩ := eight_cells (block_below (heap_alloc_new w _) hb1); clear hb1) | (go_at_call 26; refine (C2.out _).mono ?_; rintro e w2 ⟨rfl, hw⟩; obtain rfl := hw.symm) | (go_at_call 90; refine (C3.out _ (HE.out _ B1.out).1 (HE.out _ B1.out).2).mono ?_; rintro e w3 ⟨rfl, hb3⟩; have B3 := hid (B1.out.trans (hb3.mono B1.out.size)); clear hb3))
        go_ret
        exact ⟨rfl, B3.out⟩
      · have E : Hid (szOut left (kn + vn + un + wc) = l3 - wc) := hid (by rw [szOut_yes (by omega)]; omega)
        have h40 : ¬ l3 - wc < 0 := by omega
        rw [szOut_yes a3] at C3
        rw [E.out]
        clear a1 a2 a3 hl2 hl3 hwc
        go_enter Tryz.func60, Tryz.ntmps60
        go_wp2_with (first | (go_at_call 89; refine (C1.out _).mono ?_; rintro e w1 ⟨rfl, hb1⟩; have B1 := hid ((below1 _ _).trans (hb1.mono (by simp))); obtain ⟨q0, q1, q2, q3, q4, q5, q6, q7⟩ := eight_cells (block_below (heap_alloc_new w _) hb1); clear hb1) | (go_at_call 26; refine (C2.out _).mono ?_; rintro e w2 ⟨rfl, hw⟩; obtain rfl := hw.symm) | (go_at_call 90; refine (C3.out _ (HE.out _ B1.out).1 (HE.out _ B1.out).2).mono ?_; rintro e w3 ⟨rfl, hb3⟩; have B3 := hid (B1.out.trans (hb3.mono B1.out.size)); clear hb3))
        go_ret
        exact ⟨rfl, B3.out⟩

set_option maxHeartbeats 800000 in
theorem szTimerS_any (ao : Option Addr) (n c : Nat) (left : Int) (w : World) (hn : n ≤ 9223372036854775807) (h0 : 0 ≤ left) (h1 : left ≤ 1048576) :
    Calls Tryz.prog 25 #[.slice ao n c, .int .i64 left] w fun e w' => e = .returned (.int .i64 (if left < n then -1 else left - n)) ∧ w' = w := by
  by_cases h : left < n
  · rw [if_pos h]
    have h2 : left - n < 0 := by omega
    go_enter Tryz.func25, Tryz.ntmps25
    go_wp2
    go_ret
    exact ⟨rfl, rfl⟩
  · rw [if_neg h]
    have h2 : ¬ left - n < 0 := by omega
    go_enter Tryz.func25, Tryz.ntmps25
    go_wp2
    go_ret
    exact ⟨rfl, rfl⟩

set_option maxRecDepth 100000 in
set_option maxHeartbeats 1600000 in
theorem szObjectS_any (ao : Option Addr) (n c : Nat) (ss : List ObD) (lft : Int) (w : World) (hn : n ≤ 9223372036854775807) (g0 : 0 ≤ lft) (g1 : lft ≤ 1048576) (hs : ObsOf w ao n ss) :
    Calls Tryz.prog 24 #[.slice ao n c, .int .i64 lft] w fun e w' => e = .returned (.int .i64 (szOut lft (wObs ss))) ∧ Below w.heap.size w w' := by
  have HL := hid hs.1
  by_cases h : lft - n < 0
  · have E : Hid (szOut lft (wObs ss) = -1) := hid (if_pos (by unfold wObs; rw [HL.out]; omega))
    rw [E.out]
    clear hs
    go_enter Tryz.func24, Tryz.ntmps24
    go_wp2
    go_ret
    exact ⟨rfl, Below.refl _ _⟩
  · have hn' : n ≤ 1048576 := by omega
    go_enter Tryz.func24, Tryz.ntmps24
    go_wp2
    go_loopw [1, 5] (fun l i wr => ∃ (k : Nat) (left : Int), k ≤ n ∧ i = .int .i64 k ∧ l = .int .i64 left ∧ 0 ≤ left ∧ left ≤ 1048576 ∧ Hid (left = lft - n - (sumTo (fun i => wOb (ss.getD i ob0)) k : Nat)) ∧ Below w.heap.size w wr) (fun _ i _ => n - (intOf i).toNat)
    case atStart => exact ⟨0, _, Nat.zero_le _, rfl, rfl, by omega, by omega, hid (by simp [sumTo]), Below.refl _ _⟩
    case round =>
      obtain ⟨k, left, hk, rfl, rfl, hl0, hl1, HP, hb⟩ := hrel
      have HB := hid hb
      by_cases hlt : k < n
      · obtain ⟨b, off, rfl, hbl, hc⟩ := hs.2 (by omega)
        obtain ⟨s, es⟩ : ∃ s, s = ss.getD k ob0 := ⟨_, rfl⟩
        have hk4 := hc k hlt
        rw [← es] at hk4
        obtain ⟨h, hcs, hmx, hof⟩ := hk4
        obtain ⟨k0, k1, k2, k3, k4, k5, k6, k7⟩ := hcs.below hbl hb
        obtain ⟨wt, EW⟩ : ∃ wt, wt = wOb s := ⟨_, rfl⟩
        have ES : Hid (sumTo (fun i => wOb (ss.getD i ob0)) (k + 1) = sumTo (fun i => wOb (ss.getD i ob0)) k + wt) := hid (sumTo_step _ (by show wOb (ss.getD k ob0) = wt; rw [← es, EW]))
        have EM : Hid (sumTo (fun i => wOb (ss.getD i ob0)) (k + 1) ≤ sumTo (fun i => wOb (ss.getD i ob0)) n) := hid (sumTo_le _ hlt)
        have C := hid (szObject_any s.prio s.qcap s.dcap h s left wr hmx hl0 hl1 (hof.below hb))
        rw [← EW] at C
        unfold obV at C
        obtain ⟨ko, kn, kc, vo, vn, vc, uo, un, uc, so, sn, sc, to, tn, tc⟩ := h
        dsimp only at C k3 k4 k5 k6 k7
        clear hc hs hb es hcs hmx hof EW
        by_cases hneg : left < wt
        · rw [szOut_no hneg] at C
          go_wp2_with (go_at_call 60; refine C.out.mono ?_; rintro e w1 ⟨rfl, hb1⟩; have B1 := hid hb1; clear hb1)
          go_ret
          have h1 := HP.out
          have h2 := ES.out
          have h3 := EM.out
          refine ⟨ret_int (Eq.symm (if_pos ?_)), HB.out.trans (B1.out.mono HB.out.size)⟩
          unfold wObs
          rw [HL.out]
          omega
        · have hnn : ¬ left - wt < 0 := by omega
          rw [szOut_yes hneg] at C
          go_wp2_with (go_at_call 60; refine C.out.mono ?_; rintro e w1 ⟨rfl, hb1⟩; have B1 := hid hb1; clear hb1)
          go_roundw
          case rel =>
            have h1 := HP.out
            have h2 := ES.out
            exact ⟨k + 1, left - wt, by omega, by go_num, rfl, by omega, by omega, hid (by rw [h1, h2]; omega), HB.out.trans (B1.out.mono HB.out.size)⟩
          case measure => simp [intOf]; omega
      · have e : k = n := by omega
        subst e
        clear hs hb
        go_wp2
        go_ret
        have h1 := HP.out
        refine ⟨ret_int ?_, HB.out⟩
        unfold szOut wObs
        rw [HL.out, if_neg (by omega)]
        omega

theorem three_cells {w : World} {H : Nat} {a b c : Value} {t : TypeId} (k : w.heap[H]? = some (.cells #[a, b, c] t (0, 0))) : w.cell? ⟨H, 0, none⟩ = some a ∧ w.cell? ⟨H, 1, none⟩ = some b ∧ w.cell? ⟨H, 2, none⟩ = some c := by
  simp [World.cell?, k]

set_option maxHeartbeats 800000 in
theorem szSystem_any (sg : Int) (eo xo : Option Addr) (en ec xn xc : Nat) (es : List ObD) (left : Int) (w : World) (hen : en ≤ 9223372036854775807) (hxn : xn ≤ 9223372036854775807) (h0 : 0 ≤ left) (h1 : left ≤ 1048576) (he : ObsOf w eo en es) :
    Calls Tryz.prog 6 #[.agg #[.int .i64 sg, .slice eo en ec, .slice xo xn xc], .int .i64 left] w fun e w' => e = .returned (.int .i64 (szOut left (wObs es + xn))) ∧ Below w.heap.size w w' := by
  have HE : Hid (∀ w', Below w.heap.size w w' → ObsOf w' eo en es) := fun w' h => he.below h
  have C1 := hid (fun w hw => szObjectS_any eo en ec es left w hen h0 h1 hw)
  clear he
  by_cases a1 : left < wObs es
  · have E : Hid (szOut left (wObs es + xn) = -1) := hid (szOut_no (by omega))
    rw [szOut_no a1] at C1
    rw [E.out]
    clear a1
    go_enter Tryz.func6, Tryz.ntmps6
    go_wp2_with (go_at_call 24; refine (C1.out _ (HE.out _ (below1 _ _))).mono ?_; rintro e w1 ⟨rfl, hb1⟩; have B1 := hid hb1; clear hb1)
    go_ret
    exact ⟨rfl, (below1 _ _).trans (B1.out.mono (by simp))⟩
  · obtain ⟨l2, hl2⟩ : ∃ l2 : Int, l2 = left - wObs es := ⟨_, rfl⟩
    have h20 : ¬ l2 < 0 := by omega
    have h20' : 0 ≤ l2 := by omega
    have h21 : l2 ≤ 1048576 := by omega
    have C2 := hid (fun w => szTimerS_any xo xn xc l2 w hxn h20' h21)
    rw [szOut_yes a1, ← hl2] at C1
    by_cases a2 : l2 < xn
    · have E : Hid (szOut left (wObs es + xn) = -1) := hid (szOut_no (by omega))
      rw [if_pos a2] at C2
      rw [E.out]
      clear a1 a2 hl2
      go_enter Tryz.func6, Tryz.ntmps6
      go_wp2_with (first | (go_at_call 24; refine (C1.out _ (HE.out _ (below1 _ _))).mono ?_; rintro e w1 ⟨rfl, hb1⟩; have B1 := hid ((below1 _ _).trans (hb1.mono (by simp))); obtain ⟨q0, q1, q2⟩ := three_cells (block_below (heap_alloc_new w _) hb1); clear hb1) | (go_at_call 25; refine (C2.out _).mono ?_; rintro e w2 ⟨rfl, hw⟩; obtain rfl := hw.symm))
      go_ret
      exact ⟨rfl, B1.out⟩
    · have E : Hid (szOut left (wObs es + xn) = l2 - xn) := hid (by rw [szOut_yes (by omega)]; omega)
      have h30 : ¬ l2 - xn < 0 := by omega
      rw [if_neg a2] at C2
      rw [E.out]
      clear a1 a2 hl2
      go_enter Tryz.func6, Tryz.ntmps6
      go_wp2_with (first | (go_at_call 24; refine (C1.out _ (HE.out _ (below1 _ _))).mono ?_; rintro e w1 ⟨rfl, hb1⟩; have B1 := hid ((below1 _ _).trans (hb1.mono (by simp))); obtain ⟨q0, q1, q2⟩ := three_cells (block_below (heap_alloc_new w _) hb1); clear hb1) | (go_at_call 25; refine (C2.out _).mono ?_; rintro e w2 ⟨rfl, hw⟩; obtain rfl := hw.symm))
      go_ret
      exact ⟨rfl, B1.out⟩
end Go.Proofs.YthaklmdhkkfigaaGreat
