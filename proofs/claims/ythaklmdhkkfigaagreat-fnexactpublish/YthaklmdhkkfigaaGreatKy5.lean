import Derived.Test.YthaklmdhkkfigaaGreatYa
import Derived.Test.YthaklmdhkkfigaaGreatU3
namespace Go.Proofs.YthaklmdhkkfigaaGreat
open Go.RowKit Go.Sort
set_option linter.unusedVariables false
attribute [local go_sem ↓] Go.wp_at_zero Go.wp_at_succ

/-- A row of numbers that was made, of a kind. -/
def NF (u : World) (L : Nat) (t : TypeId) (sz : Nat) (ao : Option Addr) (n : Nat) : Prop := ∃ g F, L ≤ g ∧ ao = some ⟨g, 0, none⟩ ∧ u.rowIs g t (n * sz) F ∧ ∀ j, j < n * sz → ∃ z, F j = .int .i64 z
theorem NF.tn {u : World} {L U : Nat} {t : TypeId} {sz : Nat} {ao : Option Addr} {n : Nat} (h : NF u L t sz ao n) (hU : u.heap.size ≤ U) : TN u L U t sz (.slice ao n n) n := by
  obtain ⟨g, F, h1, rfl, h3, h4⟩ := h
  exact ⟨g, F, ⟨h1, Nat.lt_of_lt_of_le h3.lt hU⟩, rfl, h3, h4⟩
/-- A list of numbers that was made. -/
def SF (u : World) (L : Nat) (ao : Option Addr) (n : Nat) (zs : List Int) : Prop := SliceOf u ao n zs ∧ NF u L 3 1 ao n
theorem sf_cut {u : World} {L g n : Nat} {zs : List Int} (hl : zs.length = n) (hL : L ≤ g) (hr : u.rowIs g 3 n (fun i => .int .i64 (zs.getD i 0))) : SF u L (some ⟨g, 0, none⟩) n zs := ⟨SliceOf.cut hl hr, g, _, hL, rfl, by rw [Nat.mul_one]; exact hr, fun j _ => ⟨_, rfl⟩⟩
/-- A list of events that was made. -/
def EF (u : World) (L : Nat) (ao : Option Addr) (n : Nat) (zs : List (Int × Int)) : Prop := ItemsOf u ao n zs ∧ NF u L 70 2 ao n
theorem ef_cut {u : World} {L g n : Nat} {zs : List (Int × Int)} (hl : zs.length = n) (hL : L ≤ g) (hr : u.rowIs g 70 (n * 2) (icell zs)) : EF u L (some ⟨g, 0, none⟩) n zs := ⟨ItemsOf.rowEvent hl hr, g, _, hL, rfl, hr, fun j _ => by unfold icell; split <;> exact ⟨_, rfl⟩⟩
set_option maxHeartbeats 400000 in
theorem toBank_f (ao bo : Option Addr) (n m c d : Nat) (ks vs : List Int) (K : Nat) (w : World) (hK : K ≤ w.heap.size) (hn : n ≤ 1048576) (hm : m ≤ 1048576) (hx : SliceOf w ao n ks) (hy : SliceOf w bo m vs) :
    Calls Tryz.prog 94 #[.agg #[.slice ao n c, .slice bo m d]] w fun e w' => ∃ g1 g2, e = .returned (.agg #[.slice (some ⟨g1, 0, none⟩) n n, .slice (some ⟨g2, 0, none⟩) m m]) ∧ Lasts w.heap.size w' (fun u => SF u K (some ⟨g1, 0, none⟩) n ks ∧ SF u K (some ⟨g2, 0, none⟩) m vs) ∧ Below w.heap.size w w' := by
  have HX : Hid (∀ w', Below w.heap.size w w' → SliceOf w' ao n ks ∧ SliceOf w' bo m vs) := fun w' h => ⟨hx.below h, hy.below h⟩
  have HL : Hid (ks.length = n ∧ vs.length = m) := ⟨hx.1, hy.1⟩
  clear hx hy
  go_enter Tryz.func94, Tryz.ntmps94
  go_wp2_with (first | (go_at_call_of 36 (Value.slice ao n c); (refine (toIntS_any ao n c ks _ hn (HX.out _ (below3 _ _ _ _)).1).mono ?_; rintro e w1 ⟨rfl, hrow, hb1⟩; have hz := hrow.lt; simp only [World.size_alloc] at hz; have hza : w.heap.size + 1 + 1 < w1.heap.size := (by omega); have hzb : w.heap.size + 1 < w1.heap.size := (by omega); have hzc : w.heap.size < w1.heap.size := (by omega); obtain ⟨hc, hf⟩ := bcell2 hb1; have R1 := hid hrow; have B1 := hid hb1; clear hrow hb1)) | (go_at_call_of 36 (Value.slice bo m d); refine (toIntS_any bo m d vs _ hm (HX.out _ (((below3 _ _ _ _).trans (B1.out.mono (by simp; omega))).setCell (by simp; omega) _)).2).mono ?_; rintro e w2 ⟨rfl, hrow2, hb2⟩; have hz2 := hrow2.lt; obtain ⟨hc2, hf2⟩ := bcell2 hb2; have R2 := hid hrow2; have B2 := hid hb2; clear hrow2 hb2))
  refine bodyPost_ret (v := .agg #[.slice (some ⟨w.heap.size + 1 + 1 + 1, 0, none⟩) n n, .slice (some ⟨w1.heap.size, 0, none⟩) m m]) (by simp [results, Tryz.results94, go_sem, hc, hc2, hzb]) rfl ?_
  have r1 := R1.out
  simp only [World.size_alloc] at r1
  have r2 := R2.out
  simp only [World.size_setCell] at r2
  have b2 := B2.out
  simp only [World.size_setCell] at b2
  have r1' := ((((r1.setOther (a := ⟨w.heap.size + 1 + 1, 0, none⟩) (by simp) (Value.slice (some ⟨w.heap.size + 1 + 1 + 1, 0, none⟩) n n)).of_block (b2.block _ hz)).setOther (a := ⟨w.heap.size + 1 + 1, 1, none⟩) (by simp) (Value.slice (some ⟨w1.heap.size, 0, none⟩) m m)).setOther (a := ⟨w.heap.size + 1, 0, none⟩) (by simp; omega) (Value.slice (some ⟨w.heap.size + 1 + 1 + 1, 0, none⟩) n n)).setOther (a := ⟨w.heap.size + 1, 1, none⟩) (by simp; omega) (Value.slice (some ⟨w1.heap.size, 0, none⟩) m m)
  have r2' := ((r2.setOther (a := ⟨w.heap.size + 1 + 1, 1, none⟩) (by simp; omega) (Value.slice (some ⟨w1.heap.size, 0, none⟩) m m)).setOther (a := ⟨w.heap.size + 1, 0, none⟩) (by simp; omega) (Value.slice (some ⟨w.heap.size + 1 + 1 + 1, 0, none⟩) n n)).setOther (a := ⟨w.heap.size + 1, 1, none⟩) (by simp; omega) (Value.slice (some ⟨w1.heap.size, 0, none⟩) m m)
  have b1 := B1.out
  simp only [World.size_alloc] at b1
  exact ⟨_, _, rfl, fun u h1 h2 => ⟨sf_cut HL.out.1 (by omega) (rowIs_same r1' (by omega) h1), sf_cut HL.out.2 (by omega) (rowIs_same r2' (by omega) h1)⟩, ((((((below3 _ _ _ _).trans (b1.mono (by omega))).setCell (by simp; omega) _).trans (b2.mono (by omega))).setCell (by simp; omega) _).setCell (by simp) _).setCell (by simp) _⟩

theorem toInt_f (ao : Option Addr) (n c : Nat) (zs : List Int) (K : Nat) (w : World) (hK : K ≤ w.heap.size) (hn : n ≤ 1048576) (hs : SliceOf w ao n zs) :
    Calls Tryz.prog 36 #[.slice ao n c] w fun e w' => ∃ g, e = .returned (.slice (some ⟨g, 0, none⟩) n n) ∧ Lasts w.heap.size w' (fun u => SF u K (some ⟨g, 0, none⟩) n zs) ∧ Below w.heap.size w w' := by
  have hl := hs.1
  exact (toIntS_any ao n c zs w hn hs).mono (by
    rintro e w' ⟨rfl, hr, hb⟩
    exact ⟨_, rfl, fun u h1 h2 => sf_cut hl hK (rowIs_same hr (Nat.le_refl _) h1), hb⟩)

theorem toChart_f (eo xo : Option Addr) (en ec xn xc : Nat) (es : List StD) (xs : List TrD) (K : Nat) (w : World) (hK : K ≤ w.heap.size) (fe : FitsSt es) (fx : FitsTr xs) (he : StatesOf w eo en es) (hx : TransOf w xo xn xs) :
    Calls Tryz.prog 95 #[.agg #[.slice eo en ec, .slice xo xn xc]] w fun e w' => ∃ g1 g2, e = .returned (.agg #[.slice (some ⟨g1, 0, none⟩) en en, .slice (some ⟨g2, 0, none⟩) xn xn]) ∧ Lasts w.heap.size w' (fun u => (StatesOf u (some ⟨g1, 0, none⟩) en es ∧ TransOf u (some ⟨g2, 0, none⟩) xn xs) ∧ TT u K (.slice (some ⟨g1, 0, none⟩) en en) es ∧ TR u K (.slice (some ⟨g2, 0, none⟩) xn xn) xs) ∧ Below w.heap.size w w' :=
  (toChart_any eo xo en ec xn xc es xs w fe fx he hx).mono (by
    rintro e w' ⟨g1, g2, rfl, h1, h2, hb⟩
    refine ⟨g1, g2, rfl, fun u k1 k2 => ?_, hb⟩
    obtain ⟨q1, e1, s1⟩ := (h1.same k1).states fe
    obtain ⟨q2, e2, s2⟩ := (h2.same k1).trans fx
    have t1 := ((h1.same k1).mono hK).tt
    have t2 := ((h2.same k1).mono hK).tr
    simp at e1 e2
    obtain ⟨rfl, rfl, _⟩ := e1
    obtain ⟨rfl, rfl, _⟩ := e2
    exact ⟨⟨s1, s2⟩, t1, t2⟩)

/-- An object's copy, with the rows that were made. -/
structure ObF (u : World) (K : Nat) (h : ObS) (x : ObD) : Prop where
  of : ObOf u h x
  nk : NF u K 3 1 h.ko h.kn
  nv : NF u K 3 1 h.vo h.vn
  nu : NF u K 3 1 h.uo h.un
  fs : TT u K (.slice h.so h.sn h.sn) x.sts
  ft : TR u K (.slice h.to h.tn h.tn) x.trs
def ObCap (h : ObS) : Prop := h.kc = h.kn ∧ h.vc = h.vn ∧ h.uc = h.un ∧ h.sc = h.sn ∧ h.tc = h.tn
set_option maxRecDepth 100000 in
set_option maxHeartbeats 1600000 in
theorem toObject_f (p q d : Int) (h : ObS) (x : ObD) (K : Nat) (w : World) (hK : K ≤ w.heap.size) (hf : FitsOb x) (ho : ObOf w h x) :
    Calls Tryz.prog 67 #[obV p q d h] w fun e w' => ∃ g1 g2 g3 g4 g5, e = .returned (obV p q d (cpS h g1 g2 g3 g4 g5)) ∧ Lasts w.heap.size w' (fun u => ObF u K (cpS h g1 g2 g3 g4 g5) x) ∧ Below w.heap.size w w' := by
  obtain ⟨ko, kn, kc, vo, vn, vc, uo, un, uc, so, sn, sc, tz, tn, tc⟩ := h
  have fk : kn ≤ 1048576 := by have := hf.fk; rw [ho.hk.1] at this; exact this
  have fv : vn ≤ 1048576 := by have := hf.fv; rw [ho.hv.1] at this; exact this
  have fu : un ≤ 1048576 := by have := hf.fu; rw [ho.hu.1] at this; exact this
  have HS : Hid (∀ w', Below w.heap.size w w' → ObOf w' ⟨ko, kn, kc, vo, vn, vc, uo, un, uc, so, sn, sc, tz, tn, tc⟩ x) := fun w' h => ho.below h
  have CB := hid (fun W (h : K ≤ W.heap.size) a b => toBank_f ko vo kn vn kc vc x.kinds x.vals K W h fk fv a b)
  have CU := hid (fun W (h : K ≤ W.heap.size) a => toInt_f uo un uc x.subs K W h fu a)
  have CC := hid (fun W (h : K ≤ W.heap.size) a b => toChart_f so tz sn sc tn tc x.sts x.trs K W h hf.fs hf.ft a b)
  clear ho hf fk fv fu
  unfold obV cpS
  dsimp only
  go_enter Tryz.func67, Tryz.ntmps67
  go_wp2_with (first
    | (go_at_call 94; refine (CB.out _ (by simp; omega) (HS.out _ (below3 _ _ _ _)).hk (HS.out _ (below3 _ _ _ _)).hv).mono ?_; rintro e w1 ⟨g1, g2, rfl, hl1, hb1⟩; have hz := hb1.size; simp only [World.size_alloc] at hz hl1; obtain ⟨hc, hf⟩ := bcell2 hb1; have L1 := hid hl1; have B1 := hid ((below3 _ _ _ _).trans (hb1.mono (by simp; omega))); clear hl1 hb1; have hza : w.heap.size + 1 + 1 < w1.heap.size := (by omega); have hzb : w.heap.size + 1 < w1.heap.size := (by omega); have hzc : w.heap.size < w1.heap.size := (by omega))
    | (go_at_call 36; refine (CU.out _ (by simp; omega) (HS.out _ (below_set (below_set B1.out (by omega)) (by omega))).hu).mono ?_; rintro e w2 ⟨g3, rfl, hl2, hb2⟩; have hz2 := hb2.size; simp only [World.size_setCell] at hz2 hl2; obtain ⟨hc2, hf2⟩ := bcell2 hb2; have L2 := hid hl2; have B2 := hid hb2; have B2w := hid ((below_set (below_set B1.out (by omega)) (by omega)).trans (hb2.mono (by simp; omega))); clear hl2 hb2; have hza2 : w.heap.size + 1 + 1 < w2.heap.size := (by omega); have hzb2 : w.heap.size + 1 < w2.heap.size := (by omega); have hzc2 : w.heap.size < w2.heap.size := (by omega))
    | (go_at_call 95; refine (CC.out _ (by simp; omega) (HS.out _ (below_set B2w.out (by omega))).hs (HS.out _ (below_set B2w.out (by omega))).ht).mono ?_; rintro e w3 ⟨g4, g5, rfl, hl3, hb3⟩; have hz3 := hb3.size; simp only [World.size_setCell] at hz3 hl3; obtain ⟨hc3, hf3⟩ := bcell2 hb3; have L3 := hid hl3; have B3 := hid hb3; have B3w := hid ((below_set B2w.out (by omega)).trans (hb3.mono (by simp; omega))); clear hl3 hb3; have hza3 : w.heap.size + 1 + 1 < w3.heap.size := (by omega); have hzb3 : w.heap.size + 1 < w3.heap.size := (by omega)))
  refine bodyPost_ret (v := .agg #[.int .i64 p, .int .i64 q, .int .i64 d, .slice (some ⟨g1, 0, none⟩) kn kn, .slice (some ⟨g2, 0, none⟩) vn vn, .slice (some ⟨g3, 0, none⟩) un un, .slice (some ⟨g4, 0, none⟩) sn sn, .slice (some ⟨g5, 0, none⟩) tn tn]) (by simp [results, Tryz.results67, go_sem, hc, hc2, hc3, hzb, hzb2]) rfl ⟨g1, g2, g3, g4, g5, rfl, ?_, ?_⟩
  · have a1 : Lasts (w.heap.size + 1 + 1 + 1) w3 (fun u => SF u K (some ⟨g1, 0, none⟩) kn x.kinds ∧ SF u K (some ⟨g2, 0, none⟩) vn x.vals) := by
      refine Lasts.below ?_ B3.out
      refine Lasts.set ?_ (by omega) _
      refine Lasts.below ?_ B2.out
      refine Lasts.set ?_ (by omega) _
      refine Lasts.set ?_ (by omega) _
      exact L1.out
    have a2 : Lasts (w.heap.size + 1 + 1 + 1) w3 (fun u => SF u K (some ⟨g3, 0, none⟩) un x.subs) := by
      refine Lasts.mono (L := w1.heap.size) ?_ (by omega)
      refine Lasts.below ?_ B3.out
      refine Lasts.set ?_ (by omega) _
      exact L2.out
    have a3 := L3.out.mono (show w.heap.size + 1 + 1 + 1 ≤ w2.heap.size by omega)
    have all : Lasts (w.heap.size + 1 + 1 + 1) w3 (fun u => ObF u K ⟨some ⟨g1, 0, none⟩, kn, kn, some ⟨g2, 0, none⟩, vn, vn, some ⟨g3, 0, none⟩, un, un, some ⟨g4, 0, none⟩, sn, sn, some ⟨g5, 0, none⟩, tn, tn⟩ x) :=
      fun u h1 h2 => ⟨⟨(a1 u h1 h2).1.1, (a1 u h1 h2).2.1, (a2 u h1 h2).1, (a3 u h1 h2).1.1, (a3 u h1 h2).1.2⟩, (a1 u h1 h2).1.2, (a1 u h1 h2).2.2, (a2 u h1 h2).2, (a3 u h1 h2).2.1, (a3 u h1 h2).2.2⟩
    refine Lasts.mono (L := w.heap.size + 1 + 1 + 1) ?_ (by omega)
    repeat refine Lasts.set ?_ (by omega) _
    exact all
  · repeat refine below_set ?_ (by omega)
    exact B3w.out

/-- The first k objects of a row that is being made. -/
def MadeObF (w : World) (K L : Nat) (F : Nat → Value) (os : List ObD) (k : Nat) : Prop :=
  ∀ i, i < k → ∃ h : ObS, (ObMax h ∧ ObCap h) ∧ Lasts L w (fun u => ObF u K h (os.getD i ob0)) ∧
    F (i * 8) = .int .i64 (os.getD i ob0).prio ∧ F (i * 8 + 1) = .int .i64 (os.getD i ob0).qcap ∧ F (i * 8 + 2) = .int .i64 (os.getD i ob0).dcap ∧
    F (i * 8 + 3) = .slice h.ko h.kn h.kc ∧ F (i * 8 + 4) = .slice h.vo h.vn h.vc ∧ F (i * 8 + 5) = .slice h.uo h.un h.uc ∧ F (i * 8 + 6) = .slice h.so h.sn h.sc ∧ F (i * 8 + 7) = .slice h.to h.tn h.tc
theorem MadeObF.same {w w' : World} {K L : Nat} {F : Nat → Value} {os : List ObD} {k : Nat} (h : MadeObF w K L F os k) (hs : Same L w w') (hz : w.heap.size ≤ w'.heap.size) : MadeObF w' K L F os k := by
  intro i hi
  obtain ⟨s, h1, h2, h3⟩ := h i hi
  exact ⟨s, h1, h2.same hs hz, h3⟩
theorem MadeObF.mono {w : World} {K L L' : Nat} {F : Nat → Value} {os : List ObD} {k : Nat} (h : MadeObF w K L F os k) (hl : L' ≤ L) : MadeObF w K L' F os k := by
  intro i hi
  obtain ⟨s, h1, h2, h3⟩ := h i hi
  exact ⟨s, h1, h2.mono hl, h3⟩
theorem made_obf {w : World} {K L g n : Nat} {F : Nat → Value} {os : List ObD} (hl : os.length = n) (hr : w.rowIs g 134 (n * 8) F) (hm : MadeObF w K L F os n) : ObsOf w (some ⟨g, 0, none⟩) n os := by
  refine ⟨hl, fun _ => ⟨g, 0, rfl, hr.lt, fun i hi => ?_⟩⟩
  obtain ⟨h, h1, h2, c0, c1, c2, c3, c4, c5, c6, c7⟩ := hm i hi
  refine ⟨h, ⟨?_, ?_, ?_, ?_, ?_, ?_, ?_, ?_⟩, h1.1, h2.now.of⟩
  · rw [← c0]; simpa using hr.cell (i := i * 8) (by omega)
  · rw [← c1]; simpa using hr.cell (i := i * 8 + 1) (by omega)
  · rw [← c2]; simpa using hr.cell (i := i * 8 + 2) (by omega)
  · rw [← c3]; simpa using hr.cell (i := i * 8 + 3) (by omega)
  · rw [← c4]; simpa using hr.cell (i := i * 8 + 4) (by omega)
  · rw [← c5]; simpa using hr.cell (i := i * 8 + 5) (by omega)
  · rw [← c6]; simpa using hr.cell (i := i * 8 + 6) (by omega)
  · rw [← c7]; simpa using hr.cell (i := i * 8 + 7) (by omega)
theorem made_to {w : World} {K L U g n : Nat} {F : Nat → Value} {os : List ObD} (hl : os.length = n) (hg : K ≤ g) (hU : w.heap.size ≤ U) (hr : w.rowIs g 134 (n * 8) F) (hm : MadeObF w K L F os n) : TO w K U (.slice (some ⟨g, 0, none⟩) n n) os := by
  subst hl
  refine ⟨g, F, ⟨hg, Nat.lt_of_lt_of_le hr.lt hU⟩, rfl, hr, fun i hi => ?_⟩
  obtain ⟨h, ⟨_, q1, q2, q3, q4, q5⟩, h2, c0, c1, c2, c3, c4, c5, c6, c7⟩ := hm i hi
  have h2 := h2.now
  rw [q1] at c3
  rw [q2] at c4
  rw [q3] at c5
  rw [q4] at c6
  rw [q5] at c7
  have n3 := h2.nk.tn hU
  have n4 := h2.nv.tn hU
  have n5 := h2.nu.tn hU
  rw [← c3, show h.kn = _ from h2.of.hk.1.symm] at n3
  rw [← c4, show h.vn = _ from h2.of.hv.1.symm] at n4
  rw [← c5, show h.un = _ from h2.of.hu.1.symm] at n5
  exact ⟨⟨⟨_, c0⟩, ⟨_, c1⟩, ⟨_, c2⟩⟩, ⟨n3, n4, n5⟩, by rw [c6]; exact h2.fs, by rw [c7]; exact h2.ft⟩
theorem obf_step {w wr : World} {K B n k : Nat} {F : Nat → Value} {os : List ObD} {h : ObS} (hr : wr.rowIs B 134 (n * 8) F) (hc : MadeObF wr K (B + 1) F os k) (hb : Below B w wr)
    (hm : ObMax h ∧ ObCap h) (hl : Lasts (B + 1) wr (fun u => ObF u K h (os.getD k ob0))) {w' : World} (e : w' = set8 wr B k (.int .i64 (os.getD k ob0).prio) (.int .i64 (os.getD k ob0).qcap) (.int .i64 (os.getD k ob0).dcap) (.slice h.ko h.kn h.kc) (.slice h.vo h.vn h.vc) (.slice h.uo h.un h.uc) (.slice h.so h.sn h.sc) (.slice h.to h.tn h.tc)) :
    ∃ F', w'.rowIs B 134 (n * 8) F' ∧ MadeObF w' K (B + 1) F' os (k + 1) ∧ Below B w w' := by
  subst e
  have hs := set8_same wr B k (.int .i64 (os.getD k ob0).prio) (.int .i64 (os.getD k ob0).qcap) (.int .i64 (os.getD k ob0).dcap) (.slice h.ko h.kn h.kc) (.slice h.vo h.vn h.vc) (.slice h.uo h.un h.uc) (.slice h.so h.sn h.sc) (.slice h.to h.tn h.tc)
  have hc' := hc.same hs (by simp [set8])
  have hl' := hl.same hs (by simp [set8])
  unfold set8 at hc' hl' ⊢
  refine ⟨_, (((((((hr.set (k * 8) _).set (k * 8 + 1) _).set (k * 8 + 2) _).set (k * 8 + 3) _).set (k * 8 + 4) _).set (k * 8 + 5) _).set (k * 8 + 6) _).set (k * 8 + 7) _, ?_, (((((((hb.setCell (Nat.le_refl _) _).setCell (Nat.le_refl _) _).setCell (Nat.le_refl _) _).setCell (Nat.le_refl _) _).setCell (Nat.le_refl _) _).setCell (Nat.le_refl _) _).setCell (Nat.le_refl _) _).setCell (Nat.le_refl _) _⟩
  intro i hi
  by_cases e : i = k
  · subst e
    refine ⟨h, hm, hl', ?_, ?_, ?_, ?_, ?_, ?_, ?_, ?_⟩ <;> simp
  · obtain ⟨s, h1, h2, h3, h4, h5, h6, h7, h8, h9, h10⟩ := hc' i (by omega)
    refine ⟨s, h1, h2, ?_, ?_, ?_, ?_, ?_, ?_, ?_, ?_⟩ <;> dsimp only <;> rw [if_neg (by omega), if_neg (by omega), if_neg (by omega), if_neg (by omega), if_neg (by omega), if_neg (by omega), if_neg (by omega), if_neg (by omega)] <;> assumption

set_option maxRecDepth 100000 in
set_option maxHeartbeats 1600000 in
theorem toObjectS_f (ao : Option Addr) (n c : Nat) (ss : List ObD) (K : Nat) (w : World) (hK : K ≤ w.heap.size) (hf : FitsObs ss) (hs : ObsOf w ao n ss) :
    Calls Tryz.prog 34 #[.slice ao n c] w fun e w' => ∃ g, e = .returned (.slice (some ⟨g, 0, none⟩) n n) ∧ Lasts w.heap.size w' (fun u => ObsOf u (some ⟨g, 0, none⟩) n ss ∧ ∀ U, u.heap.size ≤ U → TO u K U (.slice (some ⟨g, 0, none⟩) n n) ss) ∧ Below w.heap.size w w' := by
  have HL := hid hs.1
  have hn : n ≤ 1048576 := by rw [← HL.out]; exact hf.1
  have HF : Hid (∀ i, i < n → FitsOb (ss.getD i ob0)) := by have := hf.2; rw [HL.out] at this; exact this
  have hmk := run_make_objs 39 134 144 Tryz.underlying39 infoObject .i64 .i64 n (by omega) (by omega)
  clear hf
  go_enter Tryz.func34, Tryz.ntmps34
  go_wp2
  go_loopw [4] (fun i wr => ∃ k : Nat, k ≤ n ∧ i = .int .i64 k ∧ (∃ F, wr.rowIs w.heap.size 134 (n * 8) F ∧ MadeObF wr K (w.heap.size + 1) F ss k) ∧ Below w.heap.size w wr) (fun i _ => n - (intOf i).toNat)
  case atStart => exact ⟨0, Nat.zero_le _, rfl, ⟨_, rowIs_objs w _ _ _ _ _ _ _ _ n 134, fun i h => absurd h (by omega)⟩, (Below.refl _ _).alloc (Nat.le_refl _) _⟩
  case round =>
    obtain ⟨k, hk, rfl, ⟨F, hr, hcp⟩, hb⟩ := hrel
    have HR := hid hr
    have HB := hid hb
    have HP := hid hcp
    have hsz := hr.lt
    clear hcp
    by_cases hlt : k < n
    · obtain ⟨b, off, rfl, hbl, hc⟩ := hs.2 (by omega)
      obtain ⟨s, es⟩ : ∃ s, s = ss.getD k ob0 := ⟨_, rfl⟩
      have hk4 := hc k hlt
      have hff := HF.out k hlt
      rw [← es] at hk4 hff
      obtain ⟨h, hcs, hmx, hof⟩ := hk4
      obtain ⟨k0, k1, k2, k3, k4, k5, k6, k7⟩ := hcs.below hbl hb
      have ES := hid es
      have C := hid (toObject_f s.prio s.qcap s.dcap h s K wr (Nat.le_trans hK hb.size) hff (hof.below hb))
      have MX := hid hmx
      obtain ⟨pv, hpv⟩ : ∃ pv, pv = s.prio := ⟨_, rfl⟩
      obtain ⟨qv, hqv⟩ : ∃ qv, qv = s.qcap := ⟨_, rfl⟩
      obtain ⟨dv, hdv⟩ : ∃ dv, dv = s.dcap := ⟨_, rfl⟩
      rw [← hpv] at k0 C
      rw [← hqv] at k1 C
      rw [← hdv] at k2 C
      have EP := hid hpv
      have EQ := hid hqv
      have ED := hid hdv
      obtain ⟨ko, kn, kc, vo, vn, vc, uo, un, uc, so, sn, sc, tz, tn, tc⟩ := h
      unfold obV cpS at C
      dsimp only at C k3 k4 k5 k6 k7
      clear hs hc hr hb hcs hof es hmx hpv hqv hdv hff
      go_wp2_with (go_at_call 67; refine C.out.mono ?_; rintro e w1 ⟨x1, x2, x3, x4, x5, rfl, hi1, hb1⟩; have hr1 := HR.out.of_block (hb1.block _ hsz); have f0 := hr1.frozen (k * 8); have f1 := hr1.frozen (k * 8 + 1); have f2 := hr1.frozen (k * 8 + 2); have f3 := hr1.frozen (k * 8 + 3); have f4 := hr1.frozen (k * 8 + 4); have f5 := hr1.frozen (k * 8 + 5); have f6 := hr1.frozen (k * 8 + 6); have f7 := hr1.frozen (k * 8 + 7); have g0 := hr1.cell (i := k * 8) (by omega); have g1 := hr1.cell (i := k * 8 + 1) (by omega); have g2 := hr1.cell (i := k * 8 + 2) (by omega); have g3 := hr1.cell (i := k * 8 + 3) (by omega); have g4 := hr1.cell (i := k * 8 + 4) (by omega); have g5 := hr1.cell (i := k * 8 + 5) (by omega); have g6 := hr1.cell (i := k * 8 + 6) (by omega); have g7 := hr1.cell (i := k * 8 + 7) (by omega); have R1 := hid hr1; have I1 := hid hi1; have B1 := hid hb1; clear hr1 hi1 hb1)
      have cs := fun w' => obf_step (os := ss) (k := k) (w' := w') R1.out (HP.out.same (Same.of_below B1.out) B1.out.size) (HB.out.trans (B1.out.mono (Nat.le_of_lt hsz))) ((fun x => And.intro x ⟨rfl, rfl, rfl, rfl, rfl⟩) (cpS_max (g1 := x1) (g2 := x2) (g3 := x3) (g4 := x4) (g5 := x5) MX.out)) (by rw [← ES.out]; exact I1.out.mono hsz)
      rw [← ES.out, ← EP.out, ← EQ.out, ← ED.out] at cs
      obtain ⟨F', c1, c2, c3⟩ := cs _ rfl
      go_roundw
      case rel => exact ⟨k + 1, by omega, by go_num, ⟨F', c1, c2⟩, c3⟩
      case measure => simp [intOf]; omega
    · have e : k = n := by omega
      subst e
      clear hs hr hb
      go_wp2
      go_ret
      have hl := HL.out
      refine ⟨_, rfl, fun u h1 h2 => ?_, HB.out⟩
      exact ⟨made_obf (L := w.heap.size) hl (rowIs_same HR.out (Nat.le_refl _) h1) ((HP.out.mono (by omega)).same h1 h2), fun U hU => made_to (L := w.heap.size) hl hK hU (rowIs_same HR.out (Nat.le_refl _) h1) ((HP.out.mono (by omega)).same h1 h2)⟩

set_option maxHeartbeats 800000 in
theorem toSystem_f (sg : Int) (eo xo : Option Addr) (en ec xn xc : Nat) (es : List ObD) (xs : List (Int × Int)) (K : Nat) (w : World) (hK : K ≤ w.heap.size) (fe : FitsObs es) (fx : xn ≤ 1048576) (he : ObsOf w eo en es) (hx : ItemsOf w xo xn xs) :
    Calls Tryz.prog 9 #[.agg #[.int .i64 sg, .slice eo en ec, .slice xo xn xc]] w fun e w' => ∃ g1 g2, e = .returned (.agg #[.int .i64 sg, .slice (some ⟨g1, 0, none⟩) en en, .slice (some ⟨g2, 0, none⟩) xn xn]) ∧
      (ObsOf w' (some ⟨g1, 0, none⟩) en es ∧ ItemsOf w' (some ⟨g2, 0, none⟩) xn xs) ∧ (TO w' K w'.heap.size (.slice (some ⟨g1, 0, none⟩) en en) es ∧ TN w' K w'.heap.size 115 2 (.slice (some ⟨g2, 0, none⟩) xn xn) xn) ∧ Below w.heap.size w w' := by
  have HS : Hid (∀ w', Below w.heap.size w w' → ObsOf w' eo en es ∧ ItemsOf w' xo xn xs) := fun w' h => ⟨he.below h, hx.below h⟩
  have HN := hid hx.1
  have CO := hid (fun W (hh : K ≤ W.heap.size) h => toObjectS_f eo en ec es K W hh fe h)
  have CT := hid (fun w h => toTimerS_any xo xn xc xs w fx h)
  clear he hx
  go_enter Tryz.func9, Tryz.ntmps9
  go_wp2_with (first
    | (go_at_call 34; refine (CO.out _ (by simp; omega) (HS.out _ (below3 _ _ _ _)).1).mono ?_; rintro e w1 ⟨g1, rfl, hl1, hb1⟩; have hz := hb1.size; simp only [World.size_alloc] at hz hl1; obtain ⟨hc, hf⟩ := bcell2 hb1; have L1 := hid hl1; have B1 := hid ((below3 _ _ _ _).trans (hb1.mono (by simp; omega))); clear hl1 hb1; have hza : w.heap.size + 1 + 1 < w1.heap.size := (by omega); have hzb : w.heap.size + 1 < w1.heap.size := (by omega); have hzc : w.heap.size < w1.heap.size := (by omega))
    | (go_at_call 35; refine (CT.out _ (HS.out _ (below_set B1.out (by omega))).2).mono ?_; rintro e w2 ⟨rfl, hr2, hb2⟩; have hz2 := hb2.size; simp only [World.size_setCell] at hz2 hr2; obtain ⟨hc2, hf2⟩ := bcell2 hb2; have R2 := hid hr2; have B2 := hid hb2; have B2w := hid ((below_set B1.out (by omega)).trans (hb2.mono (by simp; omega))); clear hr2 hb2; have hza2 : w.heap.size + 1 + 1 < w2.heap.size := (by omega); have hzb2 : w.heap.size + 1 < w2.heap.size := (by omega)))
  refine bodyPost_ret (v := .agg #[.int .i64 sg, .slice (some ⟨g1, 0, none⟩) en en, .slice (some ⟨w1.heap.size, 0, none⟩) xn xn]) (by simp [results, Tryz.results9, go_sem, hc, hc2, hzb]) rfl ⟨g1, _, rfl, ?_, ?_, ?_⟩
  · refine ⟨(Lasts.now (L := w.heap.size + 1 + 1 + 1) (P := fun u => ObsOf u (some ⟨g1, 0, none⟩) en es ∧ ∀ U, u.heap.size ≤ U → TO u K U (.slice (some ⟨g1, 0, none⟩) en en) es) ?_).1, ?_⟩
    · repeat refine Lasts.set ?_ (by omega) _
      refine Lasts.below ?_ B2.out
      repeat refine Lasts.set ?_ (by omega) _
      exact L1.out
    · have a2 : Lasts w1.heap.size w2 (fun u => ItemsOf u (some ⟨w1.heap.size, 0, none⟩) xn xs) := fun u h1 h2 => ItemsOf.rowTimer HN.out (rowIs_same R2.out (Nat.le_refl _) h1)
      refine Lasts.now (L := w1.heap.size) (P := fun u => ItemsOf u (some ⟨w1.heap.size, 0, none⟩) xn xs) ?_
      repeat refine Lasts.set ?_ (by omega) _
      exact a2
  · refine ⟨(Lasts.now (L := w.heap.size + 1 + 1 + 1) (P := fun u => ObsOf u (some ⟨g1, 0, none⟩) en es ∧ ∀ U, u.heap.size ≤ U → TO u K U (.slice (some ⟨g1, 0, none⟩) en en) es) ?_).2 _ (Nat.le_refl _), ?_⟩
    · repeat refine Lasts.set ?_ (by omega) _
      refine Lasts.below ?_ B2.out
      repeat refine Lasts.set ?_ (by omega) _
      exact L1.out
    · have a2 : Lasts w1.heap.size w2 (fun u => NF u K 115 2 (some ⟨w1.heap.size, 0, none⟩) xn) := fun u h1 h2 => ⟨_, _, by omega, rfl, rowIs_same R2.out (Nat.le_refl _) h1, fun j _ => by unfold icell; split <;> exact ⟨_, rfl⟩⟩
      refine NF.tn (Lasts.now (L := w1.heap.size) (P := fun u => NF u K 115 2 (some ⟨w1.heap.size, 0, none⟩) xn) ?_) (Nat.le_refl _)
      repeat refine Lasts.set ?_ (by omega) _
      exact a2
  · repeat refine below_set ?_ (by omega)
    exact B2w.out
end Go.Proofs.YthaklmdhkkfigaaGreat
