import Derived.Test.YtkcbomhhdfgihaaGreatK1
namespace Go.Proofs.YtkcbomhhdfgihaaGreat
open Go.RowKit Go.Sort

/-- The first k of a row of numbers, added. -/
def sumTo (f : Nat → Nat) : Nat → Nat
  | 0 => 0
  | k + 1 => sumTo f k + f k
theorem sumTo_le (f : Nat → Nat) {k n : Nat} (h : k ≤ n) : sumTo f k ≤ sumTo f n := by
  induction n with
  | zero => rw [Nat.le_zero.1 h]; exact Nat.le_refl _
  | succ n ih =>
    by_cases e : k = n + 1
    · rw [e]; exact Nat.le_refl _
    · exact Nat.le_trans (ih (by omega)) (Nat.le_add_right _ _)
theorem sumTo_step (f : Nat → Nat) {k m : Nat} (h : f k = m) : sumTo f (k + 1) = sumTo f k + m := by rw [← h]; rfl
theorem le_sumTo (f : Nat → Nat) {k n : Nat} (h : k < n) : f k ≤ sumTo f n := Nat.le_trans (Nat.le_add_left _ _) (sumTo_le f (show k + 1 ≤ n from h))

/-- What a size's count answers: what is left, or -1. -/
def szOut (left : Int) (wt : Nat) : Int := if left < wt then -1 else left - wt

/-- A list's entry as data. -/
structure StmD where
  kind : Int
  a : Int
  b : Int
  code : List (Int × Int)
def stm0 : StmD := ⟨0, 0, 0, []⟩

def StmAt (w : World) (b o : Nat) (s : StmD) : Prop :=
  w.cell? ⟨b, o, none⟩ = some (.int .i64 s.kind) ∧ w.cell? ⟨b, o + 1, none⟩ = some (.int .i64 s.a) ∧ w.cell? ⟨b, o + 2, none⟩ = some (.int .i64 s.b) ∧
    ∃ co cn cc, w.cell? ⟨b, o + 3, none⟩ = some (.slice co cn cc) ∧ cn ≤ 9223372036854775807 ∧ ItemsOf w co cn s.code
def StmsOf (w : World) (ao : Option Addr) (n : Nat) (ss : List StmD) : Prop :=
  ss.length = n ∧ (0 < n → ∃ b off, ao = some ⟨b, off, none⟩ ∧ b < w.heap.size ∧ ∀ i, i < n → StmAt w b (off + i * 4) (ss.getD i stm0))

theorem ItemsOf.lift {B : Nat} {w0 w w' : World} {ao : Option Addr} {n : Nat} {its : List (Int × Int)} (h : ItemsOf w ao n its) (h0 : w.heap.size ≤ B) (hb : Below B w0 w') (hs : Below w.heap.size w w0) : ItemsOf w' ao n its :=
  h.below (hs.trans (hb.mono h0))
theorem StmAt.below {w w' : World} {b o : Nat} {s : StmD} (h : StmAt w b o s) (hlt : b < w.heap.size) (hb : Below w.heap.size w w') : StmAt w' b o s := by
  obtain ⟨h1, h2, h3, co, cn, cc, h4, h5, h6⟩ := h
  exact ⟨(hb.cell (p := ⟨b, o, none⟩) hlt).trans h1, (hb.cell (p := ⟨b, o + 1, none⟩) hlt).trans h2, (hb.cell (p := ⟨b, o + 2, none⟩) hlt).trans h3, co, cn, cc, (hb.cell (p := ⟨b, o + 3, none⟩) hlt).trans h4, h5, h6.below hb⟩
theorem StmsOf.below {w w' : World} {ao : Option Addr} {n : Nat} {ss : List StmD} (h : StmsOf w ao n ss) (hb : Below w.heap.size w w') : StmsOf w' ao n ss :=
  ⟨h.1, fun hn => by
    obtain ⟨b, off, e, hlt, hc⟩ := h.2 hn
    exact ⟨b, off, e, Nat.lt_of_lt_of_le hlt hb.size, fun i hi => (hc i hi).below hlt hb⟩⟩

/-- How much a list of statements weighs. -/
def wStms (ss : List StmD) : Nat := ss.length + sumTo (fun i => (ss.getD i stm0).code.length) ss.length

set_option maxHeartbeats 400000 in
theorem szStm_any (k a b : Int) (co : Option Addr) (cn cc : Nat) (left : Int) (w : World) (hn : cn ≤ 9223372036854775807) (h0 : 0 ≤ left) (h1 : left ≤ 1048576) :
    Calls Tryz.prog 134 #[.agg #[.int .i64 k, .int .i64 a, .int .i64 b, .slice co cn cc], .int .i64 left] w fun e w' => e = .returned (.int .i64 (szOut left cn)) ∧ Below w.heap.size w w' := by
  have C := hid (fun w => szItemS_any co cn cc left w hn h0 h1)
  by_cases h : left < cn
  · have E : Hid (szOut left cn = -1) := hid (if_pos h)
    rw [if_pos h] at C
    rw [E.out]
    go_enter Tryz.func134, Tryz.ntmps134
    go_wp2_with (go_at_call 126; refine (C.out _).mono ?_; rintro e w1 ⟨rfl, hw⟩; obtain rfl := hw.symm)
    go_ret
    exact ⟨rfl, below1 _ _⟩
  · have E : Hid (szOut left cn = left - cn) := hid (if_neg h)
    rw [if_neg h] at C
    rw [E.out]
    go_enter Tryz.func134, Tryz.ntmps134
    go_wp2_with (go_at_call 126; refine (C.out _).mono ?_; rintro e w1 ⟨rfl, hw⟩; obtain rfl := hw.symm)
    go_ret
    exact ⟨rfl, below1 _ _⟩

set_option maxHeartbeats 800000 in
theorem szStmS_any (ao : Option Addr) (n c : Nat) (ss : List StmD) (lft : Int) (w : World) (hn : n ≤ 9223372036854775807) (g0 : 0 ≤ lft) (g1 : lft ≤ 1048576) (hs : StmsOf w ao n ss) :
    Calls Tryz.prog 125 #[.slice ao n c, .int .i64 lft] w fun e w' => e = .returned (.int .i64 (szOut lft (wStms ss))) ∧ Below w.heap.size w w' := by
  have HL := hid hs.1
  by_cases h : lft - n < 0
  · have E : Hid (szOut lft (wStms ss) = -1) := hid (if_pos (by unfold wStms; rw [HL.out]; omega))
    rw [E.out]
    clear hs
    go_enter Tryz.func125, Tryz.ntmps125
    go_wp2
    go_ret
    exact ⟨rfl, Below.refl _ _⟩
  · have hn' : n ≤ 1048576 := by omega
    go_enter Tryz.func125, Tryz.ntmps125
    go_wp2
    go_loopw [1, 5] (fun l i wr => ∃ (k : Nat) (left : Int), k ≤ n ∧ i = .int .i64 k ∧ l = .int .i64 left ∧ 0 ≤ left ∧ left ≤ 1048576 ∧ Hid (left = lft - n - (sumTo (fun i => (ss.getD i stm0).code.length) k : Nat)) ∧ Below w.heap.size w wr) (fun _ i _ => n - (intOf i).toNat)
    case atStart => exact ⟨0, _, Nat.zero_le _, rfl, rfl, by omega, by omega, hid (by simp [sumTo]), Below.refl _ _⟩
    case round =>
      obtain ⟨k, left, hk, rfl, rfl, hl0, hl1, HP, hb⟩ := hrel
      have HB := hid hb
      by_cases hlt : k < n
      · obtain ⟨b, off, rfl, hbl, hc⟩ := hs.2 (by omega)
        obtain ⟨s, es⟩ : ∃ s, s = ss.getD k stm0 := ⟨_, rfl⟩
        have hk4 := hc k hlt
        rw [← es] at hk4
        obtain ⟨x1, x2, x3, co, cn, cc, x4, hcn, hit⟩ := hk4
        have k1 := (hb.cell (p := ⟨b, off + k * 4, none⟩) hbl).trans x1
        have k2 := (hb.cell (p := ⟨b, off + k * 4 + 1, none⟩) hbl).trans x2
        have k3 := (hb.cell (p := ⟨b, off + k * 4 + 2, none⟩) hbl).trans x3
        have k4 := (hb.cell (p := ⟨b, off + k * 4 + 3, none⟩) hbl).trans x4
        have EL : Hid (s.code.length = cn) := hit.1
        have ES : Hid (sumTo (fun i => (ss.getD i stm0).code.length) (k + 1) = sumTo (fun i => (ss.getD i stm0).code.length) k + cn) := hid (sumTo_step _ (by show (ss.getD k stm0).code.length = cn; rw [← es]; exact EL.out))
        have EM : Hid (sumTo (fun i => (ss.getD i stm0).code.length) (k + 1) ≤ sumTo (fun i => (ss.getD i stm0).code.length) n) := hid (sumTo_le _ hlt)
        have C := hid (fun w => szStm_any s.kind s.a s.b co cn cc left w hcn hl0 hl1)
        clear hc hs hb es x1 x2 x3 x4 hit
        by_cases hneg : left < cn
        · have E2 : Hid (szOut left cn = -1) := hid (if_pos hneg)
          rw [E2.out] at C
          go_wp2_with (go_at_call 134; refine (C.out _).mono ?_; rintro e w1 ⟨rfl, hb1⟩; have B1 := hid hb1; clear hb1)
          go_ret
          have h1 := HP.out
          have h2 := ES.out
          have h3 := EM.out
          refine ⟨ret_int (Eq.symm (if_pos ?_)), HB.out.trans (B1.out.mono HB.out.size)⟩
          unfold wStms
          rw [HL.out]
          omega
        · have E2 : Hid (szOut left cn = left - cn) := hid (if_neg hneg)
          have hnn : ¬ left - cn < 0 := by omega
          rw [E2.out] at C
          go_wp2_with (go_at_call 134; refine (C.out _).mono ?_; rintro e w1 ⟨rfl, hb1⟩; have B1 := hid hb1; clear hb1)
          go_roundw
          case rel =>
            have h1 := HP.out
            have h2 := ES.out
            exact ⟨k + 1, left - cn, by omega, by go_num, rfl, by omega, by omega, hid (by rw [h1, h2]; omega), HB.out.trans (B1.out.mono HB.out.size)⟩
          case measure => simp [intOf]; omega
      · have e : k = n := by omega
        subst e
        clear hs hb
        go_wp2
        go_ret
        have h1 := HP.out
        refine ⟨ret_int ?_, HB.out⟩
        unfold szOut wStms
        rw [HL.out, if_neg (by omega)]
        omega

/-- Blocks from L on that were there are as they were. -/
def Same (L : Nat) (w w' : World) : Prop := ∀ k, L ≤ k → k < w.heap.size → w'.heap[k]? = w.heap[k]?
theorem Same.of_below {L : Nat} {w w' : World} (h : Below w.heap.size w w') : Same L w w' := fun k _ hk => h.block k hk
theorem Same.set {L : Nat} (w : World) {B o : Nat} (h : B < L) (u : Value) : Same L w (w.setCell ⟨B, o, none⟩ u) := fun k hk _ => Below.heap_setCell _ _ _ _ (by simp; omega)

/-- A row of items that was made: its block, from L on, bears their type. -/
def IRow (w : World) (L : Nat) (v : Value) (its : List (Int × Int)) : Prop :=
  ∃ g, L ≤ g ∧ v = .slice (some ⟨g, 0, none⟩) its.length its.length ∧ w.rowIs g 146 (its.length * 2) (icell its)
theorem rowIs_same {L : Nat} {w w' : World} {g : Nat} {t : TypeId} {n : Nat} {F : Nat → Value} (h : w.rowIs g t n F) (hg : L ≤ g) (hs : Same L w w') : w'.rowIs g t n F := h.of_block (hs g hg h.lt)
theorem IRow.same {w w' : World} {L : Nat} {v : Value} {its : List (Int × Int)} (h : IRow w L v its) (hs : Same L w w') : IRow w' L v its := by
  obtain ⟨g, hg, e, hr⟩ := h
  exact ⟨g, hg, e, rowIs_same hr hg hs⟩
theorem IRow.mono {w : World} {L L' : Nat} {v : Value} {its : List (Int × Int)} (h : IRow w L v its) (hl : L' ≤ L) : IRow w L' v its := by
  obtain ⟨g, hg, e, hr⟩ := h
  exact ⟨g, Nat.le_trans hl hg, e, hr⟩
theorem IRow.items {w : World} {L : Nat} {v : Value} {its : List (Int × Int)} (h : IRow w L v its) : ∃ g, v = .slice (some ⟨g, 0, none⟩) its.length its.length ∧ ItemsOf w (some ⟨g, 0, none⟩) its.length its := by
  obtain ⟨g, hg, e, hr⟩ := h
  exact ⟨g, e, ItemsOf.row rfl hr⟩

def SCells (w : World) (L : Nat) (F : Nat → Value) (ss : List StmD) (k : Nat) : Prop :=
  ∀ i, i < k → F (i * 4) = .int .i64 (ss.getD i stm0).kind ∧ F (i * 4 + 1) = .int .i64 (ss.getD i stm0).a ∧ F (i * 4 + 2) = .int .i64 (ss.getD i stm0).b ∧ IRow w L (F (i * 4 + 3)) (ss.getD i stm0).code
theorem SCells.same {w w' : World} {L : Nat} {F : Nat → Value} {ss : List StmD} {k : Nat} (h : SCells w L F ss k) (hs : Same L w w') : SCells w' L F ss k := fun i hi => ⟨(h i hi).1, (h i hi).2.1, (h i hi).2.2.1, (h i hi).2.2.2.same hs⟩
theorem SCells.mono {w : World} {L L' : Nat} {F : Nat → Value} {ss : List StmD} {k : Nat} (h : SCells w L F ss k) (hl : L' ≤ L) : SCells w L' F ss k := fun i hi => ⟨(h i hi).1, (h i hi).2.1, (h i hi).2.2.1, (h i hi).2.2.2.mono hl⟩
/-- A row of statements that was made. -/
def SRow (w : World) (L : Nat) (v : Value) (ss : List StmD) : Prop :=
  ∃ g F, L ≤ g ∧ v = .slice (some ⟨g, 0, none⟩) ss.length ss.length ∧ w.rowIs g 143 (ss.length * 4) F ∧ SCells w L F ss ss.length
theorem SRow.same {w w' : World} {L : Nat} {v : Value} {ss : List StmD} (h : SRow w L v ss) (hs : Same L w w') : SRow w' L v ss := by
  obtain ⟨g, F, hg, e, hr, hc⟩ := h
  exact ⟨g, F, hg, e, rowIs_same hr hg hs, hc.same hs⟩
theorem SRow.mono {w : World} {L L' : Nat} {v : Value} {ss : List StmD} (h : SRow w L v ss) (hl : L' ≤ L) : SRow w L' v ss := by
  obtain ⟨g, F, hg, e, hr, hc⟩ := h
  exact ⟨g, F, Nat.le_trans hl hg, e, hr, hc.mono hl⟩
theorem SRow.stms {w : World} {L : Nat} {v : Value} {ss : List StmD} (h : SRow w L v ss) (hle : ∀ i, i < ss.length → (ss.getD i stm0).code.length ≤ 9223372036854775807) : ∃ g, v = .slice (some ⟨g, 0, none⟩) ss.length ss.length ∧ StmsOf w (some ⟨g, 0, none⟩) ss.length ss := by
  obtain ⟨g, F, hg, e, hr, hc⟩ := h
  refine ⟨g, e, rfl, fun _ => ⟨g, 0, rfl, hr.lt, fun i hi => ?_⟩⟩
  obtain ⟨h1, h2, h3, h4⟩ := hc i hi
  obtain ⟨q, e4, hit⟩ := h4.items
  refine ⟨?_, ?_, ?_, some ⟨q, 0, none⟩, (ss.getD i stm0).code.length, (ss.getD i stm0).code.length, ?_, hle i hi, hit⟩
  · rw [← h1]; simpa using hr.cell (i := i * 4) (by omega)
  · rw [← h2]; simpa using hr.cell (i := i * 4 + 1) (by omega)
  · rw [← h3]; simpa using hr.cell (i := i * 4 + 2) (by omega)
  · rw [← e4]; simpa using hr.cell (i := i * 4 + 3) (by omega)

theorem run_make_quads (t e : TypeId) (z0 z1 z2 z3 : Value) (bytes : Nat) (ht : Tryz.prog.underlying t = some (.slice e)) (hinfo : (Tryz.prog.info? e).map (fun i => (i.zero, i.size, i.bytes)) = some (some (.agg #[z0, z1, z2, z3]), 4, bytes))
    (kl kc : IntKind) (n : Nat) (hbytes : bytes * n ≤ 281474976710656) (h63 : n ≤ 9223372036854775807) (w : World) :
    (Instr.makeSlice t (.int kl (n : Int)) (.int kc (n : Int))).run Tryz.prog w = .ok (.slice (some ⟨w.heap.size, 0, none⟩) n n) (w.alloc (.cells (madeCells #[z0, z1, z2, z3] (n * 4)) e)) := by
  obtain ⟨i, hi, hzz⟩ := Option.map_eq_some_iff.1 hinfo
  simp only [Prod.mk.injEq] at hzz
  obtain ⟨hz, hs, hb⟩ := hzz
  have hb' : (i.bytes : Int) * (n : Int) ≤ 281474976710656 := by
    have h : ((i.bytes * n : Nat) : Int) ≤ 281474976710656 := by rw [hb]; omega
    rwa [Int.natCast_mul] at h
  have hr := run_make (P := Tryz.prog) w t e i (.agg #[z0, z1, z2, z3]) ht hi hz kl kc n n (by omega) (Int.le_refl _) hb' (by omega)
  simp only [Int.toNat_natCast, hs] at hr
  exact hr
theorem infoStm : (Tryz.prog.info? 143).map (fun i => (i.zero, i.size, i.bytes)) = some (some (.agg #[.int .i64 0, .int .i64 0, .int .i64 0, .slice none 0 0]), 4, 48) := by kernel_rfl
theorem rowIs_quads (w : World) (z0 z1 z2 z3 : Value) (n : Nat) (t : TypeId) : (w.alloc (.cells (madeCells #[z0, z1, z2, z3] (n * 4)) t)).rowIs w.heap.size t (n * 4) (fun i => #[z0, z1, z2, z3][i % 4]!) :=
  ⟨_, heap_alloc_new _ _, size_madeCells _ _, fun i hi => by simp [madeCells, hi]⟩
theorem below_set {w w1 : World} {H o : Nat} {v : Value} (h : Below w.heap.size w w1) (hH : w.heap.size ≤ H) : Below w.heap.size w (w1.setCell ⟨H, o, none⟩ v) := h.setCell hH _

set_option maxHeartbeats 400000 in
theorem toStm_any (k a b : Int) (co : Option Addr) (cn cc : Nat) (its : List (Int × Int)) (w : World) (hn : cn ≤ 1048576) (hs : ItemsOf w co cn its) :
    Calls Tryz.prog 135 #[.agg #[.int .i64 k, .int .i64 a, .int .i64 b, .slice co cn cc]] w fun e w' => ∃ g, e = .returned (.agg #[.int .i64 k, .int .i64 a, .int .i64 b, .slice (some ⟨g, 0, none⟩) cn cn]) ∧ IRow w' w.heap.size (.slice (some ⟨g, 0, none⟩) cn cn) its ∧ Below w.heap.size w w' := by
  have HS : Hid (∀ w', Below w.heap.size w w' → ItemsOf w' co cn its) := fun w' h => hs.below h
  clear hs
  go_enter Tryz.func135, Tryz.ntmps135
  go_wp2_with (go_at_call 128; refine (toItemS_any co cn cc its _ hn (HS.out _ (below3 _ _ _ _))).mono ?_; rintro e w1 ⟨rfl, hr1, hb1⟩; have hz := hr1.lt; simp only [World.size_alloc] at hz; obtain ⟨hc, hf⟩ := bcell2 hb1; have HR := hid hr1; have HB := hid hb1; clear hr1 hb1; have hza : w.heap.size + 1 + 1 < w1.heap.size := (by omega); have hzb : w.heap.size + 1 < w1.heap.size := (by omega))
  have r1 := HR.out
  simp only [World.size_alloc] at r1
  have b1 := HB.out
  simp only [World.size_alloc] at b1
  have hl := (HS.out _ (Below.refl _ _)).1
  have i0 : IRow w1 (w.heap.size + 1 + 1 + 1) (.slice (some ⟨w.heap.size + 1 + 1 + 1, 0, none⟩) cn cn) its := ⟨_, Nat.le_refl _, by rw [hl], by rw [hl]; exact r1⟩
  have i1 := (((((i0.same (Same.set _ (B := w.heap.size + 1 + 1) (o := 3) (by omega) (Value.slice (some ⟨w.heap.size + 1 + 1 + 1, 0, none⟩) cn cn))).same (Same.set _ (B := w.heap.size + 1) (o := 0) (by omega) (Value.int .i64 k))).same (Same.set _ (B := w.heap.size + 1) (o := 1) (by omega) (Value.int .i64 a))).same (Same.set _ (B := w.heap.size + 1) (o := 2) (by omega) (Value.int .i64 b))).same (Same.set _ (B := w.heap.size + 1) (o := 3) (by omega) (Value.slice (some ⟨w.heap.size + 1 + 1 + 1, 0, none⟩) cn cn)))
  refine bodyPost_ret (v := .agg #[.int .i64 k, .int .i64 a, .int .i64 b, .slice (some ⟨w.heap.size + 1 + 1 + 1, 0, none⟩) cn cn]) (by simp [results, Tryz.results135, go_sem, hc]) rfl ⟨_, rfl, i1.mono (by omega), ?_⟩
  exact below_set (below_set (below_set (below_set (below_set ((below3 _ _ _ _).trans (b1.mono (by omega))) (by omega)) (by omega)) (by omega)) (by omega)) (by omega)

theorem stm_step {w wr : World} {B n k : Nat} {F : Nat → Value} {ss : List StmD} {v : Value} (hr : wr.rowIs B 143 (n * 4) F) (hc : SCells wr (B + 1) F ss k) (hb : Below B w wr)
    (hi : IRow wr (B + 1) v (ss.getD k stm0).code) :
    ∃ F', ((((wr.setCell ⟨B, k * 4, none⟩ (.int .i64 (ss.getD k stm0).kind)).setCell ⟨B, k * 4 + 1, none⟩ (.int .i64 (ss.getD k stm0).a)).setCell ⟨B, k * 4 + 2, none⟩ (.int .i64 (ss.getD k stm0).b)).setCell ⟨B, k * 4 + 3, none⟩ v).rowIs B 143 (n * 4) F' ∧
      SCells ((((wr.setCell ⟨B, k * 4, none⟩ (.int .i64 (ss.getD k stm0).kind)).setCell ⟨B, k * 4 + 1, none⟩ (.int .i64 (ss.getD k stm0).a)).setCell ⟨B, k * 4 + 2, none⟩ (.int .i64 (ss.getD k stm0).b)).setCell ⟨B, k * 4 + 3, none⟩ v) (B + 1) F' ss (k + 1) ∧
      Below B w ((((wr.setCell ⟨B, k * 4, none⟩ (.int .i64 (ss.getD k stm0).kind)).setCell ⟨B, k * 4 + 1, none⟩ (.int .i64 (ss.getD k stm0).a)).setCell ⟨B, k * 4 + 2, none⟩ (.int .i64 (ss.getD k stm0).b)).setCell ⟨B, k * 4 + 3, none⟩ v) := by
  refine ⟨_, (((hr.set (k * 4) _).set (k * 4 + 1) _).set (k * 4 + 2) _).set (k * 4 + 3) _, ?_, (((hb.setCell (Nat.le_refl _) _).setCell (Nat.le_refl _) _).setCell (Nat.le_refl _) _).setCell (Nat.le_refl _) _⟩
  have hc' := (((hc.same (Same.set _ (o := k * 4) (Nat.lt_succ_self B) (.int .i64 (ss.getD k stm0).kind))).same (Same.set _ (o := k * 4 + 1) (Nat.lt_succ_self B) (.int .i64 (ss.getD k stm0).a))).same (Same.set _ (o := k * 4 + 2) (Nat.lt_succ_self B) (.int .i64 (ss.getD k stm0).b))).same (Same.set _ (o := k * 4 + 3) (Nat.lt_succ_self B) v)
  have hi' := (((hi.same (Same.set _ (o := k * 4) (Nat.lt_succ_self B) (.int .i64 (ss.getD k stm0).kind))).same (Same.set _ (o := k * 4 + 1) (Nat.lt_succ_self B) (.int .i64 (ss.getD k stm0).a))).same (Same.set _ (o := k * 4 + 2) (Nat.lt_succ_self B) (.int .i64 (ss.getD k stm0).b))).same (Same.set _ (o := k * 4 + 3) (Nat.lt_succ_self B) v)
  intro i hi
  by_cases e : i = k
  · subst e
    refine ⟨?_, ?_, ?_, ?_⟩
    · simp
    · simp
    · simp
    · simpa using hi'
  · obtain ⟨h1, h2, h3, h4⟩ := hc' i (by omega)
    refine ⟨?_, ?_, ?_, ?_⟩
    · dsimp only; rw [if_neg (by omega), if_neg (by omega), if_neg (by omega), if_neg (by omega)]; exact h1
    · dsimp only; rw [if_neg (by omega), if_neg (by omega), if_neg (by omega), if_neg (by omega)]; exact h2
    · dsimp only; rw [if_neg (by omega), if_neg (by omega), if_neg (by omega), if_neg (by omega)]; exact h3
    · dsimp only; rw [if_neg (by omega), if_neg (by omega), if_neg (by omega), if_neg (by omega)]; exact h4

set_option maxHeartbeats 800000 in
theorem toStmS_any (ao : Option Addr) (n c : Nat) (ss : List StmD) (w : World) (hn : n ≤ 1048576) (hcs : ∀ i, i < n → (ss.getD i stm0).code.length ≤ 1048576) (hs : StmsOf w ao n ss) :
    Calls Tryz.prog 127 #[.slice ao n c] w fun e w' => ∃ g, e = .returned (.slice (some ⟨g, 0, none⟩) n n) ∧ SRow w' w.heap.size (.slice (some ⟨g, 0, none⟩) n n) ss ∧ Below w.heap.size w w' := by
  have hmk := run_make_quads 112 143 (.int .i64 0) (.int .i64 0) (.int .i64 0) (.slice none 0 0) 48 Tryz.underlying112 infoStm .i64 .i64 n (by omega) (by omega)
  have HC := hid hcs
  have HL := hid hs.1
  clear hcs
  go_enter Tryz.func127, Tryz.ntmps127
  go_wp2
  go_loopw [4] (fun i wr => ∃ k : Nat, k ≤ n ∧ i = .int .i64 k ∧ (∃ F, wr.rowIs w.heap.size 143 (n * 4) F ∧ SCells wr (w.heap.size + 1) F ss k) ∧ Below w.heap.size w wr) (fun i _ => n - (intOf i).toNat)
  case atStart => exact ⟨0, Nat.zero_le _, rfl, ⟨_, rowIs_quads w _ _ _ _ n 143, fun i h => absurd h (by omega)⟩, (Below.refl _ _).alloc (Nat.le_refl _) _⟩
  case round =>
    obtain ⟨k, hk, rfl, ⟨F, hr, hcp⟩, hb⟩ := hrel
    have HR := hid hr
    have HB := hid hb
    have HP := hid hcp
    have hsz := hr.lt
    clear hcp
    by_cases hlt : k < n
    · obtain ⟨b, off, rfl, hbl, hc⟩ := hs.2 (by omega)
      obtain ⟨s, es⟩ : ∃ s, s = ss.getD k stm0 := ⟨_, rfl⟩
      have hk4 := hc k hlt
      rw [← es] at hk4
      obtain ⟨x1, x2, x3, co, cn, cc, x4, hcn, hit⟩ := hk4
      have k1 := (hb.cell (p := ⟨b, off + k * 4, none⟩) hbl).trans x1
      have k2 := (hb.cell (p := ⟨b, off + k * 4 + 1, none⟩) hbl).trans x2
      have k3 := (hb.cell (p := ⟨b, off + k * 4 + 2, none⟩) hbl).trans x3
      have k4 := (hb.cell (p := ⟨b, off + k * 4 + 3, none⟩) hbl).trans x4
      have hcn' : cn ≤ 1048576 := by have := HC.out k hlt; rw [← es, hit.1] at this; exact this
      have ES := hid es
      have HI : Hid (ItemsOf wr co cn s.code) := hid (hit.below hb)
      obtain ⟨kd, hkd⟩ : ∃ kd, kd = s.kind := ⟨_, rfl⟩
      obtain ⟨av, hav⟩ : ∃ av, av = s.a := ⟨_, rfl⟩
      obtain ⟨bv, hbv⟩ : ∃ bv, bv = s.b := ⟨_, rfl⟩
      rw [← hkd] at k1
      rw [← hav] at k2
      rw [← hbv] at k3
      have EK := hid hkd
      have EA := hid hav
      have EB := hid hbv
      clear hs hc hr hb x1 x2 x3 x4 hit es hcn hkd hav hbv
      go_wp2_with (go_at_call 135; refine (toStm_any kd av bv co cn cc s.code _ hcn' HI.out).mono ?_; rintro e w1 ⟨g, rfl, hi1, hb1⟩; have hr1 := HR.out.of_block (hb1.block _ hsz); have f0 := hr1.frozen (k * 4); have f1 := hr1.frozen (k * 4 + 1); have f2 := hr1.frozen (k * 4 + 2); have f3 := hr1.frozen (k * 4 + 3); have g0 := hr1.cell (i := k * 4) (by omega); have g1 := hr1.cell (i := k * 4 + 1) (by omega); have g2 := hr1.cell (i := k * 4 + 2) (by omega); have g3 := hr1.cell (i := k * 4 + 3) (by omega); have R1 := hid hr1; have I1 := hid hi1; have B1 := hid hb1; clear hr1 hi1 hb1)
      have cs := stm_step (ss := ss) (k := k) R1.out (HP.out.same (Same.of_below B1.out)) (HB.out.trans (B1.out.mono (Nat.le_of_lt hsz))) (v := .slice (some ⟨g, 0, none⟩) cn cn) (by rw [← ES.out]; exact I1.out.mono hsz)
      rw [← ES.out, ← EK.out, ← EA.out, ← EB.out] at cs
      obtain ⟨F', c1, c2, c3⟩ := cs
      go_roundw
      case rel => exact ⟨k + 1, by omega, by go_num, ⟨F', c1, c2⟩, c3⟩
      case measure => simp [intOf]; omega
    · have e : k = n := by omega
      subst e
      clear hs hr hb
      go_wp2
      go_ret
      have hl := HL.out
      exact ⟨_, rfl, ⟨w.heap.size, F, Nat.le_refl _, by rw [hl], by rw [hl]; exact HR.out, by rw [hl]; exact HP.out.mono (by omega)⟩, HB.out⟩

set_option maxHeartbeats 400000 in
theorem eqStm_same (k a b : Int) (co bo : Option Addr) (cn cc dc : Nat) (its : List (Int × Int)) (w : World) (hn : cn ≤ 1048576) (hx : ItemsOf w co cn its) (hy : ItemsOf w bo cn its) :
    Calls Tryz.prog 140 #[.agg #[.int .i64 k, .int .i64 a, .int .i64 b, .slice co cn cc], .agg #[.int .i64 k, .int .i64 a, .int .i64 b, .slice bo cn dc]] w fun e w' => e = .returned (.bool true) ∧ Below w.heap.size w w' := by
  have HX : Hid (∀ w', Below w.heap.size w w' → ItemsOf w' co cn its ∧ ItemsOf w' bo cn its) := fun w' h => ⟨hx.below h, hy.below h⟩
  clear hx hy
  go_enter Tryz.func140, Tryz.ntmps140
  go_wp2_with (go_at_call 133; refine (eqItemS_same co bo cn cc dc its _ hn (HX.out _ (below2 _ _ _)).1 (HX.out _ (below2 _ _ _)).2).mono ?_; rintro e w1 ⟨rfl, hb⟩; have HB := hid hb; clear hb)
  go_ret
  exact ⟨rfl, (below2 _ _ _).trans (HB.out.mono (by simp; omega))⟩

set_option maxHeartbeats 800000 in
theorem eqStmS_same (ao bo : Option Addr) (n c d : Nat) (ss : List StmD) (w : World) (hn : n ≤ 1048576) (hcs : ∀ i, i < n → (ss.getD i stm0).code.length ≤ 1048576) (hx : StmsOf w ao n ss) (hy : StmsOf w bo n ss) :
    Calls Tryz.prog 132 #[.slice ao n c, .slice bo n d] w fun e w' => e = .returned (.bool true) ∧ Below w.heap.size w w' := by
  have HC := hid hcs
  clear hcs
  go_enter Tryz.func132, Tryz.ntmps132
  go_wp2
  go_loopw [5] (fun i wr => ∃ k : Nat, k ≤ n ∧ i = .int .i64 k ∧ Below w.heap.size w wr) (fun i _ => n - (intOf i).toNat)
  case atStart => exact ⟨0, Nat.zero_le _, rfl, Below.refl _ _⟩
  case round =>
    obtain ⟨k, hk, rfl, hb⟩ := hrel
    have HB := hid hb
    by_cases hlt : k < n
    · obtain ⟨b, off, rfl, hbl, hc⟩ := hx.2 (by omega)
      obtain ⟨b2, off2, rfl, hbl2, hc2⟩ := hy.2 (by omega)
      have hi : (k : Int) < (n : Int) := by omega
      obtain ⟨x1, x2, x3, co, cn, cc, x4, hcn, hit⟩ := hc k hlt
      obtain ⟨y1, y2, y3, do_, dn, dc, y4, hdn, hit2⟩ := hc2 k hlt
      have hdn' : dn = cn := by rw [← hit2.1, hit.1]
      subst hdn'
      have hcn' : dn ≤ 1048576 := by have := HC.out k hlt; rw [hit.1] at this; exact this
      have j1 : Below w.heap.size w wr := hb
      have k1 := cell_regrown ((hb.cell (p := ⟨b, off + k * 4, none⟩) hbl).trans x1)
      have k2 := cell_regrown ((hb.cell (p := ⟨b, off + k * 4 + 1, none⟩) hbl).trans x2)
      have k3 := cell_regrown ((hb.cell (p := ⟨b, off + k * 4 + 2, none⟩) hbl).trans x3)
      have k4 := cell_regrown ((hb.cell (p := ⟨b, off + k * 4 + 3, none⟩) hbl).trans x4)
      have l1 := cell_regrown ((hb.cell (p := ⟨b2, off2 + k * 4, none⟩) hbl2).trans y1)
      have l2 := cell_regrown ((hb.cell (p := ⟨b2, off2 + k * 4 + 1, none⟩) hbl2).trans y2)
      have l3 := cell_regrown ((hb.cell (p := ⟨b2, off2 + k * 4 + 2, none⟩) hbl2).trans y3)
      have l4 := cell_regrown ((hb.cell (p := ⟨b2, off2 + k * 4 + 3, none⟩) hbl2).trans y4)
      obtain ⟨s, es⟩ : ∃ s, s = ss.getD k stm0 := ⟨_, rfl⟩
      rw [← es] at k1 k2 k3 l1 l2 l3 hit hit2
      have c47 : ∀ d os, Calls Tryz.prog 140 #[.agg #[.int .i64 s.kind, .int .i64 s.a, .int .i64 s.b, .slice co dn cc], .agg #[.int .i64 s.kind, .int .i64 s.a, .int .i64 s.b, .slice do_ dn dc]] (grow (redrawn wr d) os) fun e w'' => e = .returned (.bool true) ∧ ∃ p : Regrown, w'' = grow (redrawn wr p.d) p.os :=
        fun d os => Calls.regrown_of (eqStm_same s.kind s.a s.b co do_ dn cc dc s.code _ hcn' (hit.below (j1.trans ((below_regrown wr d os).mono j1.size))) (hit2.below (j1.trans ((below_regrown wr d os).mono j1.size))))
      obtain ⟨kd, hkd⟩ : ∃ kd, kd = s.kind := ⟨_, rfl⟩
      obtain ⟨av, hav⟩ : ∃ av, av = s.a := ⟨_, rfl⟩
      obtain ⟨bv, hbv⟩ : ∃ bv, bv = s.b := ⟨_, rfl⟩
      rw [← hkd] at k1 l1 c47
      rw [← hav] at k2 l2 c47
      rw [← hbv] at k3 l3 c47
      clear hx hy hc hc2 x1 x2 x3 x4 y1 y2 y3 y4 hit hit2 es j1 hb hkd hav hbv hcn hdn
      go_wp2
      refine wp_region_quiet_below (by kernel_rfl) (by kernel_rfl) ?_
      repeat (any_goals (first | go_big_quiet_step (first | exact c47 _ _) | quiet_step (first | exact c47 _ _)))
      refine wpQuiet_nil ?_
      intro _ hw'
      obtain ⟨⟨dq, osq⟩, hw''⟩ := hw'
      subst hw''
      go_wp2
      go_roundw
      case rel => exact ⟨k + 1, by omega, by go_num, HB.out.trans ((below_regrown wr dq osq).mono HB.out.size)⟩
      case measure => simp [intOf]; omega
    · have e : k = n := by omega
      subst e
      clear hx hy hb
      go_wp2
      go_ret
      exact ⟨rfl, HB.out⟩
end Go.Proofs.YtkcbomhhdfgihaaGreat
