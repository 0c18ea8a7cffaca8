import Derived.Test.YtdpejnacganadaaC1
namespace Go.Proofs.Ytdpejnacganadaa
open Go.RowKit Go.Sort

/-- A list's entry as data. -/
structure StmD where
  kind : Int
  a : Int
  b : Int
  code : List (Int × Int)
def stm0 : StmD := ⟨0, 0, 0, []⟩

def StmAt (w : World) (b o : Nat) (s : StmD) : Prop :=
  w.cell? ⟨b, o, none⟩ = some (.int .i64 s.kind) ∧ w.cell? ⟨b, o + 1, none⟩ = some (.int .i64 s.a) ∧ w.cell? ⟨b, o + 2, none⟩ = some (.int .i64 s.b) ∧
    ∃ co cn cc, w.cell? ⟨b, o + 3, none⟩ = some (.slice co cn cc) ∧ cn ≤ 9223372036854775807 ∧ ItemsOf w co cn s.code
def StmsOf (w : World) (ao : Option Addr) (n : Nat) (ss : List StmD) : Prop :=
  ss.length = n ∧ (0 < n → ∃ b off, ao = some ⟨b, off, none⟩ ∧ b < w.heap.size ∧ ∀ i, i < n → StmAt w b (off + i * 4) (ss.getD i stm0))

theorem StmAt.below {w w' : World} {b o : Nat} {s : StmD} (h : StmAt w b o s) (hlt : b < w.heap.size) (hb : Below w.heap.size w w') : StmAt w' b o s := by
  obtain ⟨h1, h2, h3, co, cn, cc, h4, h5, h6⟩ := h
  exact ⟨(hb.cell (p := ⟨b, o, none⟩) hlt).trans h1, (hb.cell (p := ⟨b, o + 1, none⟩) hlt).trans h2, (hb.cell (p := ⟨b, o + 2, none⟩) hlt).trans h3, co, cn, cc, (hb.cell (p := ⟨b, o + 3, none⟩) hlt).trans h4, h5, h6.below hb⟩
theorem StmsOf.below {w w' : World} {ao : Option Addr} {n : Nat} {ss : List StmD} (h : StmsOf w ao n ss) (hb : Below w.heap.size w w') : StmsOf w' ao n ss :=
  ⟨h.1, fun hn => by
    obtain ⟨b, off, e, hlt, hc⟩ := h.2 hn
    exact ⟨b, off, e, Nat.lt_of_lt_of_le hlt hb.size, fun i hi => (hc i hi).below hlt hb⟩⟩

set_option maxHeartbeats 400000 in
theorem szStm_any (k a b : Int) (co : Option Addr) (cn cc : Nat) (left : Int) (w : World) (hn : cn ≤ 9223372036854775807) (h0 : 0 ≤ left) (h1 : left ≤ 1048576) :
    Calls Try.prog 43 #[.agg #[.int .i64 k, .int .i64 a, .int .i64 b, .slice co cn cc], .int .i64 left] w fun e w' => ∃ r, e = .returned (.int .i64 r) ∧ (r < 0 ∨ (0 ≤ r ∧ r ≤ left ∧ cn ≤ 1048576)) ∧ Below w.heap.size w w' := by
  have C := hid (fun w => szItemS_any co cn cc left w hn h0 h1)
  by_cases h : left < cn
  · rw [if_pos h] at C
    go_enter Try.func43, Try.ntmps43
    go_wp2_with (go_at_call 12; refine (C.out _).mono ?_; rintro e w1 ⟨rfl, hw⟩; obtain rfl := hw.symm)
    go_ret
    exact ⟨_, rfl, .inl (by omega), below1 _ _⟩
  · rw [if_neg h] at C
    go_enter Try.func43, Try.ntmps43
    go_wp2_with (go_at_call 12; refine (C.out _).mono ?_; rintro e w1 ⟨rfl, hw⟩; obtain rfl := hw.symm)
    go_ret
    exact ⟨_, rfl, .inr ⟨by omega, by omega, by omega⟩, below1 _ _⟩

set_option maxHeartbeats 800000 in
theorem szStmS_any (ao : Option Addr) (n c : Nat) (ss : List StmD) (w : World) (hn : n ≤ 9223372036854775807) (hs : StmsOf w ao n ss) :
    Calls Try.prog 17 #[.slice ao n c, .int .i64 1048576] w fun e w' => ∃ r, e = .returned (.int .i64 r) ∧ (r < 0 ∨ (0 ≤ r ∧ n ≤ 1048576 ∧ ∀ i, i < n → (ss.getD i stm0).code.length ≤ 1048576)) ∧ Below w.heap.size w w' := by
  by_cases h : (1048576 : Int) - n < 0
  · clear hs
    go_enter Try.func17, Try.ntmps17
    go_wp2
    go_ret
    exact ⟨_, rfl, .inl (by omega), Below.refl _ _⟩
  · have hn' : n ≤ 1048576 := by omega
    go_enter Try.func17, Try.ntmps17
    go_wp2
    go_loopw [1, 5] (fun l i wr => ∃ (k : Nat) (left : Int), k ≤ n ∧ i = .int .i64 k ∧ l = .int .i64 left ∧ 0 ≤ left ∧ left ≤ 1048576 ∧ (∀ i, i < k → (ss.getD i stm0).code.length ≤ 1048576) ∧ Below w.heap.size w wr) (fun _ i _ => n - (intOf i).toNat)
    case atStart => exact ⟨0, _, Nat.zero_le _, rfl, rfl, by omega, by omega, fun i h => absurd h (by omega), Below.refl _ _⟩
    case round =>
      obtain ⟨k, left, hk, rfl, rfl, hl0, hl1, hp, hb⟩ := hrel
      have HP := hid hp
      have HB := hid hb
      clear hp
      by_cases hlt : k < n
      · obtain ⟨b, off, rfl, hbl, hc⟩ := hs.2 (by omega)
        obtain ⟨s, es⟩ : ∃ s, s = ss.getD k stm0 := ⟨_, rfl⟩
        have hk4 := hc k hlt
        rw [← es] at hk4
        obtain ⟨x1, x2, x3, co, cn, cc, x4, hcn, hit⟩ := hk4
        have k1 := (hb.cell (p := ⟨b, off + k * 4, none⟩) hbl).trans x1
        have k2 := (hb.cell (p := ⟨b, off + k * 4 + 1, none⟩) hbl).trans x2
        have k3 := (hb.cell (p := ⟨b, off + k * 4 + 2, none⟩) hbl).trans x3
        have k4 := (hb.cell (p := ⟨b, off + k * 4 + 3, none⟩) hbl).trans x4
        have EL : Hid (s.code.length = cn) := hit.1
        have ES := hid es
        have C := hid (fun w => szStm_any s.kind s.a s.b co cn cc left w hcn hl0 hl1)
        clear hc hs hb es x1 x2 x3 x4 hit
        go_wp2_with (go_at_call 43; refine (C.out _).mono ?_; rintro e w1 ⟨r, rfl, hr, hb1⟩; have HR := hid hr; have B1 := hid hb1; clear hr hb1)
        · go_ret
          exact ⟨-1, rfl, .inl (by omega), HB.out.trans (B1.out.mono HB.out.size)⟩
        · rename_i hneg
          have hr : 0 ≤ r ∧ r ≤ left ∧ cn ≤ 1048576 := by rcases HR.out with h | h <;> first | exact h | omega
          go_roundw
          case rel =>
            refine ⟨k + 1, r, by omega, by go_num, rfl, hr.1, by omega, fun i hi => ?_, HB.out.trans (B1.out.mono HB.out.size)⟩
            by_cases e : i = k
            · subst e; rw [← ES.out, EL.out]; exact hr.2.2
            · exact HP.out i (by omega)
          case measure => simp [intOf]; omega
      · have e : k = n := by omega
        subst e
        clear hs hb
        go_wp2
        go_ret
        exact ⟨_, rfl, .inr ⟨hl0, hn', HP.out⟩, HB.out⟩

theorem run_make_quads (t e : TypeId) (z0 z1 z2 z3 : Value) (bytes : Nat) (ht : Try.prog.underlying t = some (.slice e)) (hinfo : (Try.prog.info? e).map (fun i => (i.zero, i.size, i.bytes)) = some (some (.agg #[z0, z1, z2, z3]), 4, bytes))
    (kl kc : IntKind) (n : Nat) (hbytes : bytes * n ≤ 281474976710656) (h63 : n ≤ 9223372036854775807) (w : World) :
    (Instr.makeSlice t (.int kl (n : Int)) (.int kc (n : Int))).run Try.prog w = .ok (.slice (some ⟨w.heap.size, 0, none⟩) n n) (w.alloc (.cells (madeCells #[z0, z1, z2, z3] (n * 4)) e)) := by
  obtain ⟨i, hi, hzz⟩ := Option.map_eq_some_iff.1 hinfo
  simp only [Prod.mk.injEq] at hzz
  obtain ⟨hz, hs, hb⟩ := hzz
  have hb' : (i.bytes : Int) * (n : Int) ≤ 281474976710656 := by
    have h : ((i.bytes * n : Nat) : Int) ≤ 281474976710656 := by rw [hb]; omega
    rwa [Int.natCast_mul] at h
  have hr := run_make (P := Try.prog) w t e i (.agg #[z0, z1, z2, z3]) ht hi hz kl kc n n (by omega) (Int.le_refl _) hb' (by omega)
  simp only [Int.toNat_natCast, hs] at hr
  exact hr
theorem Try.info35 : (Try.prog.info? 35).map (fun i => (i.zero, i.size, i.bytes)) = some (some (.agg #[.int .i64 0, .int .i64 0, .int .i64 0, .slice none 0 0]), 4, 48) := by kernel_rfl
theorem rowIs_quads (w : World) (z0 z1 z2 z3 : Value) (n : Nat) (t : TypeId) : (w.alloc (.cells (madeCells #[z0, z1, z2, z3] (n * 4)) t)).rowIs w.heap.size t (n * 4) (fun i => #[z0, z1, z2, z3][i % 4]!) :=
  ⟨_, heap_alloc_new _ _, size_madeCells _ _, fun i hi => by simp [madeCells, hi]⟩

theorem below_set {w w1 : World} {H o : Nat} {v : Value} (h : Below w.heap.size w w1) (hH : w.heap.size ≤ H) : Below w.heap.size w (w1.setCell ⟨H, o, none⟩ v) := h.setCell hH _
theorem ItemsOf.setOther {w : World} {g n : Nat} {its : List (Int × Int)} (h : ItemsOf w (some ⟨g, 0, none⟩) n its) {B o : Nat} (hg : g ≠ B) (v : Value) : ItemsOf (w.setCell ⟨B, o, none⟩ v) (some ⟨g, 0, none⟩) n its :=
  ⟨h.1, fun hn => by
    obtain ⟨b, off, e, hlt, hc⟩ := h.2 hn
    simp at e
    obtain ⟨rfl, rfl⟩ := e
    have hcell : ∀ j, (w.setCell ⟨B, o, none⟩ v).cell? ⟨g, j, none⟩ = w.cell? ⟨g, j, none⟩ := fun j => World.cell?_of_block (w := w) (Below.heap_setCell _ _ _ _ (by simpa using hg))
    exact ⟨g, 0, rfl, by simpa using hlt, fun i hi => ⟨by rw [hcell]; exact (hc i hi).1, by rw [hcell]; exact (hc i hi).2⟩⟩⟩

set_option maxHeartbeats 400000 in
theorem toStm_any (k a b : Int) (co : Option Addr) (cn cc : Nat) (its : List (Int × Int)) (w : World) (hn : cn ≤ 1048576) (hs : ItemsOf w co cn its) :
    Calls Try.prog 47 #[.agg #[.int .i64 k, .int .i64 a, .int .i64 b, .slice co cn cc]] w fun e w' => ∃ g, w.heap.size ≤ g ∧ g < w'.heap.size ∧ e = .returned (.agg #[.int .i64 k, .int .i64 a, .int .i64 b, .slice (some ⟨g, 0, none⟩) cn cn]) ∧ ItemsOf w' (some ⟨g, 0, none⟩) cn its ∧ Below w.heap.size w w' := by
  have HS : Hid (∀ w', Below w.heap.size w w' → ItemsOf w' co cn its) := fun w' h => hs.below h
  clear hs
  go_enter Try.func47, Try.ntmps47
  go_wp2_with (go_at_call 14; refine (toItemS_any co cn cc its _ hn (HS.out _ (below3 _ _ _ _))).mono ?_; rintro e w1 ⟨rfl, hr1, hb1⟩; have hz := hr1.lt; simp only [World.size_alloc] at hz; obtain ⟨hc, hf⟩ := bcell2 hb1; have HR := hid hr1; have HB := hid hb1; clear hr1 hb1; have hza : w.heap.size + 1 + 1 < w1.heap.size := (by omega); have hzb : w.heap.size + 1 < w1.heap.size := (by omega))
  have r1 := HR.out
  simp only [World.size_alloc] at r1
  have b1 := HB.out
  simp only [World.size_alloc] at b1
  have i0 := ItemsOf.row (HS.out _ (Below.refl _ _)).1 r1
  have i1 := (((((i0.setOther (B := w.heap.size + 1 + 1) (o := 3) (by omega) (Value.slice (some ⟨w.heap.size + 1 + 1 + 1, 0, none⟩) cn cn)).setOther (B := w.heap.size + 1) (o := 0) (by omega) (Value.int .i64 k)).setOther (B := w.heap.size + 1) (o := 1) (by omega) (Value.int .i64 a)).setOther (B := w.heap.size + 1) (o := 2) (by omega) (Value.int .i64 b)).setOther (B := w.heap.size + 1) (o := 3) (by omega) (Value.slice (some ⟨w.heap.size + 1 + 1 + 1, 0, none⟩) cn cn))
  refine bodyPost_ret (v := .agg #[.int .i64 k, .int .i64 a, .int .i64 b, .slice (some ⟨w.heap.size + 1 + 1 + 1, 0, none⟩) cn cn]) (by simp [results, Try.results47, go_sem, hc]) rfl ⟨_, ?_, ?_, rfl, i1, ?_⟩
  · omega
  · simp only [World.size_setCell]; exact hz
  · exact below_set (below_set (below_set (below_set (below_set ((below3 _ _ _ _).trans (b1.mono (by omega))) (by omega)) (by omega)) (by omega)) (by omega)) (by omega)

/-- The row of the copies: what its cells hold, k of them laid. -/
def CopyRow (w : World) (B : Nat) (F : Nat → Value) (ss : List StmD) (k : Nat) : Prop :=
  ∀ i, i < k → F (i * 4) = .int .i64 (ss.getD i stm0).kind ∧ F (i * 4 + 1) = .int .i64 (ss.getD i stm0).a ∧ F (i * 4 + 2) = .int .i64 (ss.getD i stm0).b ∧
    ∃ g cn, F (i * 4 + 3) = .slice (some ⟨g, 0, none⟩) cn cn ∧ g ≠ B ∧ g < w.heap.size ∧ cn ≤ 1048576 ∧ ItemsOf w (some ⟨g, 0, none⟩) cn (ss.getD i stm0).code

theorem copy_below {w w' : World} {B : Nat} {F : Nat → Value} {ss : List StmD} {k : Nat} (h : CopyRow w B F ss k) (hb : Below w.heap.size w w') : CopyRow w' B F ss k := by
  intro i hi
  obtain ⟨h1, h2, h3, g, cn, h4, h5, h6, h7, h8⟩ := h i hi
  exact ⟨h1, h2, h3, g, cn, h4, h5, Nat.lt_of_lt_of_le h6 hb.size, h7, h8.below hb⟩
theorem copy_set {w : World} {B o : Nat} {F : Nat → Value} {ss : List StmD} {k : Nat} {v : Value} (h : CopyRow w B F ss k) : CopyRow (w.setCell ⟨B, o, none⟩ v) B F ss k := by
  intro i hi
  obtain ⟨h1, h2, h3, g, cn, h4, h5, h6, h7, h8⟩ := h i hi
  exact ⟨h1, h2, h3, g, cn, h4, h5, by simpa using h6, h7, h8.setOther h5 _⟩

theorem copy_step {w wr : World} {B n k g cn : Nat} {F : Nat → Value} {ss : List StmD} (hr : wr.rowIs B 35 (n * 4) F) (hc : CopyRow wr B F ss k) (hb : Below B w wr)
    (hg : g ≠ B) (hgl : g < wr.heap.size) (hcn : cn ≤ 1048576) (hi : ItemsOf wr (some ⟨g, 0, none⟩) cn (ss.getD k stm0).code) :
    ∃ F', ((((wr.setCell ⟨B, k * 4, none⟩ (.int .i64 (ss.getD k stm0).kind)).setCell ⟨B, k * 4 + 1, none⟩ (.int .i64 (ss.getD k stm0).a)).setCell ⟨B, k * 4 + 2, none⟩ (.int .i64 (ss.getD k stm0).b)).setCell ⟨B, k * 4 + 3, none⟩ (.slice (some ⟨g, 0, none⟩) cn cn)).rowIs B 35 (n * 4) F' ∧
      CopyRow ((((wr.setCell ⟨B, k * 4, none⟩ (.int .i64 (ss.getD k stm0).kind)).setCell ⟨B, k * 4 + 1, none⟩ (.int .i64 (ss.getD k stm0).a)).setCell ⟨B, k * 4 + 2, none⟩ (.int .i64 (ss.getD k stm0).b)).setCell ⟨B, k * 4 + 3, none⟩ (.slice (some ⟨g, 0, none⟩) cn cn)) B F' ss (k + 1) ∧
      Below B w ((((wr.setCell ⟨B, k * 4, none⟩ (.int .i64 (ss.getD k stm0).kind)).setCell ⟨B, k * 4 + 1, none⟩ (.int .i64 (ss.getD k stm0).a)).setCell ⟨B, k * 4 + 2, none⟩ (.int .i64 (ss.getD k stm0).b)).setCell ⟨B, k * 4 + 3, none⟩ (.slice (some ⟨g, 0, none⟩) cn cn)) := by
  refine ⟨_, (((hr.set (k * 4) _).set (k * 4 + 1) _).set (k * 4 + 2) _).set (k * 4 + 3) _, ?_, (((hb.setCell (Nat.le_refl _) _).setCell (Nat.le_refl _) _).setCell (Nat.le_refl _) _).setCell (Nat.le_refl _) _⟩
  have hc' := copy_set (o := k * 4 + 3) (v := .slice (some ⟨g, 0, none⟩) cn cn) (copy_set (o := k * 4 + 2) (v := .int .i64 (ss.getD k stm0).b) (copy_set (o := k * 4 + 1) (v := .int .i64 (ss.getD k stm0).a) (copy_set (o := k * 4) (v := .int .i64 (ss.getD k stm0).kind) hc)))
  have hi' := (((hi.setOther (o := k * 4) hg (.int .i64 (ss.getD k stm0).kind)).setOther (o := k * 4 + 1) hg (.int .i64 (ss.getD k stm0).a)).setOther (o := k * 4 + 2) hg (.int .i64 (ss.getD k stm0).b)).setOther (o := k * 4 + 3) hg (.slice (some ⟨g, 0, none⟩) cn cn)
  intro i hi
  by_cases e : i = k
  · subst e
    refine ⟨?_, ?_, ?_, g, cn, ?_, hg, by simpa using hgl, hcn, hi'⟩
    · simp
    · simp
    · simp
    · simp
  · obtain ⟨h1, h2, h3, g', cn', h4, h5, h6, h7, h8⟩ := hc' i (by omega)
    refine ⟨?_, ?_, ?_, g', cn', ?_, h5, h6, h7, h8⟩
    · dsimp only; rw [if_neg (by omega), if_neg (by omega), if_neg (by omega), if_neg (by omega)]; exact h1
    · dsimp only; rw [if_neg (by omega), if_neg (by omega), if_neg (by omega), if_neg (by omega)]; exact h2
    · dsimp only; rw [if_neg (by omega), if_neg (by omega), if_neg (by omega), if_neg (by omega)]; exact h3
    · dsimp only; rw [if_neg (by omega), if_neg (by omega), if_neg (by omega), if_neg (by omega)]; exact h4

theorem StmsOf.row {w : World} {B n : Nat} {F : Nat → Value} {ss : List StmD} (hz : ss.length = n) (hr : w.rowIs B 35 (n * 4) F) (hc : CopyRow w B F ss n) : StmsOf w (some ⟨B, 0, none⟩) n ss :=
  ⟨hz, fun _ => ⟨B, 0, rfl, hr.lt, fun i hi => by
    obtain ⟨h1, h2, h3, g, cn, h4, h5, h6, h7, h8⟩ := hc i hi
    refine ⟨?_, ?_, ?_, some ⟨g, 0, none⟩, cn, cn, ?_, by omega, h8⟩
    · rw [← h1]; simpa using hr.cell (i := i * 4) (by omega)
    · rw [← h2]; simpa using hr.cell (i := i * 4 + 1) (by omega)
    · rw [← h3]; simpa using hr.cell (i := i * 4 + 2) (by omega)
    · rw [← h4]; simpa using hr.cell (i := i * 4 + 3) (by omega)⟩⟩

set_option maxHeartbeats 800000 in
theorem toStmS_any (ao : Option Addr) (n c : Nat) (ss : List StmD) (w : World) (hn : n ≤ 1048576) (hcs : ∀ i, i < n → (ss.getD i stm0).code.length ≤ 1048576) (hs : StmsOf w ao n ss) :
    Calls Try.prog 19 #[.slice ao n c] w fun e w' => ∃ g, e = .returned (.slice (some ⟨g, 0, none⟩) n n) ∧ StmsOf w' (some ⟨g, 0, none⟩) n ss ∧ Below w.heap.size w w' := by
  have hmk := run_make_quads 36 35 (.int .i64 0) (.int .i64 0) (.int .i64 0) (.slice none 0 0) 48 Try.underlying36 Try.info35 .i64 .i64 n (by omega) (by omega)
  have HC := hid hcs
  have HL := hid hs.1
  clear hcs
  go_enter Try.func19, Try.ntmps19
  go_wp2
  go_loopw [4] (fun i wr => ∃ k : Nat, k ≤ n ∧ i = .int .i64 k ∧ (∃ F, wr.rowIs w.heap.size 35 (n * 4) F ∧ CopyRow wr w.heap.size F ss k) ∧ Below w.heap.size w wr) (fun i _ => n - (intOf i).toNat)
  case atStart => exact ⟨0, Nat.zero_le _, rfl, ⟨_, rowIs_quads w _ _ _ _ n 35, fun i h => absurd h (by omega)⟩, (Below.refl _ _).alloc (Nat.le_refl _) _⟩
  case round =>
    obtain ⟨k, hk, rfl, ⟨F, hr, hcp⟩, hb⟩ := hrel
    have HR := hid hr
    have HB := hid hb
    have HP := hid hcp
    have hsz := hr.lt
    clear hcp
    by_cases hlt : k < n
    · obtain ⟨b, off, rfl, hbl, hc⟩ := hs.2 (by omega)
      obtain ⟨s, es⟩ : ∃ s, s = ss.getD k stm0 := ⟨_, rfl⟩
      have hk4 := hc k hlt
      rw [← es] at hk4
      obtain ⟨x1, x2, x3, co, cn, cc, x4, hcn, hit⟩ := hk4
      have k1 := (hb.cell (p := ⟨b, off + k * 4, none⟩) hbl).trans x1
      have k2 := (hb.cell (p := ⟨b, off + k * 4 + 1, none⟩) hbl).trans x2
      have k3 := (hb.cell (p := ⟨b, off + k * 4 + 2, none⟩) hbl).trans x3
      have k4 := (hb.cell (p := ⟨b, off + k * 4 + 3, none⟩) hbl).trans x4
      have hcn' : cn ≤ 1048576 := by have := HC.out k hlt; rw [← es, hit.1] at this; exact this
      have ES := hid es
      have HI : Hid (ItemsOf wr co cn s.code) := by
        refine ⟨hit.1, fun h0 => ?_⟩
        obtain ⟨b', off', e', hl', hc'⟩ := hit.2 h0
        exact ⟨b', off', e', Nat.lt_of_lt_of_le hl' hb.size, fun i hi => ⟨(hb.cell (p := ⟨b', off' + i * 2, none⟩) hl').trans (hc' i hi).1, (hb.cell (p := ⟨b', off' + i * 2 + 1, none⟩) hl').trans (hc' i hi).2⟩⟩
      obtain ⟨kd, hkd⟩ : ∃ kd, kd = s.kind := ⟨_, rfl⟩
      obtain ⟨av, hav⟩ : ∃ av, av = s.a := ⟨_, rfl⟩
      obtain ⟨bv, hbv⟩ : ∃ bv, bv = s.b := ⟨_, rfl⟩
      rw [← hkd] at k1
      rw [← hav] at k2
      rw [← hbv] at k3
      have EK := hid hkd
      have EA := hid hav
      have EB := hid hbv
      clear hs hc hr hb x1 x2 x3 x4 hit es hcn hkd hav hbv
      go_wp2_with (go_at_call 47; refine (toStm_any kd av bv co cn cc s.code _ hcn' HI.out).mono ?_; rintro e w1 ⟨g, hg, hgl, rfl, hi1, hb1⟩; have hr1 := HR.out.of_block (hb1.block _ hsz); have f0 := hr1.frozen (k * 4); have f1 := hr1.frozen (k * 4 + 1); have f2 := hr1.frozen (k * 4 + 2); have f3 := hr1.frozen (k * 4 + 3); have g0 := hr1.cell (i := k * 4) (by omega); have g1 := hr1.cell (i := k * 4 + 1) (by omega); have g2 := hr1.cell (i := k * 4 + 2) (by omega); have g3 := hr1.cell (i := k * 4 + 3) (by omega); have R1 := hid hr1; have I1 := hid hi1; have B1 := hid hb1; clear hr1 hi1 hb1)
      have cs := copy_step (ss := ss) (k := k) R1.out (copy_below HP.out B1.out) (HB.out.trans (B1.out.mono (Nat.le_of_lt hsz))) (g := g) (cn := cn) (by omega) hgl hcn' (by rw [← ES.out]; exact I1.out)
      rw [← ES.out, ← EK.out, ← EA.out, ← EB.out] at cs
      obtain ⟨F', c1, c2, c3⟩ := cs
      go_roundw
      case rel => exact ⟨k + 1, by omega, by go_num, ⟨F', c1, c2⟩, c3⟩
      case measure => simp [intOf]; omega
    · have e : k = n := by omega
      subst e
      clear hs hr hb
      go_wp2
      go_ret
      exact ⟨_, rfl, StmsOf.row HL.out HR.out HP.out, HB.out⟩

set_option maxHeartbeats 400000 in
theorem eqStm_same (k a b : Int) (co bo : Option Addr) (cn cc dc : Nat) (its : List (Int × Int)) (w : World) (hn : cn ≤ 1048576) (hx : ItemsOf w co cn its) (hy : ItemsOf w bo cn its) :
    Calls Try.prog 49 #[.agg #[.int .i64 k, .int .i64 a, .int .i64 b, .slice co cn cc], .agg #[.int .i64 k, .int .i64 a, .int .i64 b, .slice bo cn dc]] w fun e w' => e = .returned (.bool true) ∧ Below w.heap.size w w' := by
  have HX : Hid (∀ w', Below w.heap.size w w' → ItemsOf w' co cn its ∧ ItemsOf w' bo cn its) := fun w' h => ⟨hx.below h, hy.below h⟩
  clear hx hy
  go_enter Try.func49, Try.ntmps49
  go_wp2_with (go_at_call 16; refine (eqItemS_same co bo cn cc dc its _ hn (HX.out _ (below2 _ _ _)).1 (HX.out _ (below2 _ _ _)).2).mono ?_; rintro e w1 ⟨rfl, hb⟩; have HB := hid hb; clear hb)
  go_ret
  exact ⟨rfl, (below2 _ _ _).trans (HB.out.mono (by simp; omega))⟩

set_option maxHeartbeats 800000 in
theorem eqStmS_same (ao bo : Option Addr) (n c d : Nat) (ss : List StmD) (w : World) (hn : n ≤ 1048576) (hcs : ∀ i, i < n → (ss.getD i stm0).code.length ≤ 1048576) (hx : StmsOf w ao n ss) (hy : StmsOf w bo n ss) :
    Calls Try.prog 22 #[.slice ao n c, .slice bo n d] w fun e w' => e = .returned (.bool true) ∧ Below w.heap.size w w' := by
  have HC := hid hcs
  clear hcs
  go_enter Try.func22, Try.ntmps22
  go_wp2
  go_loopw [5] (fun i wr => ∃ k : Nat, k ≤ n ∧ i = .int .i64 k ∧ Below w.heap.size w wr) (fun i _ => n - (intOf i).toNat)
  case atStart => exact ⟨0, Nat.zero_le _, rfl, Below.refl _ _⟩
  case round =>
    obtain ⟨k, hk, rfl, hb⟩ := hrel
    have HB := hid hb
    by_cases hlt : k < n
    · obtain ⟨b, off, rfl, hbl, hc⟩ := hx.2 (by omega)
      obtain ⟨b2, off2, rfl, hbl2, hc2⟩ := hy.2 (by omega)
      have hi : (k : Int) < (n : Int) := by omega
      obtain ⟨x1, x2, x3, co, cn, cc, x4, hcn, hit⟩ := hc k hlt
      obtain ⟨y1, y2, y3, do_, dn, dc, y4, hdn, hit2⟩ := hc2 k hlt
      have hdn' : dn = cn := by rw [← hit2.1, hit.1]
      subst hdn'
      have hcn' : dn ≤ 1048576 := by have := HC.out k hlt; rw [hit.1] at this; exact this
      have j1 : Below w.heap.size w wr := hb
      have k1 := cell_regrown ((hb.cell (p := ⟨b, off + k * 4, none⟩) hbl).trans x1)
      have k2 := cell_regrown ((hb.cell (p := ⟨b, off + k * 4 + 1, none⟩) hbl).trans x2)
      have k3 := cell_regrown ((hb.cell (p := ⟨b, off + k * 4 + 2, none⟩) hbl).trans x3)
      have k4 := cell_regrown ((hb.cell (p := ⟨b, off + k * 4 + 3, none⟩) hbl).trans x4)
      have l1 := cell_regrown ((hb.cell (p := ⟨b2, off2 + k * 4, none⟩) hbl2).trans y1)
      have l2 := cell_regrown ((hb.cell (p := ⟨b2, off2 + k * 4 + 1, none⟩) hbl2).trans y2)
      have l3 := cell_regrown ((hb.cell (p := ⟨b2, off2 + k * 4 + 2, none⟩) hbl2).trans y3)
      have l4 := cell_regrown ((hb.cell (p := ⟨b2, off2 + k * 4 + 3, none⟩) hbl2).trans y4)
      obtain ⟨s, es⟩ : ∃ s, s = ss.getD k stm0 := ⟨_, rfl⟩
      rw [← es] at k1 k2 k3 l1 l2 l3 hit hit2
      have c47 : ∀ d os, Calls Try.prog 49 #[.agg #[.int .i64 s.kind, .int .i64 s.a, .int .i64 s.b, .slice co dn cc], .agg #[.int .i64 s.kind, .int .i64 s.a, .int .i64 s.b, .slice do_ dn dc]] (grow (redrawn wr d) os) fun e w'' => e = .returned (.bool true) ∧ ∃ p : Regrown, w'' = grow (redrawn wr p.d) p.os :=
        fun d os => Calls.regrown_of (eqStm_same s.kind s.a s.b co do_ dn cc dc s.code _ hcn' (hit.below (j1.trans ((below_regrown wr d os).mono j1.size))) (hit2.below (j1.trans ((below_regrown wr d os).mono j1.size))))
      obtain ⟨kd, hkd⟩ : ∃ kd, kd = s.kind := ⟨_, rfl⟩
      obtain ⟨av, hav⟩ : ∃ av, av = s.a := ⟨_, rfl⟩
      obtain ⟨bv, hbv⟩ : ∃ bv, bv = s.b := ⟨_, rfl⟩
      rw [← hkd] at k1 l1 c47
      rw [← hav] at k2 l2 c47
      rw [← hbv] at k3 l3 c47
      clear hx hy hc hc2 x1 x2 x3 x4 y1 y2 y3 y4 hit hit2 es j1 hb hkd hav hbv hcn hdn
      go_wp2
      refine wp_region_quiet_below (by kernel_rfl) (by kernel_rfl) ?_
      repeat (any_goals (first | go_big_quiet_step (first | exact c47 _ _) | quiet_step (first | exact c47 _ _)))
      refine wpQuiet_nil ?_
      intro _ hw'
      obtain ⟨⟨dq, osq⟩, hw''⟩ := hw'
      subst hw''
      go_wp2
      go_roundw
      case rel => exact ⟨k + 1, by omega, by go_num, HB.out.trans ((below_regrown wr dq osq).mono HB.out.size)⟩
      case measure => simp [intOf]; omega
    · have e : k = n := by omega
      subst e
      clear hx hy hb
      go_wp2
      go_ret
      exact ⟨rfl, HB.out⟩
end Go.Proofs.Ytdpejnacganadaa
