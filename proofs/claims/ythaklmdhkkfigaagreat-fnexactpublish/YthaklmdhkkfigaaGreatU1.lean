import Derived.Test.YthaklmdhkkfigaaGreatT4
namespace Go.Proofs.YthaklmdhkkfigaaGreat
open Go.RowKit Go.Sort
attribute [local go_sem ↓] Go.wp_at_zero Go.wp_at_succ

def wNest {α : Type} (zss : List (List α)) : Nat := zss.length + sumTo (fun i => (zss.getD i []).length) zss.length
def FitsN {α : Type} (zss : List (List α)) : Prop := zss.length ≤ 1048576 ∧ ∀ i, i < zss.length → (zss.getD i []).length ≤ 1048576
theorem fitsN_of {α : Type} {zss : List (List α)} (h : wNest zss ≤ 1048576) : FitsN zss := by
  unfold wNest at h
  refine ⟨by omega, fun i hi => ?_⟩
  have : (zss.getD i []).length ≤ _ := le_sumTo (fun i => (zss.getD i []).length) hi
  omega

/-- Lists of lists as the walk is told of them. -/
def NestI (w : World) (ao : Option Addr) (n : Nat) (zss : List (List Int)) : Prop :=
  zss.length = n ∧ (0 < n → ∃ b off, ao = some ⟨b, off, none⟩ ∧ b < w.heap.size ∧ ∀ i, i < n → ∃ co cn cc, w.cell? ⟨b, off + i, none⟩ = some (.slice co cn cc) ∧ cn ≤ 9223372036854775807 ∧ SliceOf w co cn (zss.getD i []))
theorem NestI.below {w w' : World} {ao : Option Addr} {n : Nat} {zss : List (List Int)} (h : NestI w ao n zss) (hb : Below w.heap.size w w') : NestI w' ao n zss :=
  ⟨h.1, fun hn => by
    obtain ⟨b, off, e, hlt, hc⟩ := h.2 hn
    refine ⟨b, off, e, Nat.lt_of_lt_of_le hlt hb.size, fun i hi => ?_⟩
    obtain ⟨co, cn, cc, h1, h2, h3⟩ := hc i hi
    exact ⟨co, cn, cc, (hb.cell (p := ⟨b, off + i, none⟩) hlt).trans h1, h2, h3.below hb⟩⟩

set_option maxHeartbeats 800000 in
theorem szIntSS_any (ao : Option Addr) (n c : Nat) (ss : List (List Int)) (lft : Int) (w : World) (hn : n ≤ 9223372036854775807) (g0 : 0 ≤ lft) (g1 : lft ≤ 1048576) (hs : NestI w ao n ss) :
    Calls Tryz.prog 27 #[.slice ao n c, .int .i64 lft] w fun e w' => e = .returned (.int .i64 (szOut lft (wNest ss))) ∧ w' = w := by
  have HL := hid hs.1
  by_cases h : lft - n < 0
  · have E : Hid (szOut lft (wNest ss) = -1) := hid (if_pos (by unfold wNest; rw [HL.out]; omega))
    rw [E.out]
    clear hs
    go_enter Tryz.func27, Tryz.ntmps27
    go_wp2
    go_ret
    exact ⟨rfl, rfl⟩
  · have hn' : n ≤ 1048576 := by omega
    go_enter Tryz.func27, Tryz.ntmps27
    go_wp2
    go_loopw [1, 5] (fun l i wr => ∃ (k : Nat) (left : Int), k ≤ n ∧ i = .int .i64 k ∧ l = .int .i64 left ∧ 0 ≤ left ∧ left ≤ 1048576 ∧ Hid (left = lft - n - (sumTo (fun i => (ss.getD i []).length) k : Nat)) ∧ wr = w) (fun _ i _ => n - (intOf i).toNat)
    case atStart => exact ⟨0, _, Nat.zero_le _, rfl, rfl, by omega, by omega, hid (by simp [sumTo]), rfl⟩
    case round =>
      obtain ⟨k, left, hk, rfl, rfl, hl0, hl1, HP, rfl⟩ := hrel
      by_cases hlt : k < n
      · obtain ⟨b, off, rfl, hbl, hc⟩ := hs.2 (by omega)
        obtain ⟨s, es⟩ : ∃ s, s = ss.getD k [] := ⟨_, rfl⟩
        have hk4 := hc k hlt
        rw [← es] at hk4
        obtain ⟨co, cn, cc, k4, hcn, hit⟩ := hk4
        have EL : Hid (s.length = cn) := hit.1
        have ES : Hid (sumTo (fun i => (ss.getD i []).length) (k + 1) = sumTo (fun i => (ss.getD i []).length) k + cn) := hid (sumTo_step _ (by show (ss.getD k []).length = cn; rw [← es]; exact EL.out))
        have EM : Hid (sumTo (fun i => (ss.getD i []).length) (k + 1) ≤ sumTo (fun i => (ss.getD i []).length) n) := hid (sumTo_le _ hlt)
        have C := hid (fun w => szIntS_any co cn cc left w hcn hl0 hl1)
        clear hc hs es hit
        by_cases hneg : left < cn
        · rw [if_pos hneg] at C
          go_wp2_with (go_at_call 26; refine (C.out _).mono ?_; rintro e w1 ⟨rfl, hw⟩; obtain rfl := hw.symm)
          go_ret
          have h1 := HP.out
          have h2 := ES.out
          have h3 := EM.out
          refine ⟨ret_int (Eq.symm (if_pos ?_)), rfl⟩
          unfold wNest
          rw [HL.out]
          omega
        · have hnn : ¬ left - cn < 0 := by omega
          rw [if_neg hneg] at C
          go_wp2_with (go_at_call 26; refine (C.out _).mono ?_; rintro e w1 ⟨rfl, hw⟩; obtain rfl := hw.symm)
          go_roundw
          case rel =>
            have h1 := HP.out
            have h2 := ES.out
            exact ⟨k + 1, left - cn, by omega, by go_num, rfl, by omega, by omega, hid (by rw [h1, h2]; omega), by first | rfl | trivial⟩
          case measure => simp [intOf]; omega
      · have e : k = n := by omega
        subst e
        clear hs
        go_wp2
        go_ret
        have h1 := HP.out
        refine ⟨ret_int ?_, rfl⟩
        unfold szOut wNest
        rw [HL.out, if_neg (by omega)]
        omega

theorem infoSS_int : (Tryz.prog.info? 26).map (fun i => (i.zero, i.size, i.bytes)) = some (some (.slice none 0 0), 1, 24) := by kernel_rfl
/-- The first k lists of a row that is being made. -/
def MadeI (w : World) (L : Nat) (F : Nat → Value) (zss : List (List Int)) (k : Nat) : Prop :=
  ∀ i, i < k → ∃ g, F i = .slice (some ⟨g, 0, none⟩) (zss.getD i []).length (zss.getD i []).length ∧ Lasts L w (fun u => SliceOf u (some ⟨g, 0, none⟩) (zss.getD i []).length (zss.getD i []))
theorem MadeI.same {w w' : World} {L : Nat} {F : Nat → Value} {zss : List (List Int)} {k : Nat} (h : MadeI w L F zss k) (hs : Same L w w') (hz : w.heap.size ≤ w'.heap.size) : MadeI w' L F zss k := by
  intro i hi
  obtain ⟨g, h1, h2⟩ := h i hi
  exact ⟨g, h1, h2.same hs hz⟩
theorem MadeI.mono {w : World} {L L' : Nat} {F : Nat → Value} {zss : List (List Int)} {k : Nat} (h : MadeI w L F zss k) (hl : L' ≤ L) : MadeI w L' F zss k := by
  intro i hi
  obtain ⟨g, h1, h2⟩ := h i hi
  exact ⟨g, h1, h2.mono hl⟩
theorem madeI_nest {w : World} {L g n : Nat} {F : Nat → Value} {zss : List (List Int)} (hl : zss.length = n) (hf : FitsN zss) (hr : w.rowIs g 26 n F) (hm : MadeI w L F zss n) : NestI w (some ⟨g, 0, none⟩) n zss := by
  refine ⟨hl, fun _ => ⟨g, 0, rfl, hr.lt, fun i hi => ?_⟩⟩
  obtain ⟨q, h1, h2⟩ := hm i hi
  exact ⟨_, _, _, by rw [← h1]; simpa using hr.cell (i := i) hi, Nat.le_trans (hf.2 i (by omega)) (by omega), h2.now⟩
theorem madeI_step {w wr : World} {B n k : Nat} {F : Nat → Value} {zss : List (List Int)} {g : Nat} (hr : wr.rowIs B 26 n F) (hc : MadeI wr (B + 1) F zss k) (hb : Below B w wr)
    (hl : Lasts (B + 1) wr (fun u => SliceOf u (some ⟨g, 0, none⟩) (zss.getD k []).length (zss.getD k []))) :
    ∃ F', (wr.setCell ⟨B, k, none⟩ (.slice (some ⟨g, 0, none⟩) (zss.getD k []).length (zss.getD k []).length)).rowIs B 26 n F' ∧
      MadeI (wr.setCell ⟨B, k, none⟩ (.slice (some ⟨g, 0, none⟩) (zss.getD k []).length (zss.getD k []).length)) (B + 1) F' zss (k + 1) ∧
      Below B w (wr.setCell ⟨B, k, none⟩ (.slice (some ⟨g, 0, none⟩) (zss.getD k []).length (zss.getD k []).length)) := by
  have hs : Same (B + 1) wr (wr.setCell ⟨B, k, none⟩ (.slice (some ⟨g, 0, none⟩) (zss.getD k []).length (zss.getD k []).length)) := Same.set _ (Nat.lt_succ_self B) _
  have hc' := hc.same hs (by simp)
  have hl' := hl.same hs (by simp)
  refine ⟨_, hr.set k _, ?_, hb.setCell (Nat.le_refl _) _⟩
  intro i hi
  by_cases e : i = k
  · subst e
    exact ⟨g, by simp, hl'⟩
  · obtain ⟨q, h1, h2⟩ := hc' i (by omega)
    exact ⟨q, by dsimp only; rw [if_neg e]; exact h1, h2⟩

set_option maxHeartbeats 800000 in
theorem toIntSS_any (ao : Option Addr) (n c : Nat) (ss : List (List Int)) (w : World) (hf : FitsN ss) (hs : NestI w ao n ss) :
    Calls Tryz.prog 37 #[.slice ao n c] w fun e w' => ∃ g, e = .returned (.slice (some ⟨g, 0, none⟩) n n) ∧ Lasts w.heap.size w' (fun u => NestI u (some ⟨g, 0, none⟩) n ss) ∧ Below w.heap.size w w' := by
  have HL := hid hs.1
  have FF := hid hf
  have hn : n ≤ 1048576 := by rw [← HL.out]; exact hf.1
  have HF : Hid (∀ i, i < n → (ss.getD i []).length ≤ 1048576) := by have := hf.2; rw [HL.out] at this; exact this
  have hmk := run_make_row' (P := Tryz.prog) 27 26 (.slice none 0 0) 24 Tryz.underlying27 infoSS_int rfl .i64 .i64 n (by omega) (by omega)
  clear hf
  go_enter Tryz.func37, Tryz.ntmps37
  go_wp2
  go_loopw [4] (fun i wr => ∃ k : Nat, k ≤ n ∧ i = .int .i64 k ∧ (∃ F, wr.rowIs w.heap.size 26 n F ∧ MadeI wr (w.heap.size + 1) F ss k) ∧ Below w.heap.size w wr) (fun i _ => n - (intOf i).toNat)
  case atStart => exact ⟨0, Nat.zero_le _, rfl, ⟨_, World.rowIs_made w (.slice none 0 0) n 26, fun i h => absurd h (by omega)⟩, (Below.refl _ _).alloc (Nat.le_refl _) _⟩
  case round =>
    obtain ⟨k, hk, rfl, ⟨F, hr, hcp⟩, hb⟩ := hrel
    have HR := hid hr
    have HB := hid hb
    have HP := hid hcp
    have hsz := hr.lt
    clear hcp
    by_cases hlt : k < n
    · obtain ⟨b, off, rfl, hbl, hc⟩ := hs.2 (by omega)
      have hff := HF.out k hlt
      obtain ⟨co, cn, cc, k1, hcn, hit⟩ := hc k hlt
      have k1 := (hb.cell (p := ⟨b, off + k, none⟩) hbl).trans k1
      have hcl := hit.1
      have C := hid (toInt_rows co cn cc (ss.getD k []) wr (by rw [← hcl]; exact hff) (hit.below hb))
      have CL := hid hcl
      clear hs hc hr hb hit hcn hff hcl
      go_wp2_with (go_at_call 36; refine C.out.mono ?_; rintro e w1 ⟨g, rfl, hi1, hb1⟩; have hr1 := HR.out.of_block (hb1.block _ hsz); have f0 := hr1.frozen k; have g0 := hr1.cell (i := k) hlt; have R1 := hid hr1; have I1 := hid hi1; have B1 := hid hb1; clear hr1 hi1 hb1)
      have cs := madeI_step (zss := ss) (k := k) (g := g) R1.out (HP.out.same (Same.of_below B1.out) B1.out.size) (HB.out.trans (B1.out.mono (Nat.le_of_lt hsz))) (by rw [CL.out]; exact I1.out.mono hsz)
      rw [CL.out] at cs
      obtain ⟨F', c1, c2, c3⟩ := cs
      go_roundw
      case rel => exact ⟨k + 1, by omega, by go_num, ⟨F', c1, c2⟩, c3⟩
      case measure => simp [intOf]; omega
    · have e : k = n := by omega
      subst e
      clear hs hr hb
      go_wp2
      go_ret
      have hl := HL.out
      refine ⟨_, rfl, fun u h1 h2 => ?_, HB.out⟩
      exact madeI_nest (L := w.heap.size) hl FF.out (rowIs_same HR.out (Nat.le_refl _) h1) ((HP.out.mono (by omega)).same h1 h2)

set_option maxHeartbeats 800000 in
theorem eqIntSS_same (ao bo : Option Addr) (n c d : Nat) (ss : List (List Int)) (w : World) (hf : FitsN ss) (hx : NestI w ao n ss) (hy : NestI w bo n ss) :
    Calls Tryz.prog 44 #[.slice ao n c, .slice bo n d] w fun e w' => e = .returned (.bool true) ∧ Below w.heap.size w w' := by
  have hn : n ≤ 1048576 := by rw [← hx.1]; exact hf.1
  have HF : Hid (∀ i, i < n → (ss.getD i []).length ≤ 1048576) := by have := hf.2; rw [hx.1] at this; exact this
  clear hf
  go_enter Tryz.func44, Tryz.ntmps44
  go_wp2
  go_loopw [5] (fun i wr => ∃ k : Nat, k ≤ n ∧ i = .int .i64 k ∧ Below w.heap.size w wr) (fun i _ => n - (intOf i).toNat)
  case atStart => exact ⟨0, Nat.zero_le _, rfl, Below.refl _ _⟩
  case round =>
    obtain ⟨k, hk, rfl, hb⟩ := hrel
    have HB := hid hb
    by_cases hlt : k < n
    · obtain ⟨b, off, rfl, hbl, hc⟩ := hx.2 (by omega)
      obtain ⟨b2, off2, rfl, hbl2, hc2⟩ := hy.2 (by omega)
      have hi : (k : Int) < (n : Int) := by omega
      have hff := HF.out k hlt
      obtain ⟨co, cn, cc, x1, hcn, hit⟩ := hc k hlt
      obtain ⟨do_, dn, dc, y1, hdn, jt⟩ := hc2 k hlt
      have e1 : dn = cn := by rw [← jt.1, hit.1]
      subst e1
      have hcl : dn ≤ 1048576 := by rw [← jt.1]; exact hff
      have k1 := cell_regrown ((hb.cell (p := ⟨b, off + k, none⟩) hbl).trans x1)
      have l1 := cell_regrown ((hb.cell (p := ⟨b2, off2 + k, none⟩) hbl2).trans y1)
      obtain ⟨s, es⟩ : ∃ s, s = ss.getD k [] := ⟨_, rfl⟩
      rw [← es] at hit jt
      have cE : ∀ d os, Calls Tryz.prog 43 #[.slice co dn cc, .slice do_ dn dc] (grow (redrawn wr d) os) fun e w'' => e = .returned (.bool true) ∧ ∃ p : Regrown, w'' = grow (redrawn wr p.d) p.os :=
        fun d os => Calls.regrown_of (eqIntS_same co do_ dn cc dc s _ hcl (hit.below (hb.trans ((below_regrown wr d os).mono hb.size))) (jt.below (hb.trans ((below_regrown wr d os).mono hb.size))))
      clear hx hy hc hc2 x1 y1 hit jt es hb hcn hdn hff hcl
      go_wp2
      refine wp_region_quiet_below (by kernel_rfl) (by kernel_rfl) ?_
      repeat (any_goals (first | go_big_quiet_step (first | exact cE _ _) | quiet_step (first | exact cE _ _)))
      refine wpQuiet_nil ?_
      intro _ hw'
      obtain ⟨⟨dq, osq⟩, hw''⟩ := hw'
      subst hw''
      go_wp2
      go_roundw
      case rel => exact ⟨k + 1, by omega, by go_num, HB.out.trans ((below_regrown wr dq osq).mono HB.out.size)⟩
      case measure => simp [intOf]; omega
    · have e : k = n := by omega
      subst e
      clear hx hy hb
      go_wp2
      go_ret
      exact ⟨rfl, HB.out⟩

end Go.Proofs.YthaklmdhkkfigaaGreat
