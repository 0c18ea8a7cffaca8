import Derived.Test.YtjeckanjekgkkaaK5
namespace Go.Proofs.Ytjeckanjekgkkaa
open Go.RowKit Go.Sort
attribute [local go_sem ↓] Go.wp_at_zero Go.wp_at_succ

theorem eqStmS_fit (ao bo : Option Addr) (n c d : Nat) (ss : List StmD) (w : World) (hf : Fits ss) (hx : StmsOf w ao n ss) (hy : StmsOf w bo n ss) :
    Calls Try.prog 61 #[.slice ao n c, .slice bo n d] w fun e w' => e = .returned (.bool true) ∧ Below w.heap.size w w' :=
  eqStmS_same ao bo n c d ss w (by rw [← hx.1]; exact hf.1) (by rw [← hx.1]; exact hf.2) hx hy

set_option maxHeartbeats 800000 in
theorem eqState_same (p i : Int) (eo xo eo' xo' : Option Addr) (en ec xn xc ec' xc' : Nat) (es xs : List StmD) (w : World) (fe : Fits es) (fx : Fits xs) (he : StmsOf w eo en es) (hx : StmsOf w xo xn xs) (he' : StmsOf w eo' en es) (hx' : StmsOf w xo' xn xs) :
    Calls Try.prog 44 #[.agg #[.int .i64 p, .int .i64 i, .slice eo en ec, .slice xo xn xc], .agg #[.int .i64 p, .int .i64 i, .slice eo' en ec', .slice xo' xn xc']] w fun e w' => e = .returned (.bool true) ∧ Below w.heap.size w w' := by
  have HS : Hid (∀ w', Below w.heap.size w w' → (StmsOf w' eo en es ∧ StmsOf w' eo' en es) ∧ StmsOf w' xo xn xs ∧ StmsOf w' xo' xn xs) := fun w' h => ⟨⟨he.below h, he'.below h⟩, hx.below h, hx'.below h⟩
  clear he hx he' hx'
  go_enter Try.func44, Try.ntmps44
  go_wp2_with (first | (go_at_call_of 61 (Value.slice eo en ec); refine (eqStmS_fit eo eo' en ec ec' es _ fe (HS.out _ (below2 _ _ _)).1.1 (HS.out _ (below2 _ _ _)).1.2).mono ?_; rintro e w1 ⟨rfl, hb1⟩; have B1 := hid ((below2 _ _ _).trans (hb1.mono (by simp; omega))); obtain ⟨q0, q1, q2, q3⟩ := quad_cells (block_below (block_below (heap_alloc_new w _) (below1 _ _)) hb1); obtain ⟨p0, p1, p2, p3⟩ := quad_cells (block_below (heap_alloc_new (w.alloc _) _) hb1); simp only [World.size_alloc] at p0 p1 p2 p3; clear hb1) | (go_at_call_of 61 (Value.slice xo xn xc); refine (eqStmS_fit xo xo' xn xc xc' xs _ fx (HS.out _ B1.out).2.1 (HS.out _ B1.out).2.2).mono ?_; rintro e w2 ⟨rfl, hb2⟩; have B2 := hid (B1.out.trans (hb2.mono B1.out.size)); clear hb2))
  go_ret
  exact ⟨rfl, B2.out⟩

set_option maxHeartbeats 800000 in
theorem eqTrans_same (f s t : Int) (eo xo eo' xo' : Option Addr) (en ec xn xc ec' xc' : Nat) (es : List (Int × Int)) (xs : List StmD) (w : World) (fe : en ≤ 1048576) (fx : Fits xs) (he : ItemsOf w eo en es) (hx : StmsOf w xo xn xs) (he' : ItemsOf w eo' en es) (hx' : StmsOf w xo' xn xs) :
    Calls Try.prog 45 #[.agg #[.int .i64 f, .int .i64 s, .slice eo en ec, .int .i64 t, .slice xo xn xc], .agg #[.int .i64 f, .int .i64 s, .slice eo' en ec', .int .i64 t, .slice xo' xn xc']] w fun e w' => e = .returned (.bool true) ∧ Below w.heap.size w w' := by
  have HS : Hid (∀ w', Below w.heap.size w w' → (ItemsOf w' eo en es ∧ ItemsOf w' eo' en es) ∧ StmsOf w' xo xn xs ∧ StmsOf w' xo' xn xs) := fun w' h => ⟨⟨he.below h, he'.below h⟩, hx.below h, hx'.below h⟩
  clear he hx he' hx'
  go_enter Try.func45, Try.ntmps45
  go_wp2_with (first | (go_at_call 62; refine (eqItemS_same eo eo' en ec ec' es _ fe (HS.out _ (below2 _ _ _)).1.1 (HS.out _ (below2 _ _ _)).1.2).mono ?_; rintro e w1 ⟨rfl, hb1⟩; have B1 := hid ((below2 _ _ _).trans (hb1.mono (by simp; omega))); obtain ⟨q0, q1, q2, q3, q4⟩ := five_cells (block_below (block_below (heap_alloc_new w _) (below1 _ _)) hb1); obtain ⟨p0, p1, p2, p3, p4⟩ := five_cells (block_below (heap_alloc_new (w.alloc _) _) hb1); simp only [World.size_alloc] at p0 p1 p2 p3 p4; clear hb1) | (go_at_call_of 61 (Value.slice xo xn xc); refine (eqStmS_fit xo xo' xn xc xc' xs _ fx (HS.out _ B1.out).2.1 (HS.out _ B1.out).2.2).mono ?_; rintro e w2 ⟨rfl, hb2⟩; have B2 := hid (B1.out.trans (hb2.mono B1.out.size)); clear hb2))
  go_ret
  exact ⟨rfl, B2.out⟩

set_option maxHeartbeats 800000 in
theorem eqStateS_same (ao bo : Option Addr) (n c d : Nat) (ss : List StD) (w : World) (hf : FitsSt ss) (hx : StatesOf w ao n ss) (hy : StatesOf w bo n ss) :
    Calls Try.prog 29 #[.slice ao n c, .slice bo n d] w fun e w' => e = .returned (.bool true) ∧ Below w.heap.size w w' := by
  have hn : n ≤ 1048576 := by rw [← hx.1]; exact hf.1
  have HF : Hid (∀ i, i < n → Fits (ss.getD i st0).entry ∧ Fits (ss.getD i st0).exit) := by have := hf.2; rw [hx.1] at this; exact this
  clear hf
  go_enter Try.func29, Try.ntmps29
  go_wp2
  go_loopw [5] (fun i wr => ∃ k : Nat, k ≤ n ∧ i = .int .i64 k ∧ Below w.heap.size w wr) (fun i _ => n - (intOf i).toNat)
  case atStart => exact ⟨0, Nat.zero_le _, rfl, Below.refl _ _⟩
  case round =>
    obtain ⟨k, hk, rfl, hb⟩ := hrel
    have HB := hid hb
    by_cases hlt : k < n
    · obtain ⟨b, off, rfl, hbl, hc⟩ := hx.2 (by omega)
      obtain ⟨b2, off2, rfl, hbl2, hc2⟩ := hy.2 (by omega)
      have hi : (k : Int) < (n : Int) := by omega
      have hff := HF.out k hlt
      obtain ⟨x1, x2, ⟨co, cn, cc, x3, hcn, hit⟩, ⟨do_, dn, dc, x4, hdn, hit2⟩⟩ := hc k hlt
      obtain ⟨y1, y2, ⟨eo, en, ec, y3, hen, jt⟩, ⟨fo, fn, fc, y4, hfn, jt2⟩⟩ := hc2 k hlt
      have e1 : en = cn := by rw [← jt.1, hit.1]
      have e2 : fn = dn := by rw [← jt2.1, hit2.1]
      subst e1 e2
      have k1 := cell_regrown ((hb.cell (p := ⟨b, off + k * 4, none⟩) hbl).trans x1)
      have k2 := cell_regrown ((hb.cell (p := ⟨b, off + k * 4 + 1, none⟩) hbl).trans x2)
      have k3 := cell_regrown ((hb.cell (p := ⟨b, off + k * 4 + 2, none⟩) hbl).trans x3)
      have k4 := cell_regrown ((hb.cell (p := ⟨b, off + k * 4 + 3, none⟩) hbl).trans x4)
      have l1 := cell_regrown ((hb.cell (p := ⟨b2, off2 + k * 4, none⟩) hbl2).trans y1)
      have l2 := cell_regrown ((hb.cell (p := ⟨b2, off2 + k * 4 + 1, none⟩) hbl2).trans y2)
      have l3 := cell_regrown ((hb.cell (p := ⟨b2, off2 + k * 4 + 2, none⟩) hbl2).trans y3)
      have l4 := cell_regrown ((hb.cell (p := ⟨b2, off2 + k * 4 + 3, none⟩) hbl2).trans y4)
      obtain ⟨s, es⟩ : ∃ s, s = ss.getD k st0 := ⟨_, rfl⟩
      rw [← es] at k1 k2 l1 l2 hit hit2 jt jt2 hff
      have cE : ∀ d os, Calls Try.prog 44 #[.agg #[.int .i64 s.parent, .int .i64 s.initial, .slice co en cc, .slice do_ fn dc], .agg #[.int .i64 s.parent, .int .i64 s.initial, .slice eo en ec, .slice fo fn fc]] (grow (redrawn wr d) os) fun e w'' => e = .returned (.bool true) ∧ ∃ p : Regrown, w'' = grow (redrawn wr p.d) p.os :=
        fun d os => Calls.regrown_of (eqState_same s.parent s.initial co do_ eo fo en cc fn dc ec fc s.entry s.exit _ hff.1 hff.2 (hit.below (hb.trans ((below_regrown wr d os).mono hb.size))) (hit2.below (hb.trans ((below_regrown wr d os).mono hb.size))) (jt.below (hb.trans ((below_regrown wr d os).mono hb.size))) (jt2.below (hb.trans ((below_regrown wr d os).mono hb.size))))
      obtain ⟨kd, hkd⟩ : ∃ kd, kd = s.parent := ⟨_, rfl⟩
      obtain ⟨av, hav⟩ : ∃ av, av = s.initial := ⟨_, rfl⟩
      rw [← hkd] at k1 l1 cE
      rw [← hav] at k2 l2 cE
      clear hx hy hc hc2 x1 x2 x3 x4 y1 y2 y3 y4 hit hit2 jt jt2 es hb hkd hav hcn hdn hen hfn hff
      go_wp2
      refine wp_region_quiet_below (by kernel_rfl) (by kernel_rfl) ?_
      repeat (any_goals (first | go_big_quiet_step (first | exact cE _ _) | quiet_step (first | exact cE _ _)))
      refine wpQuiet_nil ?_
      intro _ hw'
      obtain ⟨⟨dq, osq⟩, hw''⟩ := hw'
      subst hw''
      go_wp2
      go_roundw
      case rel => exact ⟨k + 1, by omega, by go_num, HB.out.trans ((below_regrown wr dq osq).mono HB.out.size)⟩
      case measure => simp [intOf]; omega
    · have e : k = n := by omega
      subst e
      clear hx hy hb
      go_wp2
      go_ret
      exact ⟨rfl, HB.out⟩

set_option maxHeartbeats 800000 in
theorem eqTransS_same (ao bo : Option Addr) (n c d : Nat) (ss : List TrD) (w : World) (hf : FitsTr ss) (hx : TransOf w ao n ss) (hy : TransOf w bo n ss) :
    Calls Try.prog 30 #[.slice ao n c, .slice bo n d] w fun e w' => e = .returned (.bool true) ∧ Below w.heap.size w w' := by
  have hn : n ≤ 1048576 := by rw [← hx.1]; exact hf.1
  have HF : Hid (∀ i, i < n → (ss.getD i tr0).guard.length ≤ 1048576 ∧ Fits (ss.getD i tr0).action) := by have := hf.2; rw [hx.1] at this; exact this
  clear hf
  go_enter Try.func30, Try.ntmps30
  go_wp2
  go_loopw [5] (fun i wr => ∃ k : Nat, k ≤ n ∧ i = .int .i64 k ∧ Below w.heap.size w wr) (fun i _ => n - (intOf i).toNat)
  case atStart => exact ⟨0, Nat.zero_le _, rfl, Below.refl _ _⟩
  case round =>
    obtain ⟨k, hk, rfl, hb⟩ := hrel
    have HB := hid hb
    by_cases hlt : k < n
    · obtain ⟨b, off, rfl, hbl, hc⟩ := hx.2 (by omega)
      obtain ⟨b2, off2, rfl, hbl2, hc2⟩ := hy.2 (by omega)
      have hi : (k : Int) < (n : Int) := by omega
      have hff := HF.out k hlt
      obtain ⟨x1, x2, ⟨co, cn, cc, x3, hcn, hit⟩, x5, ⟨do_, dn, dc, x4, hdn, hit2⟩⟩ := hc k hlt
      obtain ⟨y1, y2, ⟨eo, en, ec, y3, hen, jt⟩, y5, ⟨fo, fn, fc, y4, hfn, jt2⟩⟩ := hc2 k hlt
      have e1 : en = cn := by rw [← jt.1, hit.1]
      have e2 : fn = dn := by rw [← jt2.1, hit2.1]
      subst e1 e2
      have k1 := cell_regrown ((hb.cell (p := ⟨b, off + k * 5, none⟩) hbl).trans x1)
      have k2 := cell_regrown ((hb.cell (p := ⟨b, off + k * 5 + 1, none⟩) hbl).trans x2)
      have k3 := cell_regrown ((hb.cell (p := ⟨b, off + k * 5 + 2, none⟩) hbl).trans x3)
      have k5 := cell_regrown ((hb.cell (p := ⟨b, off + k * 5 + 3, none⟩) hbl).trans x5)
      have k4 := cell_regrown ((hb.cell (p := ⟨b, off + k * 5 + 4, none⟩) hbl).trans x4)
      have l1 := cell_regrown ((hb.cell (p := ⟨b2, off2 + k * 5, none⟩) hbl2).trans y1)
      have l2 := cell_regrown ((hb.cell (p := ⟨b2, off2 + k * 5 + 1, none⟩) hbl2).trans y2)
      have l3 := cell_regrown ((hb.cell (p := ⟨b2, off2 + k * 5 + 2, none⟩) hbl2).trans y3)
      have l5 := cell_regrown ((hb.cell (p := ⟨b2, off2 + k * 5 + 3, none⟩) hbl2).trans y5)
      have l4 := cell_regrown ((hb.cell (p := ⟨b2, off2 + k * 5 + 4, none⟩) hbl2).trans y4)
      obtain ⟨s, es⟩ : ∃ s, s = ss.getD k tr0 := ⟨_, rfl⟩
      rw [← es] at k1 k2 k5 l1 l2 l5 hit hit2 jt jt2 hff
      have hg : en ≤ 1048576 := by rw [← hit.1]; exact hff.1
      have cE : ∀ d os, Calls Try.prog 45 #[.agg #[.int .i64 s.src, .int .i64 s.sig, .slice co en cc, .int .i64 s.target, .slice do_ fn dc], .agg #[.int .i64 s.src, .int .i64 s.sig, .slice eo en ec, .int .i64 s.target, .slice fo fn fc]] (grow (redrawn wr d) os) fun e w'' => e = .returned (.bool true) ∧ ∃ p : Regrown, w'' = grow (redrawn wr p.d) p.os :=
        fun d os => Calls.regrown_of (eqTrans_same s.src s.sig s.target co do_ eo fo en cc fn dc ec fc s.guard s.action _ hg hff.2 (hit.below (hb.trans ((below_regrown wr d os).mono hb.size))) (hit2.below (hb.trans ((below_regrown wr d os).mono hb.size))) (jt.below (hb.trans ((below_regrown wr d os).mono hb.size))) (jt2.below (hb.trans ((below_regrown wr d os).mono hb.size))))
      obtain ⟨kd, hkd⟩ : ∃ kd, kd = s.src := ⟨_, rfl⟩
      obtain ⟨av, hav⟩ : ∃ av, av = s.sig := ⟨_, rfl⟩
      obtain ⟨tv, htv⟩ : ∃ tv, tv = s.target := ⟨_, rfl⟩
      rw [← hkd] at k1 l1 cE
      rw [← hav] at k2 l2 cE
      rw [← htv] at k5 l5 cE
      clear hx hy hc hc2 x1 x2 x3 x4 x5 y1 y2 y3 y4 y5 hit hit2 jt jt2 es hb hkd hav htv hcn hdn hen hfn hff hg
      go_wp2
      refine wp_region_quiet_below (by kernel_rfl) (by kernel_rfl) ?_
      repeat (any_goals (first | go_big_quiet_step (first | exact cE _ _) | quiet_step (first | exact cE _ _)))
      refine wpQuiet_nil ?_
      intro _ hw'
      obtain ⟨⟨dq, osq⟩, hw''⟩ := hw'
      subst hw''
      go_wp2
      go_roundw
      case rel => exact ⟨k + 1, by omega, by go_num, HB.out.trans ((below_regrown wr dq osq).mono HB.out.size)⟩
      case measure => simp [intOf]; omega
    · have e : k = n := by omega
      subst e
      clear hx hy hb
      go_wp2
      go_ret
      exact ⟨rfl, HB.out⟩

set_option maxHeartbeats 800000 in
theorem eqChart_same (eo xo eo' xo' : Option Addr) (en ec xn xc ec' xc' : Nat) (es : List StD) (xs : List TrD) (w : World) (fe : FitsSt es) (fx : FitsTr xs) (he : StatesOf w eo en es) (hx : TransOf w xo xn xs) (he' : StatesOf w eo' en es) (hx' : TransOf w xo' xn xs) :
    Calls Try.prog 11 #[.agg #[.slice eo en ec, .slice xo xn xc], .agg #[.slice eo' en ec', .slice xo' xn xc']] w fun e w' => e = .returned (.bool true) ∧ Below w.heap.size w w' := by
  have HS : Hid (∀ w', Below w.heap.size w w' → (StatesOf w' eo en es ∧ StatesOf w' eo' en es) ∧ TransOf w' xo xn xs ∧ TransOf w' xo' xn xs) := fun w' h => ⟨⟨he.below h, he'.below h⟩, hx.below h, hx'.below h⟩
  clear he hx he' hx'
  go_enter Try.func11, Try.ntmps11
  go_wp2_with (first | (go_at_call 29; refine (eqStateS_same eo eo' en ec ec' es _ fe (HS.out _ (below2 _ _ _)).1.1 (HS.out _ (below2 _ _ _)).1.2).mono ?_; rintro e w1 ⟨rfl, hb1⟩; have B1 := hid ((below2 _ _ _).trans (hb1.mono (by simp; omega))); obtain ⟨q0, q1⟩ := two_cells (block_below (block_below (heap_alloc_new w _) (below1 _ _)) hb1); obtain ⟨p0, p1⟩ := two_cells (block_below (heap_alloc_new (w.alloc _) _) hb1); simp only [World.size_alloc] at p0 p1; clear hb1) | (go_at_call 30; refine (eqTransS_same xo xo' xn xc xc' xs _ fx (HS.out _ B1.out).2.1 (HS.out _ B1.out).2.2).mono ?_; rintro e w2 ⟨rfl, hb2⟩; have B2 := hid (B1.out.trans (hb2.mono B1.out.size)); clear hb2))
  go_ret
  exact ⟨rfl, B2.out⟩
end Go.Proofs.Ytjeckanjekgkkaa
