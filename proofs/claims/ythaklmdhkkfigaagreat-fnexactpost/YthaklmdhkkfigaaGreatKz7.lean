import Derived.Test.YthaklmdhkkfigaaGreatZb
import Derived.Test.YthaklmdhkkfigaaGreatKx11
namespace Go.Proofs.YthaklmdhkkfigaaGreat
open Go.RowKit Go.Sort
set_option linter.unusedVariables false
attribute [local go_sem ↓] Go.wp_at_zero Go.wp_at_succ

/-- An engine at work: its box, its actors, its timers. -/
structure EngS (w0 w : World) (H : Nat) (sg : Int) (A R M X s6 g9 g10 rv : Value) (wt tk : Int) (rs : List (Int × Int × Int)) (cl : List Ac) (os : List ObD) (k : KerD) (al : List ((Int × Int) × Int × Int)) : Prop where
  eng : Eng w w0.heap.size H sg A R M X s6 g9 g10 rv wt tk rs
  row : ActRow w w0.heap.size A (cl.map Ac.a)
  acts : Acts w0 w cl os k
  alr : AlRow w w0.heap.size X al
  bel : Below w0.heap.size w0 w
section
variable {w0 w w' : World} {H : Nat} {sg : Int} {A R M X s6 g9 g10 rv rv' : Value} {wt wt' tk : Int} {rs rs' : List (Int × Int × Int)} {cl : List Ac} {os : List ObD} {k : KerD} {al : List ((Int × Int) × Int × Int)}
theorem EngS.below (h : EngS w0 w H sg A R M X s6 g9 g10 rv wt tk rs cl os k al) (hb : Below w.heap.size w w') : EngS w0 w' H sg A R M X s6 g9 g10 rv wt tk rs cl os k al :=
  ⟨h.eng.below hb, ownsRow_below h.row hb, h.acts.below hb, ownsRow_below h.alr hb, h.bel.trans (hb.mono h.bel.size)⟩
theorem row_tn {K : Nat → Prop} {B : Nat} {e : TypeId} {size n : Nat} {v : Value} {xs : List Value} (h : w.ownsRow B e size v n xs) (t : Tn K w w') (hK : ∀ b cs, K b → w.heap[b]? ≠ some (.cells cs e (0, 0))) : w'.ownsRow B e size v n xs := by
  refine row_same h (fun b hb e1 => t.block b hb (fun hk => ?_))
  rcases h.2 with ⟨h0, _⟩ | ⟨g, cap, cur, h1, _, h3, _⟩
  · rw [h0] at e1; cases e1
  · rw [h1] at e1
    simp [Value.ownBlock] at e1
    subst e1
    exact hK _ _ hk h3
/-- Something was recorded. -/
theorem EngS.noted (h : EngS w0 w H sg A R M X s6 g9 g10 rv wt tk rs cl os k al) (hE : Eng w' w0.heap.size H sg A R M X s6 g9 g10 rv' wt' tk rs') (t : Tn (fun b => b = H ∨ rv.ownBlock = some b) w w') : EngS w0 w' H sg A R M X s6 g9 g10 rv' wt' tk rs' cl os k al := by
  have hr : ∀ b, rv.ownBlock = some b → ∃ cs, w.heap[b]? = some (.cells cs 106 (0, 0)) := by
    intro b e1
    rcases h.eng.r.2 with ⟨h0, _⟩ | ⟨g, cap, cur, h1, _, h3, _⟩
    · rw [h0] at e1; cases e1
    · rw [h1] at e1
      simp [Value.ownBlock] at e1
      subst e1
      exact ⟨_, h3⟩
  have hK : ∀ (e : TypeId), e ≠ 100 → e ≠ 106 → ∀ b cs, (b = H ∨ rv.ownBlock = some b) → w.heap[b]? ≠ some (.cells cs e (0, 0)) := by
    rintro e h1 h2 b cs (rfl | hb) he
    · rw [h.eng.o] at he
      simp at he
      exact h1 he.2.symm
    · obtain ⟨cs', hc⟩ := hr b hb
      rw [hc] at he
      simp at he
      exact h2 he.2.symm
  refine ⟨hE, row_tn h.row t (hK _ (by decide) (by decide)), h.acts.tag h.eng.o (by decide) (by decide) (by decide) t ?_, row_tn h.alr t (hK _ (by decide) (by decide)), ?_⟩
  · rintro b (rfl | hb)
    · exact .inl rfl
    · obtain ⟨cs, hc⟩ := hr b hb
      exact .inr (.inr ⟨cs, _, hc, by decide, by decide, by decide⟩)
  · exact h.bel.trans (t.below h.bel.size (fun i hi => by
      rcases hi with rfl | hi
      · exact h.eng.hH
      · exact (h.eng.r.lt i hi).1))
/-- An event was put behind a queue. -/
theorem EngS.put {i : Nat} {x : Int × Int} (h : EngS w0 w H sg A R M X s6 g9 g10 rv wt tk rs cl os k al) (hi : i < cl.length) (hl : i < k.qs.length) (hE : Eng w' w0.heap.size H sg A R M X s6 g9 g10 rv' wt' tk rs') (hr : RingAt w' w0.heap.size (cl.getD i ac0).P (cl.getD i ac0).S (os.getD i ob0).qcap.toNat (k.qs.getD i [] ++ [x])) (t : Tn (fun b => b = H ∨ b = (cl.getD i ac0).P ∨ b = (cl.getD i ac0).S) w w') : EngS w0 w' H sg A R M X s6 g9 g10 rv' wt' tk rs' cl os { k with qs := k.qs.set i (k.qs.getD i [] ++ [x]) } al := by
  have hA := h.acts.at_ i hi
  obtain ⟨⟨p1, q1⟩, ⟨s1, r1⟩⟩ := hA.q.boxes
  have hK : ∀ (e : TypeId), e ≠ 100 → e ≠ 182 → e ≠ 70 → ∀ b cs, (b = H ∨ b = (cl.getD i ac0).P ∨ b = (cl.getD i ac0).S) → w.heap[b]? ≠ some (.cells cs e (0, 0)) := by
    rintro e h1 h2 h3 b cs (rfl | rfl | rfl) he
    · rw [h.eng.o] at he
      simp at he
      exact h1 he.2.symm
    · rw [q1] at he
      simp at he
      exact h2 he.2.symm
    · rw [r1] at he
      simp at he
      exact h3 he.2.symm
  refine ⟨hE, row_tn h.row t (hK _ (by decide) (by decide) (by decide)), h.acts.put hi hl t (fun b hb => hb) h.eng.o hr, row_tn h.alr t (hK _ (by decide) (by decide) (by decide)), ?_⟩
  have lo := hA.lo
  have iq := hA.iq
  exact h.bel.trans (t.below h.bel.size (fun j hj => by
      rcases hj with rfl | rfl | rfl
      · exact h.eng.hH
      · omega
      · omega))
end
/-- The engine's cells that post reads. -/
theorem act_at {w : World} {B gA n c : Nat} {cl : List Ac} (h : ActRow w B (.slice (some ⟨gA, 0, none⟩) n c) (cl.map Ac.a)) {i : Nat} (hi : i < cl.length) : w.cell? ⟨gA, i, none⟩ = some (.pointer (some ⟨(cl.getD i ac0).a, 0, none⟩)) ∧ gA < w.heap.size := by
  have hn := row_len h
  rw [List.length_map] at hn
  subst hn
  unfold ActRow at h
  rw [List.length_map] at h
  have c0 := World.ownsRow.cellAt h i (by omega)
  rw [show ((cl.map Ac.a).map (fun a => Value.pointer (some ⟨a, 0, none⟩)))[i]? = some (.pointer (some ⟨(cl.getD i ac0).a, 0, none⟩)) by simp [List.getD_eq_getElem?_getD, hi]] at c0
  exact ⟨c0, World.block_lt_of_cell? w _ c0⟩
/-- putLast, whether there is room or not. -/
theorem putLast_any (w0 w : World) (H : Nat) (sg : Int) (A R M X s6 g9 g10 rv : Value) (wt tk : Int) (rs : List (Int × Int × Int)) (cl : List Ac) (os : List ObD) (k : KerD) (al : List ((Int × Int) × Int × Int)) (i : Nat) (x : Int × Int) (h : EngS w0 w H sg A R M X s6 g9 g10 rv wt tk rs cl os k al) (hi : i < cl.length) (hl : i < k.qs.length) (hr : rs.length ≤ 1048576) (hq : (k.qs.getD i []).length ≤ (os.getD i ob0).qcap.toNat) (hq1 : 0 ≤ (os.getD i ob0).qcap) :
    Calls Tryz.prog 78 #[.pointer (some ⟨H, 0, none⟩), .pointer (some ⟨(cl.getD i ac0).a, 0, none⟩), .agg #[.int .i64 x.1, .int .i64 x.2]] w fun e w' => e = .returned (.tuple #[]) ∧ ∃ rv' wt', EngS w0 w' H sg A R M X s6 g9 g10 rv' wt' tk (putK os k rs i x).2 cl os (putK os k rs i x).1 al := by
  have hA := h.acts.at_ i hi
  obtain ⟨cs, b1, b2⟩ := hA.bx
  obtain ⟨⟨x0, _, _⟩, _, x17, _⟩ := b2
  by_cases hc : (k.qs.getD i []).length = (os.getD i ob0).qcap.toNat
  · have e : putK os k rs i x = (k, rs ++ [(2, (i : Int), x.1)]) := by unfold putK; rw [if_pos (by omega)]
    rw [e]
    refine (putLast_full w0.heap.size H _ _ _ _ sg A R M X s6 g9 g10 rv wt tk x.1 x.2 (i : Int) rs _ w cs h.bel.size hr b1 x0 x17 hc hA.q h.eng).mono ?_
    rintro e w' ⟨rfl, ⟨ra, rn, rc, hE⟩, t⟩
    exact ⟨rfl, _, _, h.noted hE t⟩
  · have e : putK os k rs i x = ({ k with qs := k.qs.set i (k.qs.getD i [] ++ [x]) }, rs) := by unfold putK; rw [if_neg (by omega)]
    rw [e]
    refine (putLast_room w0.heap.size H _ _ _ _ sg A R M X s6 g9 g10 rv wt tk x.1 x.2 rs _ w cs b1 x17 (by omega) hA.q h.eng).mono ?_
    rintro e w' ⟨rfl, hE, hR, t⟩
    exact ⟨rfl, _, _, h.put hi hl hE hR t⟩
set_option maxRecDepth 100000 in
set_option maxHeartbeats 3200000 in
theorem post_any (w0 w : World) (H : Nat) (sg : Int) (A R M X s6 g9 g10 rv : Value) (wt tk : Int) (rs : List (Int × Int × Int)) (cl : List Ac) (os : List ObD) (k : KerD) (al : List ((Int × Int) × Int × Int)) (obj sig arg : Int) (h : EngS w0 w H sg A R M X s6 g9 g10 rv wt tk rs cl os k al) (hn1 : 1 ≤ cl.length) (hn2 : cl.length ≤ 64) (hl : k.qs.length = cl.length) (hr : rs.length ≤ 1000) (hq : ∀ i, i < cl.length → (k.qs.getD i []).length ≤ (os.getD i ob0).qcap.toNat ∧ 0 ≤ (os.getD i ob0).qcap) :
    Calls Tryz.prog 41 #[.pointer (some ⟨H, 0, none⟩), .int .i64 obj, .agg #[.int .i64 sig, .int .i64 arg]] w fun e w' => e = .returned (.tuple #[]) ∧ ∃ rv' wt' r, EngS w0 w' H sg A R M X s6 g9 g10 rv' wt' tk r.2 cl os r.1 al ∧ r = (if (0 ≤ obj ∧ obj ≤ (cl.length : Int) - 1) ∧ (0 ≤ sig ∧ sig ≤ sg - 1) then putK os k rs obj.toNat (sig, arg) else (k, rs ++ [(4, -1, sig)])) := by
  have hlen : (cl.map Ac.a).length = cl.length := List.length_map ..
  obtain ⟨gA, cA, rfl, _, gAl⟩ := World.ownsRow.form h.row (by rw [hlen]; omega)
  obtain ⟨U, hU⟩ : ∃ U, U = w.alloc (.cells #[.int .i64 sig, .int .i64 arg] 70) := ⟨_, rfl⟩
  have B1 : Below w.heap.size w U := by rw [hU]; exact below1 _ _
  have u1 : U.heap[w.heap.size]? = some (.cells #[.int .i64 sig, .int .i64 arg] 70 (0, 0)) := by rw [hU]; exact heap_alloc_new _ _
  obtain ⟨y0, y1⟩ := two_cells u1
  have hS := h.below B1
  obtain ⟨⟨c0, c1, _, _, _⟩, _, _⟩ := eng_cells hS.eng.o
  have hHl := lt_of_block hS.eng.o
  have HS := hid hS
  have HU := hid hU
  have ul := lt_of_block u1
  obtain ⟨n, hn⟩ : ∃ n, n = cl.length := ⟨_, rfl⟩
  rw [hlen, ← hn] at c1
  rw [← hn] at hn1 hn2
  have HN := hid hn
  have HQ := hid hq
  have HLQ := hid hl
  have HU1 := hid u1
  clear h hS hU B1 u1 hn hq hl hlen gAl
  rw [← HN.out]
  have D : ∀ (x y : Int) (b : Bool), b = decide (0 ≤ x ∧ x < y) → ∀ d os', Calls Tryz.prog 76 #[.int .i64 x, .int .i64 y] (grow (redrawn U d) os') fun e w'' => e = .returned (.bool b) ∧ ∃ p : Regrown, w'' = grow (redrawn U p.d) p.os := fun x y b hb d os' => Calls.regrown_of ((within_of x y b hb _).mono (by rintro e w' ⟨rfl, rfl⟩; exact ⟨rfl, Below.refl _ _⟩))
  have HD := hid D
  clear D
  by_cases h1 : 0 ≤ obj ∧ obj ≤ (n : Int) - 1
  · have D1 := HD.out obj (n : Int) true (by simp; omega)
    by_cases h2 : 0 ≤ sig ∧ sig ≤ sg - 1
    · have D2 := HD.out sig sg true (by simp; omega)
      obtain ⟨i, hi⟩ : ∃ i : Nat, obj = (i : Int) := ⟨obj.toNat, by omega⟩
      subst hi
      have hin : i < n := by omega
      have hic : i < cl.length := by rw [← HN.out]; exact hin
      have ei : Hid ((if (0 ≤ (i : Int) ∧ (i : Int) ≤ (n : Int) - 1) ∧ (0 ≤ sig ∧ sig ≤ sg - 1) then putK os k rs (i : Int).toNat (sig, arg) else (k, rs ++ [(4, -1, sig)])) = putK os k rs i (sig, arg)) := hid (by rw [if_pos ⟨h1, h2⟩, Int.toNat_natCast])
      have hin' : (i : Int) < (n : Int) := by omega
      rw [ei.out]
      clear h1 h2 HD
      go_enter Tryz.func41, Tryz.ntmps41
      go_wp2_with fail
      rw [← HU.out]
      clear hHl ul
      have r0 := cell_regrown y0
      have r1 := cell_regrown c0
      have r2 := cell_regrown c1
      refine wp_region_quiet_below (by kernel_rfl) (by kernel_rfl) ?_
      repeat (any_goals (first | go_big_quiet_step (first | with_reducible exact D1 _ _ | with_reducible exact D2 _ _) | quiet_step (first | with_reducible exact D1 _ _ | with_reducible exact D2 _ _)))
      refine wpQuiet_nil ?_
      intro _ hw'
      obtain ⟨⟨dq, osq⟩, hw''⟩ := hw'
      subst hw''
      obtain ⟨Y, hY⟩ : ∃ Y, Y = grow (redrawn U dq) osq := ⟨_, rfl⟩
      have BY : Hid (Below U.heap.size U Y) := hid (by rw [hY]; exact below_regrown U dq osq)
      rw [← hY]
      clear hY r0 r1 r2 y0 y1 c0 c1 D1 D2
      have u2 := hid (block_below HU1.out BY.out)
      obtain ⟨y0, y1⟩ := two_cells u2.out
      have ES := hid (HS.out.below BY.out)
      obtain ⟨⟨c0, c1, _, _, _⟩, _, _⟩ := eng_cells ES.out.eng.o
      rw [List.length_map, ← HN.out] at c1
      have hHl := lt_of_block ES.out.eng.o
      have ul := lt_of_block u2.out
      obtain ⟨ca, gl⟩ := act_at ES.out.row hic
      obtain ⟨a, ha⟩ : ∃ a, a = (cl.getD i ac0).a := ⟨_, rfl⟩
      rw [← ha] at ca
      have CP := hid (putLast_any w0 Y.drew H sg _ R M X s6 g9 g10 rv wt tk rs cl os k al i (sig, arg) (ES.out.below (Below.refl _ _).drew) hic (by rw [HLQ.out]; exact hic) (by omega) (HQ.out i hic).1 (HQ.out i hic).2)
      rw [← ha] at CP
      clear ha
      go_wp2_with fail
      go_region_with
        (first | (go_at_call 78; with_reducible refine CP.out.mono ?_; rintro e w5 ⟨rfl, rv', wt', hE⟩; have FE := hid hE; clear hE))
      all_goals
        go_wp2
        go_end0
        exact ⟨rfl, _, _, _, FE.out, rfl⟩
    · have D2 := HD.out sig sg false (by simp; omega)
      have ei : Hid ((if (0 ≤ obj ∧ obj ≤ (n : Int) - 1) ∧ (0 ≤ sig ∧ sig ≤ sg - 1) then putK os k rs obj.toNat (sig, arg) else (k, rs ++ [(4, -1, sig)])) = (k, rs ++ [(4, -1, sig)])) := hid (by rw [if_neg (fun x => h2 x.2)])
      clear h1 h2 HD
      rw [ei.out]
      go_enter Tryz.func41, Tryz.ntmps41
      go_wp2_with fail
      rw [← HU.out]
      clear hHl ul
      have r0 := cell_regrown y0
      have r1 := cell_regrown c0
      have r2 := cell_regrown c1
      refine wp_region_quiet_below (by kernel_rfl) (by kernel_rfl) ?_
      repeat (any_goals (first | go_big_quiet_step (first | with_reducible exact D1 _ _ | with_reducible exact D2 _ _) | quiet_step (first | with_reducible exact D1 _ _ | with_reducible exact D2 _ _)))
      refine wpQuiet_nil ?_
      intro _ hw'
      obtain ⟨⟨dq, osq⟩, hw''⟩ := hw'
      subst hw''
      obtain ⟨Y, hY⟩ : ∃ Y, Y = grow (redrawn U dq) osq := ⟨_, rfl⟩
      have BY : Hid (Below U.heap.size U Y) := hid (by rw [hY]; exact below_regrown U dq osq)
      rw [← hY]
      clear hY r0 r1 r2 y0 y1 c0 c1 D1 D2
      have u2 := hid (block_below HU1.out BY.out)
      obtain ⟨y0, y1⟩ := two_cells u2.out
      have ES := hid (HS.out.below BY.out)
      obtain ⟨⟨c0, c1, _, _, _⟩, _, _⟩ := eng_cells ES.out.eng.o
      rw [List.length_map, ← HN.out] at c1
      have hHl := lt_of_block ES.out.eng.o
      have ul := lt_of_block u2.out
      have CR := hid (record_any w0.heap.size H sg _ R M X s6 g9 g10 rv wt tk rs 4 (-1) sig Y ES.out.bel.size (by omega) ES.out.eng)
      go_wp2_with (go_at_call 77; refine CR.out.mono ?_; rintro e w5 ⟨rfl, ra, rn, rc, hE, ht⟩; have FE := hid (ES.out.noted hE ht); clear hE ht)
      refine bodyPost_ret (results_none rfl _ _ _) rfl ?_
      exact ⟨rfl, _, _, _, FE.out, rfl⟩
  · have D1 := HD.out obj (n : Int) false (by simp; omega)
    have D2 := D1
    have ei : Hid ((if (0 ≤ obj ∧ obj ≤ (n : Int) - 1) ∧ (0 ≤ sig ∧ sig ≤ sg - 1) then putK os k rs obj.toNat (sig, arg) else (k, rs ++ [(4, -1, sig)])) = (k, rs ++ [(4, -1, sig)])) := hid (by rw [if_neg (fun x => h1 x.1)])
    clear h1 HD
    rw [ei.out]
    go_enter Tryz.func41, Tryz.ntmps41
    go_wp2_with fail
    rw [← HU.out]
    clear hHl ul
    have r0 := cell_regrown y0
    have r1 := cell_regrown c0
    have r2 := cell_regrown c1
    refine wp_region_quiet_below (by kernel_rfl) (by kernel_rfl) ?_
    repeat (any_goals (first | go_big_quiet_step (first | with_reducible exact D1 _ _ | with_reducible exact D2 _ _) | quiet_step (first | with_reducible exact D1 _ _ | with_reducible exact D2 _ _)))
    refine wpQuiet_nil ?_
    intro _ hw'
    obtain ⟨⟨dq, osq⟩, hw''⟩ := hw'
    subst hw''
    obtain ⟨Y, hY⟩ : ∃ Y, Y = grow (redrawn U dq) osq := ⟨_, rfl⟩
    have BY : Hid (Below U.heap.size U Y) := hid (by rw [hY]; exact below_regrown U dq osq)
    rw [← hY]
    clear hY r0 r1 r2 y0 y1 c0 c1 D1 D2
    have u2 := hid (block_below HU1.out BY.out)
    obtain ⟨y0, y1⟩ := two_cells u2.out
    have ES := hid (HS.out.below BY.out)
    obtain ⟨⟨c0, c1, _, _, _⟩, _, _⟩ := eng_cells ES.out.eng.o
    rw [List.length_map, ← HN.out] at c1
    have hHl := lt_of_block ES.out.eng.o
    have ul := lt_of_block u2.out
    have CR := hid (record_any w0.heap.size H sg _ R M X s6 g9 g10 rv wt tk rs 4 (-1) sig Y ES.out.bel.size (by omega) ES.out.eng)
    go_wp2_with (go_at_call 77; refine CR.out.mono ?_; rintro e w5 ⟨rfl, ra, rn, rc, hE, ht⟩; have FE := hid (ES.out.noted hE ht); clear hE ht)
    refine bodyPost_ret (results_none rfl _ _ _) rfl ?_
    exact ⟨rfl, _, _, _, FE.out, rfl⟩
end Go.Proofs.YthaklmdhkkfigaaGreat
