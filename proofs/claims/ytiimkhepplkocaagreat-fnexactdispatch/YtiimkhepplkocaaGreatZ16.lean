import Derived.Test.YtiimkhepplkocaaGreatZc
namespace Go.Proofs.YtiimkhepplkocaaGreat
open Go.RowKit Go.Sort
set_option linter.unusedVariables false
attribute [local go_sem ↓] Go.wp_at_zero Go.wp_at_succ

/-- The three boxes of l3Ready. -/
structure By (w : World) (cx lx bx : Array Value) (X : World) : Prop where
  bel : Below w.heap.size w X
  c : X.heap[w.heap.size]? = some (.cells cx 36 (0, 0))
  l : X.heap[w.heap.size + 1]? = some (.cells lx 40 (0, 0))
  b : X.heap[w.heap.size + 1 + 1]? = some (.cells bx 32 (0, 0))
theorem By.below {w : World} {cx lx bx : Array Value} {X Y : World} (h : By w cx lx bx X) (hb : Below X.heap.size X Y) : By w cx lx bx Y := ⟨h.bel.trans (hb.mono h.bel.size), block_below h.c hb, block_below h.l hb, block_below h.b hb⟩
theorem by_start (w : World) (cx lx bx : Array Value) : By w cx lx bx (((w.alloc (.cells cx 36)).alloc (.cells lx 40)).alloc (.cells bx 32)) := by
  have h2 := heap_alloc_new (w.alloc (.cells cx 36)) (.cells lx 40)
  have h3 := heap_alloc_new ((w.alloc (.cells cx 36)).alloc (.cells lx 40)) (.cells bx 32)
  simp only [World.size_alloc] at h2 h3
  exact ⟨below3 _ _ _ _, block_below (block_below (heap_alloc_new w _) (below1 _ _)) (below1 _ _), block_below h2 (below1 _ _), h3⟩

set_option maxHeartbeats 4000000 in
theorem l3Ready_any (so tq : Option Addr) (n sc tn tc : Nat) (ss : List StD) (ts : List TrD) (o s t v : Int) (kb ko vb vo kn kc vn vc : Nat) (ks vs : List Int) (w : World) (hn : n ≤ 9223372036854775807) (htn : tn ≤ 9223372036854775807) (hkn : kn ≤ 1048576) (hvn : vn ≤ 1048576) (hs : StatesOf w so n ss) (ht : TransOf w tq tn ts) (hk : SliceOf w (some ⟨kb, ko, none⟩) kn ks) (hv : SliceOf w (some ⟨vb, vo, none⟩) vn vs) :
    Calls Tryz.prog 53 #[.agg #[.slice so n sc, .slice tq tn tc], .agg #[.int .i64 o, .int .i64 s, .int .i64 t, .int .i64 v], .agg #[.slice (some ⟨kb, ko, none⟩) kn kc, .slice (some ⟨vb, vo, none⟩) vn vc]] w fun e w' => e = .returned (.bool (okBt ss ts ⟨o, s, t, v⟩ ks vs)) ∧ Below w.heap.size w w' := by
  have EV : Hid (vs.length = vn) := hid hv.1
  have HS : Hid (∀ w', Below w.heap.size w w' → SliceOf w' (some ⟨kb, ko, none⟩) kn ks ∧ SliceOf w' (some ⟨vb, vo, none⟩) vn vs) := fun w' h => ⟨hk.below h, hv.below h⟩
  have EN := hid (by_start w #[.slice so n sc, .slice tq tn tc] #[.int .i64 o, .int .i64 s, .int .i64 t, .int .i64 v] #[.slice (some ⟨kb, ko, none⟩) kn kc, .slice (some ⟨vb, vo, none⟩) vn vc])
  have C := hid (specCheck_any so tq n sc tn tc ss ts o s t v _ hn htn (hs.below EN.out.bel) (ht.below EN.out.bel))
  obtain ⟨fc, hfc⟩ : ∃ f, f = (checkOf ss ts ⟨o, s, t, v⟩).1 := ⟨_, rfl⟩
  obtain ⟨fp, hfp⟩ : ∃ f, f = (checkOf ss ts ⟨o, s, t, v⟩).2 := ⟨_, rfl⟩
  rw [← hfc, ← hfp] at C
  obtain ⟨bb, hbb⟩ : ∃ b, b = bankB ks vs := ⟨_, rfl⟩
  have CB := hid (fun w' (hb : Below w.heap.size w w') => specBankOK_any _ _ kn vn kc vc ks vs w' (by omega) (by omega) (HS.out w' hb).1 (HS.out w' hb).2)
  rw [← hbb] at CB
  have EQ : Hid (okBt ss ts ⟨o, s, t, v⟩ ks vs = (decide (fc = 0) && (bb && decide ((vn : Int) = v)))) := hid (by unfold okBt fitB; rw [← hfc, ← hbb, EV.out])
  rw [EQ.out]
  clear hs ht hk hv hfc hfp hbb
  by_cases h0 : fc = 0
  · subst h0
    by_cases hv2 : (vn : Int) = v
    · have hd : decide ((vn : Int) = v) = true := by simpa using hv2
      have hd2 : ((vn : Int) == v) = true := by simpa using hv2
      rw [hd]
      clear hd hv2
      cases bb
      all_goals
        go_enter Tryz.func53, Tryz.ntmps53
        go_wp2_with (first
          | (go_at_call 48; refine C.out.mono ?_; rintro e w1 ⟨rfl, hb⟩; have B1 := hid (EN.out.below hb); obtain ⟨p0, p1, _, _⟩ := pair_cells B1.out.b; obtain ⟨l0, l1, l2, l3⟩ := quad_cells B1.out.l; clear hb)
          | (go_at_call 23; refine (CB.out _ B1.out.bel).mono ?_; rintro e w2 ⟨rfl, hb⟩; have B2 := hid (B1.out.below hb); obtain ⟨p0, p1, _, _⟩ := pair_cells B2.out.b; obtain ⟨l0, l1, l2, l3⟩ := quad_cells B2.out.l; clear hb))
        go_ret
        exact ⟨ret_bool (by simp), B2.out.bel⟩
    · have hd : decide ((vn : Int) = v) = false := by simpa using hv2
      have hd2 : ((vn : Int) == v) = false := by simpa using hv2
      rw [hd]
      clear hd
      cases bb
      all_goals
        go_enter Tryz.func53, Tryz.ntmps53
        go_wp2_with (first
          | (go_at_call 48; refine C.out.mono ?_; rintro e w1 ⟨rfl, hb⟩; have B1 := hid (EN.out.below hb); obtain ⟨p0, p1, _, _⟩ := pair_cells B1.out.b; obtain ⟨l0, l1, l2, l3⟩ := quad_cells B1.out.l; clear hb)
          | (go_at_call 23; refine (CB.out _ B1.out.bel).mono ?_; rintro e w2 ⟨rfl, hb⟩; have B2 := hid (B1.out.below hb); obtain ⟨p0, p1, _, _⟩ := pair_cells B2.out.b; obtain ⟨l0, l1, l2, l3⟩ := quad_cells B2.out.l; clear hb))
        go_ret
        exact ⟨ret_bool (by simp), B2.out.bel⟩
  · have h0' : (fc == 0) = false := by simpa using h0
    have H0 := hid h0
    go_enter Tryz.func53, Tryz.ntmps53
    go_wp2_with (go_at_call 48; refine C.out.mono ?_; rintro e w1 ⟨rfl, hb⟩; have B1 := hid (EN.out.below hb); clear hb)
    go_ret
    exact ⟨ret_bool (by simp [H0.out]), B1.out.bel⟩
end Go.Proofs.YtiimkhepplkocaaGreat
