import Derived.Test.YtkcbomhhdfgihaaGreatO6
namespace Go.Proofs.YtkcbomhhdfgihaaGreat
open Go.RowKit Go.Sort

theorem fieldA_most (k : Int) (l : LimD) : fieldA k l = mostA k l + 1 := by
  unfold fieldA mostA
  split
  · omega
  split
  · omega
  split <;> omega

theorem fieldB_most (k : Int) (l : LimD) : fieldB k l = mostB k l + 1 := by
  unfold fieldB mostB
  split
  · omega
  split <;> omega

theorem fieldsB_eq (k a b : Int) (cn : Nat) (l : LimD) : fieldsB k a b cn l = (betB a 0 (mostA k l) && betB b 0 (mostB k l) && (if hasB k then true else decide (cn = 0))) := by
  unfold fieldsB
  rw [fieldA_most, fieldB_most]
  have h1 : decide (0 ≤ a ∧ a < mostA k l + 1) = betB a 0 (mostA k l) := by rw [Bool.eq_iff_iff]; simp [betB]; omega
  have h2 : decide (0 ≤ b ∧ b < mostB k l + 1) = betB b 0 (mostB k l) := by rw [Bool.eq_iff_iff]; simp [betB]; omega
  rw [h1, h2]

theorem nodeOf_stmB (l : LimD) (s : StmD) : (nodeOf l s).isSome = stmB l s := by
  unfold nodeOf stmB
  rw [fieldsB_eq, ← okT_codeB s.code l.v]
  obtain ⟨k, a, b, code⟩ := s
  simp only
  cases hA : betB a 0 (mostA k l) with
  | false => simp
  | true =>
    cases hB : betB b 0 (mostB k l) with
    | false => simp
    | true =>
      simp only [Bool.true_and]
      by_cases h6 : k = 6
      · subst h6
        by_cases hz : code.length = 0 <;> simp [hasB, betB, hz]
      by_cases h7 : k = 7
      · subst h7
        by_cases hz : code.length = 0 <;> simp [hasB, betB, hz]
      by_cases h9 : k = 9
      · subst h9
        by_cases hz : code.length = 0 <;> simp [hasB, betB, hz]
      have hh : hasB k = true := by simp [hasB, h6, h7, h9]
      simp only [hh, if_true, h6, h7, h9, if_false]
      cases liftT code l.v with
      | none => simp
      | some t =>
        by_cases h1 : k = 1
        · subst h1; simp [betB]
        by_cases h2 : k = 2
        · subst h2; simp [betB]
        by_cases h3 : k = 3
        · subst h3; simp [betB]
        by_cases h4 : k = 4
        · subst h4; simp [betB]
        by_cases h5 : k = 5
        · subst h5; simp [betB]
        by_cases h8 : k = 8
        · subst h8; simp [betB]
        have hk : betB k 1 9 = false := by simp [betB]; omega
        simp [h1, h2, h3, h4, h5, h8, hk]

theorem nodesR_some (l : LimD) : ∀ ss : List StmD, (nodesR l ss).isSome = true ↔ ∀ i, i < ss.length → stmB l (ss.getD i stm0) = true := by
  intro ss
  induction ss with
  | nil => simp [nodesR]
  | cons s r ih =>
    have e : (nodesR l (s :: r)).isSome = ((nodeOf l s).isSome && (nodesR l r).isSome) := by
      simp only [nodesR]
      cases nodeOf l s with
      | none => rfl
      | some v => cases nodesR l r <;> rfl
    rw [e, Bool.and_eq_true, ih, nodeOf_stmB]
    constructor
    · rintro ⟨h1, h2⟩ i hi
      match i, hi with
      | 0, _ => simpa using h1
      | i + 1, hi => simpa using h2 i (by simpa using hi)
    · intro h
      exact ⟨by simpa using h 0 (by simp), fun i hi => by simpa using h (i + 1) (by simpa using hi)⟩

theorem liftAll_stmsB (l : LimD) (ss : List StmD) : (liftAll l ss).isSome = stmsB l ss := by
  rw [Bool.eq_iff_iff]
  unfold liftAll stmsB
  rw [decide_eq_true_iff]
  by_cases h : limP l ∧ ss.length ≤ 50
  · rw [if_pos h, nodesR_some]
    exact ⟨fun hh => ⟨h.1, h.2, hh⟩, fun hh => hh.2.2⟩
  · rw [if_neg h]
    constructor
    · intro hh; cases hh
    · intro hh; exact absurd ⟨hh.1, hh.2.1⟩ h

theorem ents46 : ∀ (args : Array Value) (w : World), (callFunc 98 args).run Tryz.prog w = .ok (.enter 98 args) w := enter_of (f := 98) Tryz.func98 (by kernel_rfl) rfl

set_option maxHeartbeats 1000000 in
theorem implStmsOK_any (ao : Option Addr) (n c : Nat) (ss : List StmD) (o s t v : Int) (w : World) (hn : n ≤ 9223372036854775807) (hs : StmsOf w ao n ss) :
    Calls Tryz.prog 71 #[.slice ao n c, .agg #[.int .i64 o, .int .i64 s, .int .i64 t, .int .i64 v]] w fun e w' => e = .returned (.bool (stmsB ⟨o, s, t, v⟩ ss)) ∧ Below w.heap.size w w' := by
  have hmf : ∀ (fn : Fn) (first cap : Array Value) (w : World), (Instr.makeFunc fn first cap).run Tryz.prog w = .ok (.func fn first cap) w := fun _ _ _ _ => rfl
  rw [← liftAll_stmsB]
  obtain ⟨W, hW⟩ : ∃ W, W = ((w.alloc (.cells #[.slice ao n c] 112)).alloc (.cells #[.int .i64 o, .int .i64 s, .int .i64 t, .int .i64 v] 93)) := ⟨_, rfl⟩
  have hWs : W.heap.size = w.heap.size + 1 + 1 := by rw [hW]; simp
  have bW : Below w.heap.size w W := by rw [hW]; exact below2 _ _ _
  have c0 : W.heap[w.heap.size]? = some (.cells #[.slice ao n c] 112 (0, 0)) := by rw [hW]; exact block_below (heap_alloc_new w _) (below1 _ _)
  have c1 : W.heap[w.heap.size + 1]? = some (.cells #[.int .i64 o, .int .i64 s, .int .i64 t, .int .i64 v] 93 (0, 0)) := by rw [hW]; simpa using heap_alloc_new (w.alloc (.cells #[.slice ao n c] 112)) (.cells #[.int .i64 o, .int .i64 s, .int .i64 t, .int .i64 v] 93)
  have L : Calls Tryz.prog 98 #[.pointer (some ⟨w.heap.size, 0, none⟩), .pointer (some ⟨w.heap.size + 1, 0, none⟩)] (W.alloc (.cells #[.nilIface] 159)) fun e w' => (match liftAll ⟨o, s, t, v⟩ ss with | some _ => e = .returned (.tuple #[]) | none => Pan e) ∧ Below (W.heap.size + 1) (W.alloc (.cells #[.nilIface] 159)) w' := by
    have d0 := cell_of_one (block_below c0 (below1 W (.cells #[.nilIface] 159)))
    obtain ⟨d1, d2, d3, d4⟩ := quad_cells (block_below c1 (below1 W (.cells #[.nilIface] 159)))
    have H := hid (liftStms_any ao n c ss o s t v (W.alloc (.cells #[.nilIface] 159)) hn (hs.below (bW.trans ((below1 _ _).mono (by omega)))))
    have hz : (W.alloc (.cells #[.nilIface] 159)).heap.size = W.heap.size + 1 := by simp
    obtain ⟨V, hV⟩ : ∃ V, V = W.alloc (.cells #[.nilIface] 159) := ⟨_, rfl⟩
    rw [← hV] at d0 d1 d2 d3 d4 H hz ⊢
    clear hV c0 c1 bW hW hs
    cases hlt : liftAll ⟨o, s, t, v⟩ ss with
    | some t =>
      rw [hlt] at H
      unfold StmsEnd at H
      simp only at H ⊢
      rw [← hz]
      clear hlt hz hWs
      go_enter Tryz.func98, Tryz.ntmps98
      go_wp2_with (go_at_call 99; refine H.out.mono ?_; rintro e w1 ⟨⟨val, rfl, _⟩, hb⟩; have HB := hid hb; clear hb)
      go_end0
      exact ⟨rfl, HB.out⟩
    | none =>
      rw [hlt] at H
      unfold StmsEnd at H
      simp only at H ⊢
      rw [← hz]
      clear hlt hz hWs
      go_enter Tryz.func98, Tryz.ntmps98
      go_wp2_with (go_at_call 99; refine H.out.mono ?_; rintro e w1 ⟨⟨sx, rfl⟩, hb⟩; have HB := hid hb; clear hb)
      exact ⟨rfl, ⟨_, rfl⟩, HB.out⟩
  cases hlt : liftAll ⟨o, s, t, v⟩ ss with
  | some tt =>
    rw [hlt] at L
    have A := hid (attempt_yes 98 _ W (fun _ => True) ents46 (L.mono fun e w' ⟨h1, h2⟩ => ⟨h1, trivial, h2⟩))
    have HW := hid hW
    have BW := hid bW
    have hq := nil_eq
    rw [hW] at A
    clear hlt L c0 c1 bW hs
    go_enter Tryz.func71, Tryz.ntmps71
    go_wp2_with (go_at_call 97; refine A.out.mono ?_; rintro e w1 ⟨rfl, w2, _, hb2, hw1⟩; have HB := hid hb2; have H1 := hid hw1; clear hb2 hw1)
    go_ret
    refine ⟨rfl, ?_⟩
    rw [H1.out]
    have hb := HB.out
    rw [← HW.out] at hb ⊢
    exact (BW.out.trans ((below1 _ _).mono (by omega))).trans (hb.mono (by omega)) |>.setCell (by simp; omega) _
  | none =>
    rw [hlt] at L
    have A := hid (attempt_no 98 _ W ents46 L)
    have HW := hid hW
    have BW := hid bW
    have hq := err_eq
    rw [hW] at A
    clear hlt L c0 c1 bW hs
    go_enter Tryz.func71, Tryz.ntmps71
    go_wp2_with (go_at_call 97; refine A.out.mono ?_; rintro e w1 ⟨⟨sx, rfl⟩, hb2⟩; have HB := hid hb2; clear hb2)
    go_ret
    refine ⟨rfl, ?_⟩
    have hb := HB.out
    rw [← HW.out] at hb
    exact BW.out.trans (hb.mono (by omega))

end Go.Proofs.YtkcbomhhdfgihaaGreat
