import Derived.Test.YtkcbomhhdfgihaaGreatO4
namespace Go.Proofs.YtkcbomhhdfgihaaGreat
open Go.RowKit Go.Sort

set_option linter.unusedVariables false

/-- The node that an entry is lifted to. -/
def nodeOf (l : LimD) (s : StmD) : Option Value :=
  if fieldsB s.kind s.a s.b s.code.length l = false then none
  else if s.kind = 6 then some (.iface 198 (.agg #[])) else if s.kind = 7 then some (.iface 199 (.agg #[])) else if s.kind = 9 then some (.iface 201 (.agg #[.int .i64 s.a]))
  else (liftT s.code l.v).bind fun t =>
    if s.kind = 1 then some (.iface 203 (.agg #[.int .i64 s.a, tv t])) else if s.kind = 2 then some (.iface 205 (.agg #[tv t]))
    else if s.kind = 3 then some (.iface 207 (.agg #[.int .i64 s.a, .int .i64 s.b, tv t])) else if s.kind = 4 then some (.iface 208 (.agg #[.int .i64 s.a, .int .i64 s.b, tv t]))
    else if s.kind = 5 then some (.iface 210 (.agg #[.int .i64 s.b, tv t])) else if s.kind = 8 then some (.iface 212 (.agg #[.int .i64 s.a, .int .i64 s.b, tv t])) else none

def StmEnd (w : World) (r : Option Value) (e : Ending) (w' : World) : Prop :=
  match r with
  | some v => e = .returned v ∧ Below w.heap.size w w'
  | none => Pan e ∧ Below w.heap.size w w'

set_option maxHeartbeats 1600000 in
theorem stm6 (a b : Int) (co : Option Addr) (cn cc : Nat) (code : List (Int × Int)) (o s t v : Int) (w : World) (hn : cn ≤ 9223372036854775807) (hs : ItemsOf w co cn code) :
    Calls Tryz.prog 120 #[.agg #[.int .i64 (6), .int .i64 a, .int .i64 b, .slice co cn cc], .agg #[.int .i64 o, .int .i64 s, .int .i64 t, .int .i64 v]] w (StmEnd w (nodeOf ⟨o, s, t, v⟩ ⟨(6), a, b, code⟩)) := by
  have HS : Hid (∀ w', Below w.heap.size w w' → ItemsOf w' co cn code) := fun w' h => hs.below h
  have EL : Hid (code.length = cn) := hs.1
  obtain ⟨fb, hfb⟩ : ∃ x, x = fieldsB (6) a b cn ⟨o, s, t, v⟩ := ⟨_, rfl⟩
  have D := hid (fun w => demandFields_any (6) a b co cn cc o s t v w)
  rw [← hfb] at D
  have R1 := hid (block_below (heap_alloc_new w (.cells #[.int .i64 (6), .int .i64 a, .int .i64 b, .slice co cn cc] 143)) (below1 _ (.cells #[.int .i64 o, .int .i64 s, .int .i64 t, .int .i64 v] 93)))
  have Q1 := hid (heap_alloc_new (w.alloc (.cells #[.int .i64 (6), .int .i64 a, .int .i64 b, .slice co cn cc] 143)) (.cells #[.int .i64 o, .int .i64 s, .int .i64 t, .int .i64 v] 93))
  simp only [World.size_alloc] at Q1
  clear hs
  cases fb with
  | false =>
    have E : Hid (nodeOf ⟨o, s, t, v⟩ ⟨(6), a, b, code⟩ = none) := hid (by simp [nodeOf, EL.out, ← hfb])
    rw [E.out]
    unfold DemEnd at D
    simp only at D
    clear hfb E
    go_enter Tryz.func120, Tryz.ntmps120
    go_wp2_with (go_at_call 129; refine (D.out _).mono ?_; rintro e w1 ⟨⟨sx, rfl⟩, hb1⟩; have B1 := hid ((below2 _ _ _).trans (hb1.mono (by simp; omega))); clear hb1)
    exact ⟨rfl, ⟨_, rfl⟩, B1.out⟩
  | true =>
    unfold DemEnd at D
    simp only at D
    have E : Hid (nodeOf ⟨o, s, t, v⟩ ⟨(6), a, b, code⟩ = some (.iface 198 (.agg #[]))) := hid (by simp [nodeOf, EL.out, ← hfb])
    rw [E.out]
    clear hfb E
    go_enter Tryz.func120, Tryz.ntmps120
    go_wp2_with (go_at_call 129; refine (D.out _).mono ?_; rintro e w1 ⟨rfl, hb1⟩; have B1 := hid ((below2 _ _ _).trans (hb1.mono (by simp; omega))); have R2 := hid (block_below R1.out hb1); have Q2 := hid (block_below Q1.out hb1); obtain ⟨r0, r1, r2, r3⟩ := quad_cells R2.out; obtain ⟨q0, q1, q2, q3⟩ := quad_cells Q2.out; clear hb1)
    go_ret
    exact ⟨rfl, B1.out⟩

set_option maxHeartbeats 1600000 in
theorem stm7 (a b : Int) (co : Option Addr) (cn cc : Nat) (code : List (Int × Int)) (o s t v : Int) (w : World) (hn : cn ≤ 9223372036854775807) (hs : ItemsOf w co cn code) :
    Calls Tryz.prog 120 #[.agg #[.int .i64 (7), .int .i64 a, .int .i64 b, .slice co cn cc], .agg #[.int .i64 o, .int .i64 s, .int .i64 t, .int .i64 v]] w (StmEnd w (nodeOf ⟨o, s, t, v⟩ ⟨(7), a, b, code⟩)) := by
  have HS : Hid (∀ w', Below w.heap.size w w' → ItemsOf w' co cn code) := fun w' h => hs.below h
  have EL : Hid (code.length = cn) := hs.1
  obtain ⟨fb, hfb⟩ : ∃ x, x = fieldsB (7) a b cn ⟨o, s, t, v⟩ := ⟨_, rfl⟩
  have D := hid (fun w => demandFields_any (7) a b co cn cc o s t v w)
  rw [← hfb] at D
  have R1 := hid (block_below (heap_alloc_new w (.cells #[.int .i64 (7), .int .i64 a, .int .i64 b, .slice co cn cc] 143)) (below1 _ (.cells #[.int .i64 o, .int .i64 s, .int .i64 t, .int .i64 v] 93)))
  have Q1 := hid (heap_alloc_new (w.alloc (.cells #[.int .i64 (7), .int .i64 a, .int .i64 b, .slice co cn cc] 143)) (.cells #[.int .i64 o, .int .i64 s, .int .i64 t, .int .i64 v] 93))
  simp only [World.size_alloc] at Q1
  clear hs
  cases fb with
  | false =>
    have E : Hid (nodeOf ⟨o, s, t, v⟩ ⟨(7), a, b, code⟩ = none) := hid (by simp [nodeOf, EL.out, ← hfb])
    rw [E.out]
    unfold DemEnd at D
    simp only at D
    clear hfb E
    go_enter Tryz.func120, Tryz.ntmps120
    go_wp2_with (go_at_call 129; refine (D.out _).mono ?_; rintro e w1 ⟨⟨sx, rfl⟩, hb1⟩; have B1 := hid ((below2 _ _ _).trans (hb1.mono (by simp; omega))); clear hb1)
    exact ⟨rfl, ⟨_, rfl⟩, B1.out⟩
  | true =>
    unfold DemEnd at D
    simp only at D
    have E : Hid (nodeOf ⟨o, s, t, v⟩ ⟨(7), a, b, code⟩ = some (.iface 199 (.agg #[]))) := hid (by simp [nodeOf, EL.out, ← hfb])
    rw [E.out]
    clear hfb E
    go_enter Tryz.func120, Tryz.ntmps120
    go_wp2_with (go_at_call 129; refine (D.out _).mono ?_; rintro e w1 ⟨rfl, hb1⟩; have B1 := hid ((below2 _ _ _).trans (hb1.mono (by simp; omega))); have R2 := hid (block_below R1.out hb1); have Q2 := hid (block_below Q1.out hb1); obtain ⟨r0, r1, r2, r3⟩ := quad_cells R2.out; obtain ⟨q0, q1, q2, q3⟩ := quad_cells Q2.out; clear hb1)
    go_ret
    exact ⟨rfl, B1.out⟩

set_option maxHeartbeats 1600000 in
theorem stm9 (a b : Int) (co : Option Addr) (cn cc : Nat) (code : List (Int × Int)) (o s t v : Int) (w : World) (hn : cn ≤ 9223372036854775807) (hs : ItemsOf w co cn code) :
    Calls Tryz.prog 120 #[.agg #[.int .i64 (9), .int .i64 a, .int .i64 b, .slice co cn cc], .agg #[.int .i64 o, .int .i64 s, .int .i64 t, .int .i64 v]] w (StmEnd w (nodeOf ⟨o, s, t, v⟩ ⟨(9), a, b, code⟩)) := by
  have HS : Hid (∀ w', Below w.heap.size w w' → ItemsOf w' co cn code) := fun w' h => hs.below h
  have EL : Hid (code.length = cn) := hs.1
  obtain ⟨fb, hfb⟩ : ∃ x, x = fieldsB (9) a b cn ⟨o, s, t, v⟩ := ⟨_, rfl⟩
  have D := hid (fun w => demandFields_any (9) a b co cn cc o s t v w)
  rw [← hfb] at D
  have R1 := hid (block_below (heap_alloc_new w (.cells #[.int .i64 (9), .int .i64 a, .int .i64 b, .slice co cn cc] 143)) (below1 _ (.cells #[.int .i64 o, .int .i64 s, .int .i64 t, .int .i64 v] 93)))
  have Q1 := hid (heap_alloc_new (w.alloc (.cells #[.int .i64 (9), .int .i64 a, .int .i64 b, .slice co cn cc] 143)) (.cells #[.int .i64 o, .int .i64 s, .int .i64 t, .int .i64 v] 93))
  simp only [World.size_alloc] at Q1
  clear hs
  cases fb with
  | false =>
    have E : Hid (nodeOf ⟨o, s, t, v⟩ ⟨(9), a, b, code⟩ = none) := hid (by simp [nodeOf, EL.out, ← hfb])
    rw [E.out]
    unfold DemEnd at D
    simp only at D
    clear hfb E
    go_enter Tryz.func120, Tryz.ntmps120
    go_wp2_with (go_at_call 129; refine (D.out _).mono ?_; rintro e w1 ⟨⟨sx, rfl⟩, hb1⟩; have B1 := hid ((below2 _ _ _).trans (hb1.mono (by simp; omega))); clear hb1)
    exact ⟨rfl, ⟨_, rfl⟩, B1.out⟩
  | true =>
    unfold DemEnd at D
    simp only at D
    have E : Hid (nodeOf ⟨o, s, t, v⟩ ⟨(9), a, b, code⟩ = some (.iface 201 (.agg #[.int .i64 a]))) := hid (by simp [nodeOf, EL.out, ← hfb])
    rw [E.out]
    clear hfb E
    go_enter Tryz.func120, Tryz.ntmps120
    go_wp2_with (go_at_call 129; refine (D.out _).mono ?_; rintro e w1 ⟨rfl, hb1⟩; have B1 := hid ((below2 _ _ _).trans (hb1.mono (by simp; omega))); have R2 := hid (block_below R1.out hb1); have Q2 := hid (block_below Q1.out hb1); obtain ⟨r0, r1, r2, r3⟩ := quad_cells R2.out; obtain ⟨q0, q1, q2, q3⟩ := quad_cells Q2.out; clear hb1)
    go_ret
    exact ⟨rfl, B1.out⟩

set_option maxHeartbeats 1600000 in
theorem stm1 (a b : Int) (co : Option Addr) (cn cc : Nat) (code : List (Int × Int)) (o s t v : Int) (w : World) (hn : cn ≤ 9223372036854775807) (hs : ItemsOf w co cn code) :
    Calls Tryz.prog 120 #[.agg #[.int .i64 (1), .int .i64 a, .int .i64 b, .slice co cn cc], .agg #[.int .i64 o, .int .i64 s, .int .i64 t, .int .i64 v]] w (StmEnd w (nodeOf ⟨o, s, t, v⟩ ⟨(1), a, b, code⟩)) := by
  have HS : Hid (∀ w', Below w.heap.size w w' → ItemsOf w' co cn code) := fun w' h => hs.below h
  have EL : Hid (code.length = cn) := hs.1
  obtain ⟨fb, hfb⟩ : ∃ x, x = fieldsB (1) a b cn ⟨o, s, t, v⟩ := ⟨_, rfl⟩
  have D := hid (fun w => demandFields_any (1) a b co cn cc o s t v w)
  rw [← hfb] at D
  have R1 := hid (block_below (heap_alloc_new w (.cells #[.int .i64 (1), .int .i64 a, .int .i64 b, .slice co cn cc] 143)) (below1 _ (.cells #[.int .i64 o, .int .i64 s, .int .i64 t, .int .i64 v] 93)))
  have Q1 := hid (heap_alloc_new (w.alloc (.cells #[.int .i64 (1), .int .i64 a, .int .i64 b, .slice co cn cc] 143)) (.cells #[.int .i64 o, .int .i64 s, .int .i64 t, .int .i64 v] 93))
  simp only [World.size_alloc] at Q1
  clear hs
  cases fb with
  | false =>
    have E : Hid (nodeOf ⟨o, s, t, v⟩ ⟨(1), a, b, code⟩ = none) := hid (by simp [nodeOf, EL.out, ← hfb])
    rw [E.out]
    unfold DemEnd at D
    simp only at D
    clear hfb E
    go_enter Tryz.func120, Tryz.ntmps120
    go_wp2_with (go_at_call 129; refine (D.out _).mono ?_; rintro e w1 ⟨⟨sx, rfl⟩, hb1⟩; have B1 := hid ((below2 _ _ _).trans (hb1.mono (by simp; omega))); clear hb1)
    exact ⟨rfl, ⟨_, rfl⟩, B1.out⟩
  | true =>
    unfold DemEnd at D
    simp only at D
    have L : Hid (∀ w', Below w.heap.size w w' → Calls Tryz.prog 122 #[.slice co cn cc, .int .i64 v] w' (CodeEnd w' (liftT code v))) := fun w' h => liftCode_any co cn cc code v w' hn (HS.out w' h)
    cases hl : liftT code v with
    | none =>
      have E : Hid (nodeOf ⟨o, s, t, v⟩ ⟨(1), a, b, code⟩ = none) := hid (by simp [nodeOf, EL.out, ← hfb, hl])
      rw [E.out]
      rw [hl] at L
      unfold CodeEnd at L
      simp only at L
      clear hfb E hl
      go_enter Tryz.func120, Tryz.ntmps120
      go_wp2_with (first | (go_at_call 129; refine (D.out _).mono ?_; rintro e w1 ⟨rfl, hb1⟩; have B1 := hid ((below2 _ _ _).trans (hb1.mono (by simp; omega))); have R2 := hid (block_below R1.out hb1); have Q2 := hid (block_below Q1.out hb1); obtain ⟨r0, r1, r2, r3⟩ := quad_cells R2.out; obtain ⟨q0, q1, q2, q3⟩ := quad_cells Q2.out; clear hb1) | (go_at_call 122; refine (L.out _ B1.out).mono ?_; rintro e w2 ⟨⟨sx, rfl⟩, hb2⟩; have B2 := hid (B1.out.trans (hb2.mono B1.out.size)); clear hb2))
      exact ⟨rfl, ⟨_, rfl⟩, B2.out⟩
    | some tr =>
      obtain ⟨y, x, hy⟩ := tv_form tr
      have E : Hid (nodeOf ⟨o, s, t, v⟩ ⟨(1), a, b, code⟩ = some (.iface 203 (.agg #[.int .i64 a, .iface y x]))) := hid (by simp [nodeOf, EL.out, ← hfb, hl, hy])
      rw [E.out]
      rw [hl] at L
      unfold CodeEnd at L
      simp only [hy] at L
      clear hfb E hl hy
      go_enter Tryz.func120, Tryz.ntmps120
      go_wp2_with (first | (go_at_call 129; refine (D.out _).mono ?_; rintro e w1 ⟨rfl, hb1⟩; have B1 := hid ((below2 _ _ _).trans (hb1.mono (by simp; omega))); have R2 := hid (block_below R1.out hb1); have Q2 := hid (block_below Q1.out hb1); obtain ⟨r0, r1, r2, r3⟩ := quad_cells R2.out; obtain ⟨q0, q1, q2, q3⟩ := quad_cells Q2.out; clear hb1) | (go_at_call 122; refine (L.out _ B1.out).mono ?_; rintro e w2 ⟨rfl, hb2⟩; have B2 := hid (B1.out.trans (hb2.mono B1.out.size)); obtain ⟨u0, u1, u2, u3⟩ := quad_cells (block_below R2.out hb2); clear hb2))
      go_ret
      exact ⟨rfl, B2.out⟩

set_option maxHeartbeats 1600000 in
theorem stm2 (a b : Int) (co : Option Addr) (cn cc : Nat) (code : List (Int × Int)) (o s t v : Int) (w : World) (hn : cn ≤ 9223372036854775807) (hs : ItemsOf w co cn code) :
    Calls Tryz.prog 120 #[.agg #[.int .i64 (2), .int .i64 a, .int .i64 b, .slice co cn cc], .agg #[.int .i64 o, .int .i64 s, .int .i64 t, .int .i64 v]] w (StmEnd w (nodeOf ⟨o, s, t, v⟩ ⟨(2), a, b, code⟩)) := by
  have HS : Hid (∀ w', Below w.heap.size w w' → ItemsOf w' co cn code) := fun w' h => hs.below h
  have EL : Hid (code.length = cn) := hs.1
  obtain ⟨fb, hfb⟩ : ∃ x, x = fieldsB (2) a b cn ⟨o, s, t, v⟩ := ⟨_, rfl⟩
  have D := hid (fun w => demandFields_any (2) a b co cn cc o s t v w)
  rw [← hfb] at D
  have R1 := hid (block_below (heap_alloc_new w (.cells #[.int .i64 (2), .int .i64 a, .int .i64 b, .slice co cn cc] 143)) (below1 _ (.cells #[.int .i64 o, .int .i64 s, .int .i64 t, .int .i64 v] 93)))
  have Q1 := hid (heap_alloc_new (w.alloc (.cells #[.int .i64 (2), .int .i64 a, .int .i64 b, .slice co cn cc] 143)) (.cells #[.int .i64 o, .int .i64 s, .int .i64 t, .int .i64 v] 93))
  simp only [World.size_alloc] at Q1
  clear hs
  cases fb with
  | false =>
    have E : Hid (nodeOf ⟨o, s, t, v⟩ ⟨(2), a, b, code⟩ = none) := hid (by simp [nodeOf, EL.out, ← hfb])
    rw [E.out]
    unfold DemEnd at D
    simp only at D
    clear hfb E
    go_enter Tryz.func120, Tryz.ntmps120
    go_wp2_with (go_at_call 129; refine (D.out _).mono ?_; rintro e w1 ⟨⟨sx, rfl⟩, hb1⟩; have B1 := hid ((below2 _ _ _).trans (hb1.mono (by simp; omega))); clear hb1)
    exact ⟨rfl, ⟨_, rfl⟩, B1.out⟩
  | true =>
    unfold DemEnd at D
    simp only at D
    have L : Hid (∀ w', Below w.heap.size w w' → Calls Tryz.prog 122 #[.slice co cn cc, .int .i64 v] w' (CodeEnd w' (liftT code v))) := fun w' h => liftCode_any co cn cc code v w' hn (HS.out w' h)
    cases hl : liftT code v with
    | none =>
      have E : Hid (nodeOf ⟨o, s, t, v⟩ ⟨(2), a, b, code⟩ = none) := hid (by simp [nodeOf, EL.out, ← hfb, hl])
      rw [E.out]
      rw [hl] at L
      unfold CodeEnd at L
      simp only at L
      clear hfb E hl
      go_enter Tryz.func120, Tryz.ntmps120
      go_wp2_with (first | (go_at_call 129; refine (D.out _).mono ?_; rintro e w1 ⟨rfl, hb1⟩; have B1 := hid ((below2 _ _ _).trans (hb1.mono (by simp; omega))); have R2 := hid (block_below R1.out hb1); have Q2 := hid (block_below Q1.out hb1); obtain ⟨r0, r1, r2, r3⟩ := quad_cells R2.out; obtain ⟨q0, q1, q2, q3⟩ := quad_cells Q2.out; clear hb1) | (go_at_call 122; refine (L.out _ B1.out).mono ?_; rintro e w2 ⟨⟨sx, rfl⟩, hb2⟩; have B2 := hid (B1.out.trans (hb2.mono B1.out.size)); clear hb2))
      exact ⟨rfl, ⟨_, rfl⟩, B2.out⟩
    | some tr =>
      obtain ⟨y, x, hy⟩ := tv_form tr
      have E : Hid (nodeOf ⟨o, s, t, v⟩ ⟨(2), a, b, code⟩ = some (.iface 205 (.agg #[.iface y x]))) := hid (by simp [nodeOf, EL.out, ← hfb, hl, hy])
      rw [E.out]
      rw [hl] at L
      unfold CodeEnd at L
      simp only [hy] at L
      clear hfb E hl hy
      go_enter Tryz.func120, Tryz.ntmps120
      go_wp2_with (first | (go_at_call 129; refine (D.out _).mono ?_; rintro e w1 ⟨rfl, hb1⟩; have B1 := hid ((below2 _ _ _).trans (hb1.mono (by simp; omega))); have R2 := hid (block_below R1.out hb1); have Q2 := hid (block_below Q1.out hb1); obtain ⟨r0, r1, r2, r3⟩ := quad_cells R2.out; obtain ⟨q0, q1, q2, q3⟩ := quad_cells Q2.out; clear hb1) | (go_at_call 122; refine (L.out _ B1.out).mono ?_; rintro e w2 ⟨rfl, hb2⟩; have B2 := hid (B1.out.trans (hb2.mono B1.out.size)); obtain ⟨u0, u1, u2, u3⟩ := quad_cells (block_below R2.out hb2); clear hb2))
      go_ret
      exact ⟨rfl, B2.out⟩

set_option maxHeartbeats 1600000 in
theorem stm3 (a b : Int) (co : Option Addr) (cn cc : Nat) (code : List (Int × Int)) (o s t v : Int) (w : World) (hn : cn ≤ 9223372036854775807) (hs : ItemsOf w co cn code) :
    Calls Tryz.prog 120 #[.agg #[.int .i64 (3), .int .i64 a, .int .i64 b, .slice co cn cc], .agg #[.int .i64 o, .int .i64 s, .int .i64 t, .int .i64 v]] w (StmEnd w (nodeOf ⟨o, s, t, v⟩ ⟨(3), a, b, code⟩)) := by
  have HS : Hid (∀ w', Below w.heap.size w w' → ItemsOf w' co cn code) := fun w' h => hs.below h
  have EL : Hid (code.length = cn) := hs.1
  obtain ⟨fb, hfb⟩ : ∃ x, x = fieldsB (3) a b cn ⟨o, s, t, v⟩ := ⟨_, rfl⟩
  have D := hid (fun w => demandFields_any (3) a b co cn cc o s t v w)
  rw [← hfb] at D
  have R1 := hid (block_below (heap_alloc_new w (.cells #[.int .i64 (3), .int .i64 a, .int .i64 b, .slice co cn cc] 143)) (below1 _ (.cells #[.int .i64 o, .int .i64 s, .int .i64 t, .int .i64 v] 93)))
  have Q1 := hid (heap_alloc_new (w.alloc (.cells #[.int .i64 (3), .int .i64 a, .int .i64 b, .slice co cn cc] 143)) (.cells #[.int .i64 o, .int .i64 s, .int .i64 t, .int .i64 v] 93))
  simp only [World.size_alloc] at Q1
  clear hs
  cases fb with
  | false =>
    have E : Hid (nodeOf ⟨o, s, t, v⟩ ⟨(3), a, b, code⟩ = none) := hid (by simp [nodeOf, EL.out, ← hfb])
    rw [E.out]
    unfold DemEnd at D
    simp only at D
    clear hfb E
    go_enter Tryz.func120, Tryz.ntmps120
    go_wp2_with (go_at_call 129; refine (D.out _).mono ?_; rintro e w1 ⟨⟨sx, rfl⟩, hb1⟩; have B1 := hid ((below2 _ _ _).trans (hb1.mono (by simp; omega))); clear hb1)
    exact ⟨rfl, ⟨_, rfl⟩, B1.out⟩
  | true =>
    unfold DemEnd at D
    simp only at D
    have L : Hid (∀ w', Below w.heap.size w w' → Calls Tryz.prog 122 #[.slice co cn cc, .int .i64 v] w' (CodeEnd w' (liftT code v))) := fun w' h => liftCode_any co cn cc code v w' hn (HS.out w' h)
    cases hl : liftT code v with
    | none =>
      have E : Hid (nodeOf ⟨o, s, t, v⟩ ⟨(3), a, b, code⟩ = none) := hid (by simp [nodeOf, EL.out, ← hfb, hl])
      rw [E.out]
      rw [hl] at L
      unfold CodeEnd at L
      simp only at L
      clear hfb E hl
      go_enter Tryz.func120, Tryz.ntmps120
      go_wp2_with (first | (go_at_call 129; refine (D.out _).mono ?_; rintro e w1 ⟨rfl, hb1⟩; have B1 := hid ((below2 _ _ _).trans (hb1.mono (by simp; omega))); have R2 := hid (block_below R1.out hb1); have Q2 := hid (block_below Q1.out hb1); obtain ⟨r0, r1, r2, r3⟩ := quad_cells R2.out; obtain ⟨q0, q1, q2, q3⟩ := quad_cells Q2.out; clear hb1) | (go_at_call 122; refine (L.out _ B1.out).mono ?_; rintro e w2 ⟨⟨sx, rfl⟩, hb2⟩; have B2 := hid (B1.out.trans (hb2.mono B1.out.size)); clear hb2))
      exact ⟨rfl, ⟨_, rfl⟩, B2.out⟩
    | some tr =>
      obtain ⟨y, x, hy⟩ := tv_form tr
      have E : Hid (nodeOf ⟨o, s, t, v⟩ ⟨(3), a, b, code⟩ = some (.iface 207 (.agg #[.int .i64 a, .int .i64 b, .iface y x]))) := hid (by simp [nodeOf, EL.out, ← hfb, hl, hy])
      rw [E.out]
      rw [hl] at L
      unfold CodeEnd at L
      simp only [hy] at L
      clear hfb E hl hy
      go_enter Tryz.func120, Tryz.ntmps120
      go_wp2_with (first | (go_at_call 129; refine (D.out _).mono ?_; rintro e w1 ⟨rfl, hb1⟩; have B1 := hid ((below2 _ _ _).trans (hb1.mono (by simp; omega))); have R2 := hid (block_below R1.out hb1); have Q2 := hid (block_below Q1.out hb1); obtain ⟨r0, r1, r2, r3⟩ := quad_cells R2.out; obtain ⟨q0, q1, q2, q3⟩ := quad_cells Q2.out; clear hb1) | (go_at_call 122; refine (L.out _ B1.out).mono ?_; rintro e w2 ⟨rfl, hb2⟩; have B2 := hid (B1.out.trans (hb2.mono B1.out.size)); obtain ⟨u0, u1, u2, u3⟩ := quad_cells (block_below R2.out hb2); clear hb2))
      go_ret
      exact ⟨rfl, B2.out⟩

set_option maxHeartbeats 1600000 in
theorem stm4 (a b : Int) (co : Option Addr) (cn cc : Nat) (code : List (Int × Int)) (o s t v : Int) (w : World) (hn : cn ≤ 9223372036854775807) (hs : ItemsOf w co cn code) :
    Calls Tryz.prog 120 #[.agg #[.int .i64 (4), .int .i64 a, .int .i64 b, .slice co cn cc], .agg #[.int .i64 o, .int .i64 s, .int .i64 t, .int .i64 v]] w (StmEnd w (nodeOf ⟨o, s, t, v⟩ ⟨(4), a, b, code⟩)) := by
  have HS : Hid (∀ w', Below w.heap.size w w' → ItemsOf w' co cn code) := fun w' h => hs.below h
  have EL : Hid (code.length = cn) := hs.1
  obtain ⟨fb, hfb⟩ : ∃ x, x = fieldsB (4) a b cn ⟨o, s, t, v⟩ := ⟨_, rfl⟩
  have D := hid (fun w => demandFields_any (4) a b co cn cc o s t v w)
  rw [← hfb] at D
  have R1 := hid (block_below (heap_alloc_new w (.cells #[.int .i64 (4), .int .i64 a, .int .i64 b, .slice co cn cc] 143)) (below1 _ (.cells #[.int .i64 o, .int .i64 s, .int .i64 t, .int .i64 v] 93)))
  have Q1 := hid (heap_alloc_new (w.alloc (.cells #[.int .i64 (4), .int .i64 a, .int .i64 b, .slice co cn cc] 143)) (.cells #[.int .i64 o, .int .i64 s, .int .i64 t, .int .i64 v] 93))
  simp only [World.size_alloc] at Q1
  clear hs
  cases fb with
  | false =>
    have E : Hid (nodeOf ⟨o, s, t, v⟩ ⟨(4), a, b, code⟩ = none) := hid (by simp [nodeOf, EL.out, ← hfb])
    rw [E.out]
    unfold DemEnd at D
    simp only at D
    clear hfb E
    go_enter Tryz.func120, Tryz.ntmps120
    go_wp2_with (go_at_call 129; refine (D.out _).mono ?_; rintro e w1 ⟨⟨sx, rfl⟩, hb1⟩; have B1 := hid ((below2 _ _ _).trans (hb1.mono (by simp; omega))); clear hb1)
    exact ⟨rfl, ⟨_, rfl⟩, B1.out⟩
  | true =>
    unfold DemEnd at D
    simp only at D
    have L : Hid (∀ w', Below w.heap.size w w' → Calls Tryz.prog 122 #[.slice co cn cc, .int .i64 v] w' (CodeEnd w' (liftT code v))) := fun w' h => liftCode_any co cn cc code v w' hn (HS.out w' h)
    cases hl : liftT code v with
    | none =>
      have E : Hid (nodeOf ⟨o, s, t, v⟩ ⟨(4), a, b, code⟩ = none) := hid (by simp [nodeOf, EL.out, ← hfb, hl])
      rw [E.out]
      rw [hl] at L
      unfold CodeEnd at L
      simp only at L
      clear hfb E hl
      go_enter Tryz.func120, Tryz.ntmps120
      go_wp2_with (first | (go_at_call 129; refine (D.out _).mono ?_; rintro e w1 ⟨rfl, hb1⟩; have B1 := hid ((below2 _ _ _).trans (hb1.mono (by simp; omega))); have R2 := hid (block_below R1.out hb1); have Q2 := hid (block_below Q1.out hb1); obtain ⟨r0, r1, r2, r3⟩ := quad_cells R2.out; obtain ⟨q0, q1, q2, q3⟩ := quad_cells Q2.out; clear hb1) | (go_at_call 122; refine (L.out _ B1.out).mono ?_; rintro e w2 ⟨⟨sx, rfl⟩, hb2⟩; have B2 := hid (B1.out.trans (hb2.mono B1.out.size)); clear hb2))
      exact ⟨rfl, ⟨_, rfl⟩, B2.out⟩
    | some tr =>
      obtain ⟨y, x, hy⟩ := tv_form tr
      have E : Hid (nodeOf ⟨o, s, t, v⟩ ⟨(4), a, b, code⟩ = some (.iface 208 (.agg #[.int .i64 a, .int .i64 b, .iface y x]))) := hid (by simp [nodeOf, EL.out, ← hfb, hl, hy])
      rw [E.out]
      rw [hl] at L
      unfold CodeEnd at L
      simp only [hy] at L
      clear hfb E hl hy
      go_enter Tryz.func120, Tryz.ntmps120
      go_wp2_with (first | (go_at_call 129; refine (D.out _).mono ?_; rintro e w1 ⟨rfl, hb1⟩; have B1 := hid ((below2 _ _ _).trans (hb1.mono (by simp; omega))); have R2 := hid (block_below R1.out hb1); have Q2 := hid (block_below Q1.out hb1); obtain ⟨r0, r1, r2, r3⟩ := quad_cells R2.out; obtain ⟨q0, q1, q2, q3⟩ := quad_cells Q2.out; clear hb1) | (go_at_call 122; refine (L.out _ B1.out).mono ?_; rintro e w2 ⟨rfl, hb2⟩; have B2 := hid (B1.out.trans (hb2.mono B1.out.size)); obtain ⟨u0, u1, u2, u3⟩ := quad_cells (block_below R2.out hb2); clear hb2))
      go_ret
      exact ⟨rfl, B2.out⟩

set_option maxHeartbeats 1600000 in
theorem stm5 (a b : Int) (co : Option Addr) (cn cc : Nat) (code : List (Int × Int)) (o s t v : Int) (w : World) (hn : cn ≤ 9223372036854775807) (hs : ItemsOf w co cn code) :
    Calls Tryz.prog 120 #[.agg #[.int .i64 (5), .int .i64 a, .int .i64 b, .slice co cn cc], .agg #[.int .i64 o, .int .i64 s, .int .i64 t, .int .i64 v]] w (StmEnd w (nodeOf ⟨o, s, t, v⟩ ⟨(5), a, b, code⟩)) := by
  have HS : Hid (∀ w', Below w.heap.size w w' → ItemsOf w' co cn code) := fun w' h => hs.below h
  have EL : Hid (code.length = cn) := hs.1
  obtain ⟨fb, hfb⟩ : ∃ x, x = fieldsB (5) a b cn ⟨o, s, t, v⟩ := ⟨_, rfl⟩
  have D := hid (fun w => demandFields_any (5) a b co cn cc o s t v w)
  rw [← hfb] at D
  have R1 := hid (block_below (heap_alloc_new w (.cells #[.int .i64 (5), .int .i64 a, .int .i64 b, .slice co cn cc] 143)) (below1 _ (.cells #[.int .i64 o, .int .i64 s, .int .i64 t, .int .i64 v] 93)))
  have Q1 := hid (heap_alloc_new (w.alloc (.cells #[.int .i64 (5), .int .i64 a, .int .i64 b, .slice co cn cc] 143)) (.cells #[.int .i64 o, .int .i64 s, .int .i64 t, .int .i64 v] 93))
  simp only [World.size_alloc] at Q1
  clear hs
  cases fb with
  | false =>
    have E : Hid (nodeOf ⟨o, s, t, v⟩ ⟨(5), a, b, code⟩ = none) := hid (by simp [nodeOf, EL.out, ← hfb])
    rw [E.out]
    unfold DemEnd at D
    simp only at D
    clear hfb E
    go_enter Tryz.func120, Tryz.ntmps120
    go_wp2_with (go_at_call 129; refine (D.out _).mono ?_; rintro e w1 ⟨⟨sx, rfl⟩, hb1⟩; have B1 := hid ((below2 _ _ _).trans (hb1.mono (by simp; omega))); clear hb1)
    exact ⟨rfl, ⟨_, rfl⟩, B1.out⟩
  | true =>
    unfold DemEnd at D
    simp only at D
    have L : Hid (∀ w', Below w.heap.size w w' → Calls Tryz.prog 122 #[.slice co cn cc, .int .i64 v] w' (CodeEnd w' (liftT code v))) := fun w' h => liftCode_any co cn cc code v w' hn (HS.out w' h)
    cases hl : liftT code v with
    | none =>
      have E : Hid (nodeOf ⟨o, s, t, v⟩ ⟨(5), a, b, code⟩ = none) := hid (by simp [nodeOf, EL.out, ← hfb, hl])
      rw [E.out]
      rw [hl] at L
      unfold CodeEnd at L
      simp only at L
      clear hfb E hl
      go_enter Tryz.func120, Tryz.ntmps120
      go_wp2_with (first | (go_at_call 129; refine (D.out _).mono ?_; rintro e w1 ⟨rfl, hb1⟩; have B1 := hid ((below2 _ _ _).trans (hb1.mono (by simp; omega))); have R2 := hid (block_below R1.out hb1); have Q2 := hid (block_below Q1.out hb1); obtain ⟨r0, r1, r2, r3⟩ := quad_cells R2.out; obtain ⟨q0, q1, q2, q3⟩ := quad_cells Q2.out; clear hb1) | (go_at_call 122; refine (L.out _ B1.out).mono ?_; rintro e w2 ⟨⟨sx, rfl⟩, hb2⟩; have B2 := hid (B1.out.trans (hb2.mono B1.out.size)); clear hb2))
      exact ⟨rfl, ⟨_, rfl⟩, B2.out⟩
    | some tr =>
      obtain ⟨y, x, hy⟩ := tv_form tr
      have E : Hid (nodeOf ⟨o, s, t, v⟩ ⟨(5), a, b, code⟩ = some (.iface 210 (.agg #[.int .i64 b, .iface y x]))) := hid (by simp [nodeOf, EL.out, ← hfb, hl, hy])
      rw [E.out]
      rw [hl] at L
      unfold CodeEnd at L
      simp only [hy] at L
      clear hfb E hl hy
      go_enter Tryz.func120, Tryz.ntmps120
      go_wp2_with (first | (go_at_call 129; refine (D.out _).mono ?_; rintro e w1 ⟨rfl, hb1⟩; have B1 := hid ((below2 _ _ _).trans (hb1.mono (by simp; omega))); have R2 := hid (block_below R1.out hb1); have Q2 := hid (block_below Q1.out hb1); obtain ⟨r0, r1, r2, r3⟩ := quad_cells R2.out; obtain ⟨q0, q1, q2, q3⟩ := quad_cells Q2.out; clear hb1) | (go_at_call 122; refine (L.out _ B1.out).mono ?_; rintro e w2 ⟨rfl, hb2⟩; have B2 := hid (B1.out.trans (hb2.mono B1.out.size)); obtain ⟨u0, u1, u2, u3⟩ := quad_cells (block_below R2.out hb2); clear hb2))
      go_ret
      exact ⟨rfl, B2.out⟩

set_option maxHeartbeats 1600000 in
theorem stm8 (a b : Int) (co : Option Addr) (cn cc : Nat) (code : List (Int × Int)) (o s t v : Int) (w : World) (hn : cn ≤ 9223372036854775807) (hs : ItemsOf w co cn code) :
    Calls Tryz.prog 120 #[.agg #[.int .i64 (8), .int .i64 a, .int .i64 b, .slice co cn cc], .agg #[.int .i64 o, .int .i64 s, .int .i64 t, .int .i64 v]] w (StmEnd w (nodeOf ⟨o, s, t, v⟩ ⟨(8), a, b, code⟩)) := by
  have HS : Hid (∀ w', Below w.heap.size w w' → ItemsOf w' co cn code) := fun w' h => hs.below h
  have EL : Hid (code.length = cn) := hs.1
  obtain ⟨fb, hfb⟩ : ∃ x, x = fieldsB (8) a b cn ⟨o, s, t, v⟩ := ⟨_, rfl⟩
  have D := hid (fun w => demandFields_any (8) a b co cn cc o s t v w)
  rw [← hfb] at D
  have R1 := hid (block_below (heap_alloc_new w (.cells #[.int .i64 (8), .int .i64 a, .int .i64 b, .slice co cn cc] 143)) (below1 _ (.cells #[.int .i64 o, .int .i64 s, .int .i64 t, .int .i64 v] 93)))
  have Q1 := hid (heap_alloc_new (w.alloc (.cells #[.int .i64 (8), .int .i64 a, .int .i64 b, .slice co cn cc] 143)) (.cells #[.int .i64 o, .int .i64 s, .int .i64 t, .int .i64 v] 93))
  simp only [World.size_alloc] at Q1
  clear hs
  cases fb with
  | false =>
    have E : Hid (nodeOf ⟨o, s, t, v⟩ ⟨(8), a, b, code⟩ = none) := hid (by simp [nodeOf, EL.out, ← hfb])
    rw [E.out]
    unfold DemEnd at D
    simp only at D
    clear hfb E
    go_enter Tryz.func120, Tryz.ntmps120
    go_wp2_with (go_at_call 129; refine (D.out _).mono ?_; rintro e w1 ⟨⟨sx, rfl⟩, hb1⟩; have B1 := hid ((below2 _ _ _).trans (hb1.mono (by simp; omega))); clear hb1)
    exact ⟨rfl, ⟨_, rfl⟩, B1.out⟩
  | true =>
    unfold DemEnd at D
    simp only at D
    have L : Hid (∀ w', Below w.heap.size w w' → Calls Tryz.prog 122 #[.slice co cn cc, .int .i64 v] w' (CodeEnd w' (liftT code v))) := fun w' h => liftCode_any co cn cc code v w' hn (HS.out w' h)
    cases hl : liftT code v with
    | none =>
      have E : Hid (nodeOf ⟨o, s, t, v⟩ ⟨(8), a, b, code⟩ = none) := hid (by simp [nodeOf, EL.out, ← hfb, hl])
      rw [E.out]
      rw [hl] at L
      unfold CodeEnd at L
      simp only at L
      clear hfb E hl
      go_enter Tryz.func120, Tryz.ntmps120
      go_wp2_with (first | (go_at_call 129; refine (D.out _).mono ?_; rintro e w1 ⟨rfl, hb1⟩; have B1 := hid ((below2 _ _ _).trans (hb1.mono (by simp; omega))); have R2 := hid (block_below R1.out hb1); have Q2 := hid (block_below Q1.out hb1); obtain ⟨r0, r1, r2, r3⟩ := quad_cells R2.out; obtain ⟨q0, q1, q2, q3⟩ := quad_cells Q2.out; clear hb1) | (go_at_call 122; refine (L.out _ B1.out).mono ?_; rintro e w2 ⟨⟨sx, rfl⟩, hb2⟩; have B2 := hid (B1.out.trans (hb2.mono B1.out.size)); clear hb2))
      exact ⟨rfl, ⟨_, rfl⟩, B2.out⟩
    | some tr =>
      obtain ⟨y, x, hy⟩ := tv_form tr
      have E : Hid (nodeOf ⟨o, s, t, v⟩ ⟨(8), a, b, code⟩ = some (.iface 212 (.agg #[.int .i64 a, .int .i64 b, .iface y x]))) := hid (by simp [nodeOf, EL.out, ← hfb, hl, hy])
      rw [E.out]
      rw [hl] at L
      unfold CodeEnd at L
      simp only [hy] at L
      clear hfb E hl hy
      go_enter Tryz.func120, Tryz.ntmps120
      go_wp2_with (first | (go_at_call 129; refine (D.out _).mono ?_; rintro e w1 ⟨rfl, hb1⟩; have B1 := hid ((below2 _ _ _).trans (hb1.mono (by simp; omega))); have R2 := hid (block_below R1.out hb1); have Q2 := hid (block_below Q1.out hb1); obtain ⟨r0, r1, r2, r3⟩ := quad_cells R2.out; obtain ⟨q0, q1, q2, q3⟩ := quad_cells Q2.out; clear hb1) | (go_at_call 122; refine (L.out _ B1.out).mono ?_; rintro e w2 ⟨rfl, hb2⟩; have B2 := hid (B1.out.trans (hb2.mono B1.out.size)); obtain ⟨u0, u1, u2, u3⟩ := quad_cells (block_below R2.out hb2); clear hb2))
      go_ret
      exact ⟨rfl, B2.out⟩

set_option maxHeartbeats 1600000 in
theorem stmX (k a b : Int) (co : Option Addr) (cn cc : Nat) (code : List (Int × Int)) (o s t v : Int) (w : World) (hn : cn ≤ 9223372036854775807) (hs : ItemsOf w co cn code) (n1 : k ≠ 1) (n2 : k ≠ 2) (n3 : k ≠ 3) (n4 : k ≠ 4) (n5 : k ≠ 5) (n6 : k ≠ 6) (n7 : k ≠ 7) (n8 : k ≠ 8) (n9 : k ≠ 9) :
    Calls Tryz.prog 120 #[.agg #[.int .i64 k, .int .i64 a, .int .i64 b, .slice co cn cc], .agg #[.int .i64 o, .int .i64 s, .int .i64 t, .int .i64 v]] w (StmEnd w (nodeOf ⟨o, s, t, v⟩ ⟨k, a, b, code⟩)) := by
  have HS : Hid (∀ w', Below w.heap.size w w' → ItemsOf w' co cn code) := fun w' h => hs.below h
  have EL : Hid (code.length = cn) := hs.1
  obtain ⟨fb, hfb⟩ : ∃ x, x = fieldsB k a b cn ⟨o, s, t, v⟩ := ⟨_, rfl⟩
  have D := hid (fun w => demandFields_any k a b co cn cc o s t v w)
  rw [← hfb] at D
  have R1 := hid (block_below (heap_alloc_new w (.cells #[.int .i64 k, .int .i64 a, .int .i64 b, .slice co cn cc] 143)) (below1 _ (.cells #[.int .i64 o, .int .i64 s, .int .i64 t, .int .i64 v] 93)))
  have Q1 := hid (heap_alloc_new (w.alloc (.cells #[.int .i64 k, .int .i64 a, .int .i64 b, .slice co cn cc] 143)) (.cells #[.int .i64 o, .int .i64 s, .int .i64 t, .int .i64 v] 93))
  simp only [World.size_alloc] at Q1
  clear hs
  have e1 : (k == 1) = false := by simpa using n1
  have e2 : (k == 2) = false := by simpa using n2
  have e3 : (k == 3) = false := by simpa using n3
  have e4 : (k == 4) = false := by simpa using n4
  have e5 : (k == 5) = false := by simpa using n5
  have e6 : (k == 6) = false := by simpa using n6
  have e7 : (k == 7) = false := by simpa using n7
  have e8 : (k == 8) = false := by simpa using n8
  have e9 : (k == 9) = false := by simpa using n9
  cases fb with
  | false =>
    have E : Hid (nodeOf ⟨o, s, t, v⟩ ⟨k, a, b, code⟩ = none) := hid (by simp [nodeOf, EL.out, ← hfb])
    rw [E.out]
    unfold DemEnd at D
    simp only at D
    clear hfb E
    clear n1 n2 n3 n4 n5 n6 n7 n8 n9
    go_enter Tryz.func120, Tryz.ntmps120
    go_wp2_with (go_at_call 129; refine (D.out _).mono ?_; rintro e w1 ⟨⟨sx, rfl⟩, hb1⟩; have B1 := hid ((below2 _ _ _).trans (hb1.mono (by simp; omega))); clear hb1)
    exact ⟨rfl, ⟨_, rfl⟩, B1.out⟩
  | true =>
    unfold DemEnd at D
    simp only at D
    have L : Hid (∀ w', Below w.heap.size w w' → Calls Tryz.prog 122 #[.slice co cn cc, .int .i64 v] w' (CodeEnd w' (liftT code v))) := fun w' h => liftCode_any co cn cc code v w' hn (HS.out w' h)
    cases hl : liftT code v with
    | none =>
      have E : Hid (nodeOf ⟨o, s, t, v⟩ ⟨k, a, b, code⟩ = none) := hid (by simp [nodeOf, EL.out, ← hfb, hl, n1, n2, n3, n4, n5, n6, n7, n8, n9])
      rw [E.out]
      rw [hl] at L
      unfold CodeEnd at L
      simp only at L
      clear hfb E hl
      clear n1 n2 n3 n4 n5 n6 n7 n8 n9
      go_enter Tryz.func120, Tryz.ntmps120
      go_wp2_with (first | (go_at_call 129; refine (D.out _).mono ?_; rintro e w1 ⟨rfl, hb1⟩; have B1 := hid ((below2 _ _ _).trans (hb1.mono (by simp; omega))); have R2 := hid (block_below R1.out hb1); have Q2 := hid (block_below Q1.out hb1); obtain ⟨r0, r1, r2, r3⟩ := quad_cells R2.out; obtain ⟨q0, q1, q2, q3⟩ := quad_cells Q2.out; clear hb1) | (go_at_call 122; refine (L.out _ B1.out).mono ?_; rintro e w2 ⟨⟨sx, rfl⟩, hb2⟩; have B2 := hid (B1.out.trans (hb2.mono B1.out.size)); clear hb2))
      exact ⟨rfl, ⟨_, rfl⟩, B2.out⟩
    | some tr =>
      obtain ⟨y, x, hy⟩ := tv_form tr
      have E : Hid (nodeOf ⟨o, s, t, v⟩ ⟨k, a, b, code⟩ = none) := hid (by simp [nodeOf, EL.out, ← hfb, hl, n1, n2, n3, n4, n5, n6, n7, n8, n9])
      rw [E.out]
      rw [hl] at L
      unfold CodeEnd at L
      simp only [hy] at L
      clear hfb E hl hy
      clear n1 n2 n3 n4 n5 n6 n7 n8 n9
      go_enter Tryz.func120, Tryz.ntmps120
      go_wp2_with (first | (go_at_call 129; refine (D.out _).mono ?_; rintro e w1 ⟨rfl, hb1⟩; have B1 := hid ((below2 _ _ _).trans (hb1.mono (by simp; omega))); have R2 := hid (block_below R1.out hb1); have Q2 := hid (block_below Q1.out hb1); obtain ⟨r0, r1, r2, r3⟩ := quad_cells R2.out; obtain ⟨q0, q1, q2, q3⟩ := quad_cells Q2.out; clear hb1) | (go_at_call 122; refine (L.out _ B1.out).mono ?_; rintro e w2 ⟨rfl, hb2⟩; have B2 := hid (B1.out.trans (hb2.mono B1.out.size)); obtain ⟨u0, u1, u2, u3⟩ := quad_cells (block_below R2.out hb2); clear hb2))
      exact ⟨rfl, ⟨_, rfl⟩, B2.out⟩

theorem liftStm_any (k a b : Int) (co : Option Addr) (cn cc : Nat) (code : List (Int × Int)) (o s t v : Int) (w : World) (hn : cn ≤ 9223372036854775807) (hs : ItemsOf w co cn code) :
    Calls Tryz.prog 120 #[.agg #[.int .i64 k, .int .i64 a, .int .i64 b, .slice co cn cc], .agg #[.int .i64 o, .int .i64 s, .int .i64 t, .int .i64 v]] w (StmEnd w (nodeOf ⟨o, s, t, v⟩ ⟨k, a, b, code⟩)) := by
  by_cases n1 : k = 1
  · subst n1; exact stm1 a b co cn cc code o s t v w hn hs
  by_cases n2 : k = 2
  · subst n2; exact stm2 a b co cn cc code o s t v w hn hs
  by_cases n3 : k = 3
  · subst n3; exact stm3 a b co cn cc code o s t v w hn hs
  by_cases n4 : k = 4
  · subst n4; exact stm4 a b co cn cc code o s t v w hn hs
  by_cases n5 : k = 5
  · subst n5; exact stm5 a b co cn cc code o s t v w hn hs
  by_cases n6 : k = 6
  · subst n6; exact stm6 a b co cn cc code o s t v w hn hs
  by_cases n7 : k = 7
  · subst n7; exact stm7 a b co cn cc code o s t v w hn hs
  by_cases n8 : k = 8
  · subst n8; exact stm8 a b co cn cc code o s t v w hn hs
  by_cases n9 : k = 9
  · subst n9; exact stm9 a b co cn cc code o s t v w hn hs
  exact stmX k a b co cn cc code o s t v w hn hs n1 n2 n3 n4 n5 n6 n7 n8 n9

end Go.Proofs.YtkcbomhhdfgihaaGreat
