import Derived.Test.YtkcbomhhdfgihaaGreatO3
namespace Go.Proofs.YtkcbomhhdfgihaaGreat
open Go.RowKit Go.Sort

def fieldA (k : Int) (l : LimD) : Int := if k = 1 then l.v else if k = 3 ∨ k = 4 then l.o else if k = 8 ∨ k = 9 then l.t else 1

def fieldB (k : Int) (l : LimD) : Int := if k = 3 ∨ k = 4 ∨ k = 5 then l.s else if k = 8 then 1000000000 else 1

def fieldsB (k a b : Int) (cn : Nat) (l : LimD) : Bool := decide (0 ≤ a ∧ a < fieldA k l) && decide (0 ≤ b ∧ b < fieldB k l) && (if hasB k then true else decide (cn = 0))

theorem within_of (n c : Int) (b : Bool) (h : b = decide (0 ≤ n ∧ n < c)) (w : World) : Calls Tryz.prog 23 #[.int .i64 n, .int .i64 c] w fun e w' => e = .returned (.bool b) ∧ w' = w := by
  rw [h]; exact within_any n c w

/-- How a demand ends. -/
def DemEnd (w : World) (b : Bool) (e : Ending) (w' : World) : Prop := (match b with | true => e = .returned (.tuple #[]) | false => Pan e) ∧ Below w.heap.size w w'

set_option maxHeartbeats 1600000 in
theorem dem1 (a b : Int) (co : Option Addr) (cn cc : Nat) (o s t v : Int) (w : World) :
    Calls Tryz.prog 129 #[.agg #[.int .i64 (1), .int .i64 a, .int .i64 b, .slice co cn cc], .agg #[.int .i64 o, .int .i64 s, .int .i64 t, .int .i64 v]] w (DemEnd w (fieldsB (1) a b cn ⟨o, s, t, v⟩)) := by
  obtain ⟨fa, hfa⟩ : ∃ x, x = decide (0 ≤ a ∧ a < v) := ⟨_, rfl⟩
  obtain ⟨fb, hfb⟩ : ∃ x, x = decide (0 ≤ b ∧ b < 1) := ⟨_, rfl⟩
  have C1 := hid (within_of a v fa hfa)
  have C2 := hid (within_of b 1 fb hfb)
  have E : Hid (fieldsB (1) a b cn ⟨o, s, t, v⟩ = (fa && fb)) := hid (by rw [hfa, hfb]; simp [fieldsB, fieldA, fieldB, hasB])
  rw [E.out]
  clear hfa hfb E
  cases fa with
  | false =>
    go_enter Tryz.func129, Tryz.ntmps129
    go_wp2_with (first | (go_at_call_of 23 (Value.int .i64 a); refine (C1.out _).mono ?_; rintro e w1 ⟨rfl, hw⟩; obtain rfl := hw.symm) | (go_at_call_of 23 (Value.int .i64 b); refine (C2.out _).mono ?_; rintro e w1 ⟨rfl, hw⟩; obtain rfl := hw.symm) | (go_at_call_of 119 (Value.bool true); refine (demand_yes _ _).mono ?_; rintro e w1 ⟨rfl, hw⟩; obtain rfl := hw.symm) | (go_at_call_of 119 (Value.bool false); refine (demand_no _ _).mono ?_; rintro e w1 ⟨rfl, hw⟩; obtain rfl := hw.symm))
    exact ⟨rfl, ⟨_, rfl⟩, by first | exact belowDraws (below2 _ _ _) _ | exact below2 _ _ _⟩
  | true =>
    cases fb with
    | false =>
      go_enter Tryz.func129, Tryz.ntmps129
      go_wp2_with (first | (go_at_call_of 23 (Value.int .i64 a); refine (C1.out _).mono ?_; rintro e w1 ⟨rfl, hw⟩; obtain rfl := hw.symm) | (go_at_call_of 23 (Value.int .i64 b); refine (C2.out _).mono ?_; rintro e w1 ⟨rfl, hw⟩; obtain rfl := hw.symm) | (go_at_call_of 119 (Value.bool true); refine (demand_yes _ _).mono ?_; rintro e w1 ⟨rfl, hw⟩; obtain rfl := hw.symm) | (go_at_call_of 119 (Value.bool false); refine (demand_no _ _).mono ?_; rintro e w1 ⟨rfl, hw⟩; obtain rfl := hw.symm))
      exact ⟨rfl, ⟨_, rfl⟩, by first | exact belowDraws (below2 _ _ _) _ | exact below2 _ _ _⟩
    | true =>
      go_enter Tryz.func129, Tryz.ntmps129
      go_wp2_with (first | (go_at_call_of 23 (Value.int .i64 a); refine (C1.out _).mono ?_; rintro e w1 ⟨rfl, hw⟩; obtain rfl := hw.symm) | (go_at_call_of 23 (Value.int .i64 b); refine (C2.out _).mono ?_; rintro e w1 ⟨rfl, hw⟩; obtain rfl := hw.symm) | (go_at_call_of 119 (Value.bool true); refine (demand_yes _ _).mono ?_; rintro e w1 ⟨rfl, hw⟩; obtain rfl := hw.symm) | (go_at_call_of 119 (Value.bool false); refine (demand_no _ _).mono ?_; rintro e w1 ⟨rfl, hw⟩; obtain rfl := hw.symm))
      first | go_end0 | refine bodyPost_ret (results_none rfl _ _ _) rfl ?_
      exact ⟨rfl, by first | exact belowDraws (below2 _ _ _) _ | exact below2 _ _ _⟩

set_option maxHeartbeats 1600000 in
theorem dem3 (a b : Int) (co : Option Addr) (cn cc : Nat) (o s t v : Int) (w : World) :
    Calls Tryz.prog 129 #[.agg #[.int .i64 (3), .int .i64 a, .int .i64 b, .slice co cn cc], .agg #[.int .i64 o, .int .i64 s, .int .i64 t, .int .i64 v]] w (DemEnd w (fieldsB (3) a b cn ⟨o, s, t, v⟩)) := by
  obtain ⟨fa, hfa⟩ : ∃ x, x = decide (0 ≤ a ∧ a < o) := ⟨_, rfl⟩
  obtain ⟨fb, hfb⟩ : ∃ x, x = decide (0 ≤ b ∧ b < s) := ⟨_, rfl⟩
  have C1 := hid (within_of a o fa hfa)
  have C2 := hid (within_of b s fb hfb)
  have E : Hid (fieldsB (3) a b cn ⟨o, s, t, v⟩ = (fa && fb)) := hid (by rw [hfa, hfb]; simp [fieldsB, fieldA, fieldB, hasB])
  rw [E.out]
  clear hfa hfb E
  cases fa with
  | false =>
    go_enter Tryz.func129, Tryz.ntmps129
    go_wp2
    go_quiet (fail)
    go_wp2_with (first | (go_at_call_of 23 (Value.int .i64 a); refine (C1.out _).mono ?_; rintro e w1 ⟨rfl, hw⟩; obtain rfl := hw.symm) | (go_at_call_of 23 (Value.int .i64 b); refine (C2.out _).mono ?_; rintro e w1 ⟨rfl, hw⟩; obtain rfl := hw.symm) | (go_at_call_of 119 (Value.bool true); refine (demand_yes _ _).mono ?_; rintro e w1 ⟨rfl, hw⟩; obtain rfl := hw.symm) | (go_at_call_of 119 (Value.bool false); refine (demand_no _ _).mono ?_; rintro e w1 ⟨rfl, hw⟩; obtain rfl := hw.symm))
    exact ⟨rfl, ⟨_, rfl⟩, by first | exact belowDraws (below2 _ _ _) _ | exact below2 _ _ _⟩
  | true =>
    cases fb with
    | false =>
      go_enter Tryz.func129, Tryz.ntmps129
      go_wp2
      go_quiet (fail)
      go_wp2_with (first | (go_at_call_of 23 (Value.int .i64 a); refine (C1.out _).mono ?_; rintro e w1 ⟨rfl, hw⟩; obtain rfl := hw.symm) | (go_at_call_of 23 (Value.int .i64 b); refine (C2.out _).mono ?_; rintro e w1 ⟨rfl, hw⟩; obtain rfl := hw.symm) | (go_at_call_of 119 (Value.bool true); refine (demand_yes _ _).mono ?_; rintro e w1 ⟨rfl, hw⟩; obtain rfl := hw.symm) | (go_at_call_of 119 (Value.bool false); refine (demand_no _ _).mono ?_; rintro e w1 ⟨rfl, hw⟩; obtain rfl := hw.symm))
      exact ⟨rfl, ⟨_, rfl⟩, by first | exact belowDraws (below2 _ _ _) _ | exact below2 _ _ _⟩
    | true =>
      go_enter Tryz.func129, Tryz.ntmps129
      go_wp2
      go_quiet (fail)
      go_wp2_with (first | (go_at_call_of 23 (Value.int .i64 a); refine (C1.out _).mono ?_; rintro e w1 ⟨rfl, hw⟩; obtain rfl := hw.symm) | (go_at_call_of 23 (Value.int .i64 b); refine (C2.out _).mono ?_; rintro e w1 ⟨rfl, hw⟩; obtain rfl := hw.symm) | (go_at_call_of 119 (Value.bool true); refine (demand_yes _ _).mono ?_; rintro e w1 ⟨rfl, hw⟩; obtain rfl := hw.symm) | (go_at_call_of 119 (Value.bool false); refine (demand_no _ _).mono ?_; rintro e w1 ⟨rfl, hw⟩; obtain rfl := hw.symm))
      first | go_end0 | refine bodyPost_ret (results_none rfl _ _ _) rfl ?_
      exact ⟨rfl, by first | exact belowDraws (below2 _ _ _) _ | exact below2 _ _ _⟩

set_option maxHeartbeats 1600000 in
theorem dem4 (a b : Int) (co : Option Addr) (cn cc : Nat) (o s t v : Int) (w : World) :
    Calls Tryz.prog 129 #[.agg #[.int .i64 (4), .int .i64 a, .int .i64 b, .slice co cn cc], .agg #[.int .i64 o, .int .i64 s, .int .i64 t, .int .i64 v]] w (DemEnd w (fieldsB (4) a b cn ⟨o, s, t, v⟩)) := by
  obtain ⟨fa, hfa⟩ : ∃ x, x = decide (0 ≤ a ∧ a < o) := ⟨_, rfl⟩
  obtain ⟨fb, hfb⟩ : ∃ x, x = decide (0 ≤ b ∧ b < s) := ⟨_, rfl⟩
  have C1 := hid (within_of a o fa hfa)
  have C2 := hid (within_of b s fb hfb)
  have E : Hid (fieldsB (4) a b cn ⟨o, s, t, v⟩ = (fa && fb)) := hid (by rw [hfa, hfb]; simp [fieldsB, fieldA, fieldB, hasB])
  rw [E.out]
  clear hfa hfb E
  cases fa with
  | false =>
    go_enter Tryz.func129, Tryz.ntmps129
    go_wp2
    go_quiet (fail)
    go_wp2_with (first | (go_at_call_of 23 (Value.int .i64 a); refine (C1.out _).mono ?_; rintro e w1 ⟨rfl, hw⟩; obtain rfl := hw.symm) | (go_at_call_of 23 (Value.int .i64 b); refine (C2.out _).mono ?_; rintro e w1 ⟨rfl, hw⟩; obtain rfl := hw.symm) | (go_at_call_of 119 (Value.bool true); refine (demand_yes _ _).mono ?_; rintro e w1 ⟨rfl, hw⟩; obtain rfl := hw.symm) | (go_at_call_of 119 (Value.bool false); refine (demand_no _ _).mono ?_; rintro e w1 ⟨rfl, hw⟩; obtain rfl := hw.symm))
    exact ⟨rfl, ⟨_, rfl⟩, by first | exact belowDraws (below2 _ _ _) _ | exact below2 _ _ _⟩
  | true =>
    cases fb with
    | false =>
      go_enter Tryz.func129, Tryz.ntmps129
      go_wp2
      go_quiet (fail)
      go_wp2_with (first | (go_at_call_of 23 (Value.int .i64 a); refine (C1.out _).mono ?_; rintro e w1 ⟨rfl, hw⟩; obtain rfl := hw.symm) | (go_at_call_of 23 (Value.int .i64 b); refine (C2.out _).mono ?_; rintro e w1 ⟨rfl, hw⟩; obtain rfl := hw.symm) | (go_at_call_of 119 (Value.bool true); refine (demand_yes _ _).mono ?_; rintro e w1 ⟨rfl, hw⟩; obtain rfl := hw.symm) | (go_at_call_of 119 (Value.bool false); refine (demand_no _ _).mono ?_; rintro e w1 ⟨rfl, hw⟩; obtain rfl := hw.symm))
      exact ⟨rfl, ⟨_, rfl⟩, by first | exact belowDraws (below2 _ _ _) _ | exact below2 _ _ _⟩
    | true =>
      go_enter Tryz.func129, Tryz.ntmps129
      go_wp2
      go_quiet (fail)
      go_wp2_with (first | (go_at_call_of 23 (Value.int .i64 a); refine (C1.out _).mono ?_; rintro e w1 ⟨rfl, hw⟩; obtain rfl := hw.symm) | (go_at_call_of 23 (Value.int .i64 b); refine (C2.out _).mono ?_; rintro e w1 ⟨rfl, hw⟩; obtain rfl := hw.symm) | (go_at_call_of 119 (Value.bool true); refine (demand_yes _ _).mono ?_; rintro e w1 ⟨rfl, hw⟩; obtain rfl := hw.symm) | (go_at_call_of 119 (Value.bool false); refine (demand_no _ _).mono ?_; rintro e w1 ⟨rfl, hw⟩; obtain rfl := hw.symm))
      first | go_end0 | refine bodyPost_ret (results_none rfl _ _ _) rfl ?_
      exact ⟨rfl, by first | exact belowDraws (below2 _ _ _) _ | exact below2 _ _ _⟩

set_option maxHeartbeats 1600000 in
theorem dem5 (a b : Int) (co : Option Addr) (cn cc : Nat) (o s t v : Int) (w : World) :
    Calls Tryz.prog 129 #[.agg #[.int .i64 (5), .int .i64 a, .int .i64 b, .slice co cn cc], .agg #[.int .i64 o, .int .i64 s, .int .i64 t, .int .i64 v]] w (DemEnd w (fieldsB (5) a b cn ⟨o, s, t, v⟩)) := by
  obtain ⟨fa, hfa⟩ : ∃ x, x = decide (0 ≤ a ∧ a < 1) := ⟨_, rfl⟩
  obtain ⟨fb, hfb⟩ : ∃ x, x = decide (0 ≤ b ∧ b < s) := ⟨_, rfl⟩
  have C1 := hid (within_of a 1 fa hfa)
  have C2 := hid (within_of b s fb hfb)
  have E : Hid (fieldsB (5) a b cn ⟨o, s, t, v⟩ = (fa && fb)) := hid (by rw [hfa, hfb]; simp [fieldsB, fieldA, fieldB, hasB])
  rw [E.out]
  clear hfa hfb E
  cases fa with
  | false =>
    go_enter Tryz.func129, Tryz.ntmps129
    go_wp2_with (first | (go_at_call_of 23 (Value.int .i64 a); refine (C1.out _).mono ?_; rintro e w1 ⟨rfl, hw⟩; obtain rfl := hw.symm) | (go_at_call_of 23 (Value.int .i64 b); refine (C2.out _).mono ?_; rintro e w1 ⟨rfl, hw⟩; obtain rfl := hw.symm) | (go_at_call_of 119 (Value.bool true); refine (demand_yes _ _).mono ?_; rintro e w1 ⟨rfl, hw⟩; obtain rfl := hw.symm) | (go_at_call_of 119 (Value.bool false); refine (demand_no _ _).mono ?_; rintro e w1 ⟨rfl, hw⟩; obtain rfl := hw.symm))
    exact ⟨rfl, ⟨_, rfl⟩, by first | exact belowDraws (below2 _ _ _) _ | exact below2 _ _ _⟩
  | true =>
    cases fb with
    | false =>
      go_enter Tryz.func129, Tryz.ntmps129
      go_wp2_with (first | (go_at_call_of 23 (Value.int .i64 a); refine (C1.out _).mono ?_; rintro e w1 ⟨rfl, hw⟩; obtain rfl := hw.symm) | (go_at_call_of 23 (Value.int .i64 b); refine (C2.out _).mono ?_; rintro e w1 ⟨rfl, hw⟩; obtain rfl := hw.symm) | (go_at_call_of 119 (Value.bool true); refine (demand_yes _ _).mono ?_; rintro e w1 ⟨rfl, hw⟩; obtain rfl := hw.symm) | (go_at_call_of 119 (Value.bool false); refine (demand_no _ _).mono ?_; rintro e w1 ⟨rfl, hw⟩; obtain rfl := hw.symm))
      exact ⟨rfl, ⟨_, rfl⟩, by first | exact belowDraws (below2 _ _ _) _ | exact below2 _ _ _⟩
    | true =>
      go_enter Tryz.func129, Tryz.ntmps129
      go_wp2_with (first | (go_at_call_of 23 (Value.int .i64 a); refine (C1.out _).mono ?_; rintro e w1 ⟨rfl, hw⟩; obtain rfl := hw.symm) | (go_at_call_of 23 (Value.int .i64 b); refine (C2.out _).mono ?_; rintro e w1 ⟨rfl, hw⟩; obtain rfl := hw.symm) | (go_at_call_of 119 (Value.bool true); refine (demand_yes _ _).mono ?_; rintro e w1 ⟨rfl, hw⟩; obtain rfl := hw.symm) | (go_at_call_of 119 (Value.bool false); refine (demand_no _ _).mono ?_; rintro e w1 ⟨rfl, hw⟩; obtain rfl := hw.symm))
      first | go_end0 | refine bodyPost_ret (results_none rfl _ _ _) rfl ?_
      exact ⟨rfl, by first | exact belowDraws (below2 _ _ _) _ | exact below2 _ _ _⟩

set_option maxHeartbeats 1600000 in
theorem dem8 (a b : Int) (co : Option Addr) (cn cc : Nat) (o s t v : Int) (w : World) :
    Calls Tryz.prog 129 #[.agg #[.int .i64 (8), .int .i64 a, .int .i64 b, .slice co cn cc], .agg #[.int .i64 o, .int .i64 s, .int .i64 t, .int .i64 v]] w (DemEnd w (fieldsB (8) a b cn ⟨o, s, t, v⟩)) := by
  obtain ⟨fa, hfa⟩ : ∃ x, x = decide (0 ≤ a ∧ a < t) := ⟨_, rfl⟩
  obtain ⟨fb, hfb⟩ : ∃ x, x = decide (0 ≤ b ∧ b < 1000000000) := ⟨_, rfl⟩
  have C1 := hid (within_of a t fa hfa)
  have C2 := hid (within_of b 1000000000 fb hfb)
  have E : Hid (fieldsB (8) a b cn ⟨o, s, t, v⟩ = (fa && fb)) := hid (by rw [hfa, hfb]; simp [fieldsB, fieldA, fieldB, hasB])
  rw [E.out]
  clear hfa hfb E
  cases fa with
  | false =>
    go_enter Tryz.func129, Tryz.ntmps129
    go_wp2_with (first | (go_at_call_of 23 (Value.int .i64 a); refine (C1.out _).mono ?_; rintro e w1 ⟨rfl, hw⟩; obtain rfl := hw.symm) | (go_at_call_of 23 (Value.int .i64 b); refine (C2.out _).mono ?_; rintro e w1 ⟨rfl, hw⟩; obtain rfl := hw.symm) | (go_at_call_of 119 (Value.bool true); refine (demand_yes _ _).mono ?_; rintro e w1 ⟨rfl, hw⟩; obtain rfl := hw.symm) | (go_at_call_of 119 (Value.bool false); refine (demand_no _ _).mono ?_; rintro e w1 ⟨rfl, hw⟩; obtain rfl := hw.symm))
    exact ⟨rfl, ⟨_, rfl⟩, by first | exact belowDraws (below2 _ _ _) _ | exact below2 _ _ _⟩
  | true =>
    cases fb with
    | false =>
      go_enter Tryz.func129, Tryz.ntmps129
      go_wp2_with (first | (go_at_call_of 23 (Value.int .i64 a); refine (C1.out _).mono ?_; rintro e w1 ⟨rfl, hw⟩; obtain rfl := hw.symm) | (go_at_call_of 23 (Value.int .i64 b); refine (C2.out _).mono ?_; rintro e w1 ⟨rfl, hw⟩; obtain rfl := hw.symm) | (go_at_call_of 119 (Value.bool true); refine (demand_yes _ _).mono ?_; rintro e w1 ⟨rfl, hw⟩; obtain rfl := hw.symm) | (go_at_call_of 119 (Value.bool false); refine (demand_no _ _).mono ?_; rintro e w1 ⟨rfl, hw⟩; obtain rfl := hw.symm))
      exact ⟨rfl, ⟨_, rfl⟩, by first | exact belowDraws (below2 _ _ _) _ | exact below2 _ _ _⟩
    | true =>
      go_enter Tryz.func129, Tryz.ntmps129
      go_wp2_with (first | (go_at_call_of 23 (Value.int .i64 a); refine (C1.out _).mono ?_; rintro e w1 ⟨rfl, hw⟩; obtain rfl := hw.symm) | (go_at_call_of 23 (Value.int .i64 b); refine (C2.out _).mono ?_; rintro e w1 ⟨rfl, hw⟩; obtain rfl := hw.symm) | (go_at_call_of 119 (Value.bool true); refine (demand_yes _ _).mono ?_; rintro e w1 ⟨rfl, hw⟩; obtain rfl := hw.symm) | (go_at_call_of 119 (Value.bool false); refine (demand_no _ _).mono ?_; rintro e w1 ⟨rfl, hw⟩; obtain rfl := hw.symm))
      first | go_end0 | refine bodyPost_ret (results_none rfl _ _ _) rfl ?_
      exact ⟨rfl, by first | exact belowDraws (below2 _ _ _) _ | exact below2 _ _ _⟩

set_option maxHeartbeats 1600000 in
theorem dem9 (a b : Int) (co : Option Addr) (cn cc : Nat) (o s t v : Int) (w : World) :
    Calls Tryz.prog 129 #[.agg #[.int .i64 (9), .int .i64 a, .int .i64 b, .slice co cn cc], .agg #[.int .i64 o, .int .i64 s, .int .i64 t, .int .i64 v]] w (DemEnd w (fieldsB (9) a b cn ⟨o, s, t, v⟩)) := by
  obtain ⟨fa, hfa⟩ : ∃ x, x = decide (0 ≤ a ∧ a < t) := ⟨_, rfl⟩
  obtain ⟨fb, hfb⟩ : ∃ x, x = decide (0 ≤ b ∧ b < 1) := ⟨_, rfl⟩
  have C1 := hid (within_of a t fa hfa)
  have C2 := hid (within_of b 1 fb hfb)
  have E : Hid (fieldsB (9) a b cn ⟨o, s, t, v⟩ = (fa && fb && decide (cn = 0))) := hid (by rw [hfa, hfb]; simp [fieldsB, fieldA, fieldB, hasB])
  rw [E.out]
  clear hfa hfb E
  cases fa with
  | false =>
    go_enter Tryz.func129, Tryz.ntmps129
    go_wp2_with (first | (go_at_call_of 23 (Value.int .i64 a); refine (C1.out _).mono ?_; rintro e w1 ⟨rfl, hw⟩; obtain rfl := hw.symm) | (go_at_call_of 23 (Value.int .i64 b); refine (C2.out _).mono ?_; rintro e w1 ⟨rfl, hw⟩; obtain rfl := hw.symm) | (go_at_call_of 119 (Value.bool true); refine (demand_yes _ _).mono ?_; rintro e w1 ⟨rfl, hw⟩; obtain rfl := hw.symm) | (go_at_call_of 119 (Value.bool false); refine (demand_no _ _).mono ?_; rintro e w1 ⟨rfl, hw⟩; obtain rfl := hw.symm))
    exact ⟨rfl, ⟨_, rfl⟩, by first | exact belowDraws (below2 _ _ _) _ | exact below2 _ _ _⟩
  | true =>
    cases fb with
    | false =>
      go_enter Tryz.func129, Tryz.ntmps129
      go_wp2_with (first | (go_at_call_of 23 (Value.int .i64 a); refine (C1.out _).mono ?_; rintro e w1 ⟨rfl, hw⟩; obtain rfl := hw.symm) | (go_at_call_of 23 (Value.int .i64 b); refine (C2.out _).mono ?_; rintro e w1 ⟨rfl, hw⟩; obtain rfl := hw.symm) | (go_at_call_of 119 (Value.bool true); refine (demand_yes _ _).mono ?_; rintro e w1 ⟨rfl, hw⟩; obtain rfl := hw.symm) | (go_at_call_of 119 (Value.bool false); refine (demand_no _ _).mono ?_; rintro e w1 ⟨rfl, hw⟩; obtain rfl := hw.symm))
      exact ⟨rfl, ⟨_, rfl⟩, by first | exact belowDraws (below2 _ _ _) _ | exact below2 _ _ _⟩
    | true =>
      by_cases hz : cn = 0
      · subst hz
        go_enter Tryz.func129, Tryz.ntmps129
        go_wp2_with (first | (go_at_call_of 23 (Value.int .i64 a); refine (C1.out _).mono ?_; rintro e w1 ⟨rfl, hw⟩; obtain rfl := hw.symm) | (go_at_call_of 23 (Value.int .i64 b); refine (C2.out _).mono ?_; rintro e w1 ⟨rfl, hw⟩; obtain rfl := hw.symm) | (go_at_call_of 119 (Value.bool true); refine (demand_yes _ _).mono ?_; rintro e w1 ⟨rfl, hw⟩; obtain rfl := hw.symm) | (go_at_call_of 119 (Value.bool false); refine (demand_no _ _).mono ?_; rintro e w1 ⟨rfl, hw⟩; obtain rfl := hw.symm))
        first | go_end0 | refine bodyPost_ret (results_none rfl _ _ _) rfl ?_
        exact ⟨rfl, by first | exact belowDraws (below2 _ _ _) _ | exact below2 _ _ _⟩
      · have hz2 : ((cn : Int) == 0) = false := by simp; omega
        have E2 : Hid ((true && true && decide (cn = 0)) = false) := hid (by simp [hz])
        rw [E2.out]
        clear hz E2
        go_enter Tryz.func129, Tryz.ntmps129
        go_wp2_with (first | (go_at_call_of 23 (Value.int .i64 a); refine (C1.out _).mono ?_; rintro e w1 ⟨rfl, hw⟩; obtain rfl := hw.symm) | (go_at_call_of 23 (Value.int .i64 b); refine (C2.out _).mono ?_; rintro e w1 ⟨rfl, hw⟩; obtain rfl := hw.symm) | (go_at_call_of 119 (Value.bool true); refine (demand_yes _ _).mono ?_; rintro e w1 ⟨rfl, hw⟩; obtain rfl := hw.symm) | (go_at_call_of 119 (Value.bool false); refine (demand_no _ _).mono ?_; rintro e w1 ⟨rfl, hw⟩; obtain rfl := hw.symm))
        exact ⟨rfl, ⟨_, rfl⟩, by first | exact belowDraws (below2 _ _ _) _ | exact below2 _ _ _⟩

set_option maxHeartbeats 1600000 in
theorem dem6 (a b : Int) (co : Option Addr) (cn cc : Nat) (o s t v : Int) (w : World) :
    Calls Tryz.prog 129 #[.agg #[.int .i64 (6), .int .i64 a, .int .i64 b, .slice co cn cc], .agg #[.int .i64 o, .int .i64 s, .int .i64 t, .int .i64 v]] w (DemEnd w (fieldsB (6) a b cn ⟨o, s, t, v⟩)) := by
  obtain ⟨fa, hfa⟩ : ∃ x, x = decide (0 ≤ a ∧ a < 1) := ⟨_, rfl⟩
  obtain ⟨fb, hfb⟩ : ∃ x, x = decide (0 ≤ b ∧ b < 1) := ⟨_, rfl⟩
  have C1 := hid (within_of a 1 fa hfa)
  have C2 := hid (within_of b 1 fb hfb)
  have E : Hid (fieldsB (6) a b cn ⟨o, s, t, v⟩ = (fa && fb && decide (cn = 0))) := hid (by rw [hfa, hfb]; simp [fieldsB, fieldA, fieldB, hasB])
  rw [E.out]
  clear hfa hfb E
  cases fa with
  | false =>
    go_enter Tryz.func129, Tryz.ntmps129
    go_wp2_with (first | (go_at_call_of 23 (Value.int .i64 a); refine (C1.out _).mono ?_; rintro e w1 ⟨rfl, hw⟩; obtain rfl := hw.symm) | (go_at_call_of 23 (Value.int .i64 b); refine (C2.out _).mono ?_; rintro e w1 ⟨rfl, hw⟩; obtain rfl := hw.symm) | (go_at_call_of 119 (Value.bool true); refine (demand_yes _ _).mono ?_; rintro e w1 ⟨rfl, hw⟩; obtain rfl := hw.symm) | (go_at_call_of 119 (Value.bool false); refine (demand_no _ _).mono ?_; rintro e w1 ⟨rfl, hw⟩; obtain rfl := hw.symm))
    exact ⟨rfl, ⟨_, rfl⟩, by first | exact belowDraws (below2 _ _ _) _ | exact below2 _ _ _⟩
  | true =>
    cases fb with
    | false =>
      go_enter Tryz.func129, Tryz.ntmps129
      go_wp2_with (first | (go_at_call_of 23 (Value.int .i64 a); refine (C1.out _).mono ?_; rintro e w1 ⟨rfl, hw⟩; obtain rfl := hw.symm) | (go_at_call_of 23 (Value.int .i64 b); refine (C2.out _).mono ?_; rintro e w1 ⟨rfl, hw⟩; obtain rfl := hw.symm) | (go_at_call_of 119 (Value.bool true); refine (demand_yes _ _).mono ?_; rintro e w1 ⟨rfl, hw⟩; obtain rfl := hw.symm) | (go_at_call_of 119 (Value.bool false); refine (demand_no _ _).mono ?_; rintro e w1 ⟨rfl, hw⟩; obtain rfl := hw.symm))
      exact ⟨rfl, ⟨_, rfl⟩, by first | exact belowDraws (below2 _ _ _) _ | exact below2 _ _ _⟩
    | true =>
      by_cases hz : cn = 0
      · subst hz
        go_enter Tryz.func129, Tryz.ntmps129
        go_wp2_with (first | (go_at_call_of 23 (Value.int .i64 a); refine (C1.out _).mono ?_; rintro e w1 ⟨rfl, hw⟩; obtain rfl := hw.symm) | (go_at_call_of 23 (Value.int .i64 b); refine (C2.out _).mono ?_; rintro e w1 ⟨rfl, hw⟩; obtain rfl := hw.symm) | (go_at_call_of 119 (Value.bool true); refine (demand_yes _ _).mono ?_; rintro e w1 ⟨rfl, hw⟩; obtain rfl := hw.symm) | (go_at_call_of 119 (Value.bool false); refine (demand_no _ _).mono ?_; rintro e w1 ⟨rfl, hw⟩; obtain rfl := hw.symm))
        first | go_end0 | refine bodyPost_ret (results_none rfl _ _ _) rfl ?_
        exact ⟨rfl, by first | exact belowDraws (below2 _ _ _) _ | exact below2 _ _ _⟩
      · have hz2 : ((cn : Int) == 0) = false := by simp; omega
        have E2 : Hid ((true && true && decide (cn = 0)) = false) := hid (by simp [hz])
        rw [E2.out]
        clear hz E2
        go_enter Tryz.func129, Tryz.ntmps129
        go_wp2_with (first | (go_at_call_of 23 (Value.int .i64 a); refine (C1.out _).mono ?_; rintro e w1 ⟨rfl, hw⟩; obtain rfl := hw.symm) | (go_at_call_of 23 (Value.int .i64 b); refine (C2.out _).mono ?_; rintro e w1 ⟨rfl, hw⟩; obtain rfl := hw.symm) | (go_at_call_of 119 (Value.bool true); refine (demand_yes _ _).mono ?_; rintro e w1 ⟨rfl, hw⟩; obtain rfl := hw.symm) | (go_at_call_of 119 (Value.bool false); refine (demand_no _ _).mono ?_; rintro e w1 ⟨rfl, hw⟩; obtain rfl := hw.symm))
        exact ⟨rfl, ⟨_, rfl⟩, by first | exact belowDraws (below2 _ _ _) _ | exact below2 _ _ _⟩

set_option maxHeartbeats 1600000 in
theorem dem7 (a b : Int) (co : Option Addr) (cn cc : Nat) (o s t v : Int) (w : World) :
    Calls Tryz.prog 129 #[.agg #[.int .i64 (7), .int .i64 a, .int .i64 b, .slice co cn cc], .agg #[.int .i64 o, .int .i64 s, .int .i64 t, .int .i64 v]] w (DemEnd w (fieldsB (7) a b cn ⟨o, s, t, v⟩)) := by
  obtain ⟨fa, hfa⟩ : ∃ x, x = decide (0 ≤ a ∧ a < 1) := ⟨_, rfl⟩
  obtain ⟨fb, hfb⟩ : ∃ x, x = decide (0 ≤ b ∧ b < 1) := ⟨_, rfl⟩
  have C1 := hid (within_of a 1 fa hfa)
  have C2 := hid (within_of b 1 fb hfb)
  have E : Hid (fieldsB (7) a b cn ⟨o, s, t, v⟩ = (fa && fb && decide (cn = 0))) := hid (by rw [hfa, hfb]; simp [fieldsB, fieldA, fieldB, hasB])
  rw [E.out]
  clear hfa hfb E
  cases fa with
  | false =>
    go_enter Tryz.func129, Tryz.ntmps129
    go_wp2_with (first | (go_at_call_of 23 (Value.int .i64 a); refine (C1.out _).mono ?_; rintro e w1 ⟨rfl, hw⟩; obtain rfl := hw.symm) | (go_at_call_of 23 (Value.int .i64 b); refine (C2.out _).mono ?_; rintro e w1 ⟨rfl, hw⟩; obtain rfl := hw.symm) | (go_at_call_of 119 (Value.bool true); refine (demand_yes _ _).mono ?_; rintro e w1 ⟨rfl, hw⟩; obtain rfl := hw.symm) | (go_at_call_of 119 (Value.bool false); refine (demand_no _ _).mono ?_; rintro e w1 ⟨rfl, hw⟩; obtain rfl := hw.symm))
    exact ⟨rfl, ⟨_, rfl⟩, by first | exact belowDraws (below2 _ _ _) _ | exact below2 _ _ _⟩
  | true =>
    cases fb with
    | false =>
      go_enter Tryz.func129, Tryz.ntmps129
      go_wp2_with (first | (go_at_call_of 23 (Value.int .i64 a); refine (C1.out _).mono ?_; rintro e w1 ⟨rfl, hw⟩; obtain rfl := hw.symm) | (go_at_call_of 23 (Value.int .i64 b); refine (C2.out _).mono ?_; rintro e w1 ⟨rfl, hw⟩; obtain rfl := hw.symm) | (go_at_call_of 119 (Value.bool true); refine (demand_yes _ _).mono ?_; rintro e w1 ⟨rfl, hw⟩; obtain rfl := hw.symm) | (go_at_call_of 119 (Value.bool false); refine (demand_no _ _).mono ?_; rintro e w1 ⟨rfl, hw⟩; obtain rfl := hw.symm))
      exact ⟨rfl, ⟨_, rfl⟩, by first | exact belowDraws (below2 _ _ _) _ | exact below2 _ _ _⟩
    | true =>
      by_cases hz : cn = 0
      · subst hz
        go_enter Tryz.func129, Tryz.ntmps129
        go_wp2_with (first | (go_at_call_of 23 (Value.int .i64 a); refine (C1.out _).mono ?_; rintro e w1 ⟨rfl, hw⟩; obtain rfl := hw.symm) | (go_at_call_of 23 (Value.int .i64 b); refine (C2.out _).mono ?_; rintro e w1 ⟨rfl, hw⟩; obtain rfl := hw.symm) | (go_at_call_of 119 (Value.bool true); refine (demand_yes _ _).mono ?_; rintro e w1 ⟨rfl, hw⟩; obtain rfl := hw.symm) | (go_at_call_of 119 (Value.bool false); refine (demand_no _ _).mono ?_; rintro e w1 ⟨rfl, hw⟩; obtain rfl := hw.symm))
        first | go_end0 | refine bodyPost_ret (results_none rfl _ _ _) rfl ?_
        exact ⟨rfl, by first | exact belowDraws (below2 _ _ _) _ | exact below2 _ _ _⟩
      · have hz2 : ((cn : Int) == 0) = false := by simp; omega
        have E2 : Hid ((true && true && decide (cn = 0)) = false) := hid (by simp [hz])
        rw [E2.out]
        clear hz E2
        go_enter Tryz.func129, Tryz.ntmps129
        go_wp2_with (first | (go_at_call_of 23 (Value.int .i64 a); refine (C1.out _).mono ?_; rintro e w1 ⟨rfl, hw⟩; obtain rfl := hw.symm) | (go_at_call_of 23 (Value.int .i64 b); refine (C2.out _).mono ?_; rintro e w1 ⟨rfl, hw⟩; obtain rfl := hw.symm) | (go_at_call_of 119 (Value.bool true); refine (demand_yes _ _).mono ?_; rintro e w1 ⟨rfl, hw⟩; obtain rfl := hw.symm) | (go_at_call_of 119 (Value.bool false); refine (demand_no _ _).mono ?_; rintro e w1 ⟨rfl, hw⟩; obtain rfl := hw.symm))
        exact ⟨rfl, ⟨_, rfl⟩, by first | exact belowDraws (below2 _ _ _) _ | exact below2 _ _ _⟩

set_option maxHeartbeats 1600000 in
theorem demX (k a b : Int) (co : Option Addr) (cn cc : Nat) (o s t v : Int) (w : World) (n1 : k ≠ 1) (n3 : k ≠ 3) (n4 : k ≠ 4) (n5 : k ≠ 5) (n6 : k ≠ 6) (n7 : k ≠ 7) (n8 : k ≠ 8) (n9 : k ≠ 9) :
    Calls Tryz.prog 129 #[.agg #[.int .i64 k, .int .i64 a, .int .i64 b, .slice co cn cc], .agg #[.int .i64 o, .int .i64 s, .int .i64 t, .int .i64 v]] w (DemEnd w (fieldsB k a b cn ⟨o, s, t, v⟩)) := by
  obtain ⟨fa, hfa⟩ : ∃ x, x = decide (0 ≤ a ∧ a < 1) := ⟨_, rfl⟩
  obtain ⟨fb, hfb⟩ : ∃ x, x = decide (0 ≤ b ∧ b < 1) := ⟨_, rfl⟩
  have C1 := hid (within_of a 1 fa hfa)
  have C2 := hid (within_of b 1 fb hfb)
  have E : Hid (fieldsB k a b cn ⟨o, s, t, v⟩ = (fa && fb)) := hid (by rw [hfa, hfb]; simp [fieldsB, fieldA, fieldB, hasB, n1, n3, n4, n5, n6, n7, n8, n9])
  have e1 : (k == 1) = false := by simpa using n1
  have e3 : (k == 3) = false := by simpa using n3
  have e4 : (k == 4) = false := by simpa using n4
  have e5 : (k == 5) = false := by simpa using n5
  have e6 : (k == 6) = false := by simpa using n6
  have e7 : (k == 7) = false := by simpa using n7
  have e8 : (k == 8) = false := by simpa using n8
  have e9 : (k == 9) = false := by simpa using n9
  clear n1 n3 n4 n5 n6 n7 n8 n9
  rw [E.out]
  clear hfa hfb E
  cases fa with
  | false =>
    go_enter Tryz.func129, Tryz.ntmps129
    go_wp2_with (first | (go_at_call_of 23 (Value.int .i64 a); refine (C1.out _).mono ?_; rintro e w1 ⟨rfl, hw⟩; obtain rfl := hw.symm) | (go_at_call_of 23 (Value.int .i64 b); refine (C2.out _).mono ?_; rintro e w1 ⟨rfl, hw⟩; obtain rfl := hw.symm) | (go_at_call_of 119 (Value.bool true); refine (demand_yes _ _).mono ?_; rintro e w1 ⟨rfl, hw⟩; obtain rfl := hw.symm) | (go_at_call_of 119 (Value.bool false); refine (demand_no _ _).mono ?_; rintro e w1 ⟨rfl, hw⟩; obtain rfl := hw.symm))
    exact ⟨rfl, ⟨_, rfl⟩, by first | exact belowDraws (below2 _ _ _) _ | exact below2 _ _ _⟩
  | true =>
    cases fb with
    | false =>
      go_enter Tryz.func129, Tryz.ntmps129
      go_wp2_with (first | (go_at_call_of 23 (Value.int .i64 a); refine (C1.out _).mono ?_; rintro e w1 ⟨rfl, hw⟩; obtain rfl := hw.symm) | (go_at_call_of 23 (Value.int .i64 b); refine (C2.out _).mono ?_; rintro e w1 ⟨rfl, hw⟩; obtain rfl := hw.symm) | (go_at_call_of 119 (Value.bool true); refine (demand_yes _ _).mono ?_; rintro e w1 ⟨rfl, hw⟩; obtain rfl := hw.symm) | (go_at_call_of 119 (Value.bool false); refine (demand_no _ _).mono ?_; rintro e w1 ⟨rfl, hw⟩; obtain rfl := hw.symm))
      exact ⟨rfl, ⟨_, rfl⟩, by first | exact belowDraws (below2 _ _ _) _ | exact below2 _ _ _⟩
    | true =>
      go_enter Tryz.func129, Tryz.ntmps129
      go_wp2_with (first | (go_at_call_of 23 (Value.int .i64 a); refine (C1.out _).mono ?_; rintro e w1 ⟨rfl, hw⟩; obtain rfl := hw.symm) | (go_at_call_of 23 (Value.int .i64 b); refine (C2.out _).mono ?_; rintro e w1 ⟨rfl, hw⟩; obtain rfl := hw.symm) | (go_at_call_of 119 (Value.bool true); refine (demand_yes _ _).mono ?_; rintro e w1 ⟨rfl, hw⟩; obtain rfl := hw.symm) | (go_at_call_of 119 (Value.bool false); refine (demand_no _ _).mono ?_; rintro e w1 ⟨rfl, hw⟩; obtain rfl := hw.symm))
      first | go_end0 | refine bodyPost_ret (results_none rfl _ _ _) rfl ?_
      exact ⟨rfl, by first | exact belowDraws (below2 _ _ _) _ | exact below2 _ _ _⟩

theorem demandFields_any (k a b : Int) (co : Option Addr) (cn cc : Nat) (o s t v : Int) (w : World) :
    Calls Tryz.prog 129 #[.agg #[.int .i64 k, .int .i64 a, .int .i64 b, .slice co cn cc], .agg #[.int .i64 o, .int .i64 s, .int .i64 t, .int .i64 v]] w (DemEnd w (fieldsB k a b cn ⟨o, s, t, v⟩)) := by
  by_cases n1 : k = 1
  · subst n1; exact dem1 a b co cn cc o s t v w
  by_cases n3 : k = 3
  · subst n3; exact dem3 a b co cn cc o s t v w
  by_cases n4 : k = 4
  · subst n4; exact dem4 a b co cn cc o s t v w
  by_cases n5 : k = 5
  · subst n5; exact dem5 a b co cn cc o s t v w
  by_cases n6 : k = 6
  · subst n6; exact dem6 a b co cn cc o s t v w
  by_cases n7 : k = 7
  · subst n7; exact dem7 a b co cn cc o s t v w
  by_cases n8 : k = 8
  · subst n8; exact dem8 a b co cn cc o s t v w
  by_cases n9 : k = 9
  · subst n9; exact dem9 a b co cn cc o s t v w
  exact demX k a b co cn cc o s t v w n1 n3 n4 n5 n6 n7 n8 n9

end Go.Proofs.YtkcbomhhdfgihaaGreat
