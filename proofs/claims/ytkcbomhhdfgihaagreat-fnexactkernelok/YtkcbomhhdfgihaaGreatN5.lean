import Derived.Test.YtkcbomhhdfgihaaGreatN4
namespace Go.Proofs.YtkcbomhhdfgihaaGreat
attribute [local go_sem ↓] Go.wp_at_zero Go.wp_at_succ
open Go.RowKit Go.Sort

/-- What an item makes of the stack: the tree that is pushed, and what is left below it. -/
def stepT (vars op val : Int) (st : List Tree) : Option (Tree × List Tree) :=
  if op = 1 then (if -999999999 ≤ val ∧ val ≤ 999999999 then some (.num val, st) else none)
  else if op = 2 then (if 0 ≤ val ∧ val < vars then some (.var val, st) else none)
  else if op = 19 then (if 1 ≤ val ∧ val ≤ 7 then (match st with | t :: st' => some (.conv val t, st') | [] => none) else none)
  else if ¬ val = 0 then none
  else if op = 3 then some (.arg, st)
  else if op = 13 then (match st with | t :: st' => some (.no t, st') | [] => none)
  else (match st with | r :: l :: st' => if binOk op then some (.bin op l r, st') else none | _ => none)

/-- How a lift ends: with the tree, or given up. -/
def LiftEnd (sb : Nat) (w : World) (r : Option (Tree × List Tree)) (e : Ending) (w' : World) : Prop :=
  match r with
  | some (t, st') => e = .returned (tv t) ∧ Stk w' sb st' ∧ Below sb w w'
  | none => Pan e ∧ Below sb w w'

set_option maxHeartbeats 400000 in
theorem lift_num (sb : Nat) (vars val : Int) (st : List Tree) (w : World) (h : Stk w sb st) : Calls Tryz.prog 131 #[.pointer (some ⟨sb, 0, none⟩), .agg #[.int .i64 1, .int .i64 val], .int .i64 vars] w (LiftEnd sb w (stepT vars 1 val st)) := by
  have hlt := h.lt
  have HS := hid (h.below (below1 w (.cells #[.int .i64 1, .int .i64 val] 146)))
  have HB := hid ((below1 w (.cells #[.int .i64 1, .int .i64 val] 146)).mono (Nat.le_of_lt hlt))
  clear h
  by_cases h1 : -999999999 ≤ val
  · by_cases h2 : val ≤ 999999999
    · have e : stepT vars 1 val st = some (.num val, st) := by simp [stepT, h1, h2]
      rw [e]
      clear e
      go_enter Tryz.func131, Tryz.ntmps131
      go_wp2_with (go_at_call 119; refine (demand_yes _ _).mono ?_; rintro e w' ⟨rfl, hw⟩; obtain rfl := hw.symm)
      go_ret
      exact ⟨rfl, HS.out, HB.out⟩
    · have e : stepT vars 1 val st = none := by simp [stepT, h1, h2]
      rw [e]
      clear e
      go_enter Tryz.func131, Tryz.ntmps131
      go_wp2_with (go_at_call 119; refine (demand_no _ _).mono ?_; rintro e w' ⟨rfl, hw⟩; obtain rfl := hw.symm)
      exact ⟨rfl, ⟨_, rfl⟩, HB.out⟩
  · have e : stepT vars 1 val st = none := by simp [stepT, h1]
    rw [e]
    clear e
    go_enter Tryz.func131, Tryz.ntmps131
    go_wp2_with (go_at_call 119; refine (demand_no _ _).mono ?_; rintro e w' ⟨rfl, hw⟩; obtain rfl := hw.symm)
    exact ⟨rfl, ⟨_, rfl⟩, HB.out⟩

set_option maxHeartbeats 400000 in
theorem lift_var (sb : Nat) (vars val : Int) (st : List Tree) (w : World) (h : Stk w sb st) : Calls Tryz.prog 131 #[.pointer (some ⟨sb, 0, none⟩), .agg #[.int .i64 2, .int .i64 val], .int .i64 vars] w (LiftEnd sb w (stepT vars 2 val st)) := by
  have hlt := h.lt
  have HS := hid (h.below (below1 w (.cells #[.int .i64 2, .int .i64 val] 146)))
  have HB := hid ((below1 w (.cells #[.int .i64 2, .int .i64 val] 146)).mono (Nat.le_of_lt hlt))
  clear h
  have C := hid (within_any val vars)
  by_cases h1 : 0 ≤ val ∧ val < vars
  · have e : stepT vars 2 val st = some (.var val, st) := by simp [stepT, h1]
    have hd : decide (0 ≤ val ∧ val < vars) = true := by simpa using h1
    rw [hd] at C
    rw [e]
    clear e hd h1
    go_enter Tryz.func131, Tryz.ntmps131
    go_wp2_with (first | (go_at_call 23; refine (C.out _).mono ?_; rintro e w' ⟨rfl, hw⟩; obtain rfl := hw.symm) | (go_at_call 119; refine (demand_yes _ _).mono ?_; rintro e w' ⟨rfl, hw⟩; obtain rfl := hw.symm))
    go_ret
    exact ⟨rfl, HS.out, HB.out⟩
  · have e : stepT vars 2 val st = none := by simp [stepT, h1]
    have hd : decide (0 ≤ val ∧ val < vars) = false := by simpa using h1
    rw [hd] at C
    rw [e]
    clear e hd h1
    go_enter Tryz.func131, Tryz.ntmps131
    go_wp2_with (first | (go_at_call 23; refine (C.out _).mono ?_; rintro e w' ⟨rfl, hw⟩; obtain rfl := hw.symm) | (go_at_call 119; refine (demand_no _ _).mono ?_; rintro e w' ⟨rfl, hw⟩; obtain rfl := hw.symm))
    exact ⟨rfl, ⟨_, rfl⟩, HB.out⟩

set_option maxHeartbeats 400000 in
theorem lift_arg (sb : Nat) (vars val : Int) (st : List Tree) (w : World) (h : Stk w sb st) : Calls Tryz.prog 131 #[.pointer (some ⟨sb, 0, none⟩), .agg #[.int .i64 3, .int .i64 val], .int .i64 vars] w (LiftEnd sb w (stepT vars 3 val st)) := by
  have hlt := h.lt
  have HS := hid (h.below (below1 w (.cells #[.int .i64 3, .int .i64 val] 146)))
  have HB := hid ((below1 w (.cells #[.int .i64 3, .int .i64 val] 146)).mono (Nat.le_of_lt hlt))
  clear h
  by_cases h1 : val = 0
  · subst h1
    have e : stepT vars 3 0 st = some (.arg, st) := by simp [stepT]
    rw [e]
    clear e
    go_enter Tryz.func131, Tryz.ntmps131
    go_wp2_with (go_at_call 119; refine (demand_yes _ _).mono ?_; rintro e w' ⟨rfl, hw⟩; obtain rfl := hw.symm)
    go_ret
    exact ⟨rfl, HS.out, HB.out⟩
  · have e : stepT vars 3 val st = none := by simp [stepT, h1]
    have hd : (val == 0) = false := by simpa using h1
    rw [e]
    clear e h1
    go_enter Tryz.func131, Tryz.ntmps131
    go_wp2_with (go_at_call 119; refine (demand_no _ _).mono ?_; rintro e w' ⟨rfl, hw⟩; obtain rfl := hw.symm)
    exact ⟨rfl, ⟨_, rfl⟩, HB.out⟩

set_option maxHeartbeats 400000 in
theorem lift_not (sb : Nat) (vars val : Int) (st : List Tree) (w : World) (hl : st.length ≤ 900) (h : Stk w sb st) : Calls Tryz.prog 131 #[.pointer (some ⟨sb, 0, none⟩), .agg #[.int .i64 13, .int .i64 val], .int .i64 vars] w (LiftEnd sb w (stepT vars 13 val st)) := by
  have hlt := h.lt
  have HS := hid (h.below (below1 w (.cells #[.int .i64 13, .int .i64 val] 146)))
  have HB := hid ((below1 w (.cells #[.int .i64 13, .int .i64 val] 146)).mono (Nat.le_of_lt hlt))
  clear h
  by_cases h1 : val = 0
  · subst h1
    match st, hl with
    | [], _ =>
      have e : stepT vars 13 0 [] = none := by simp [stepT]
      rw [e]
      clear e
      go_enter Tryz.func131, Tryz.ntmps131
      go_wp2_with (first | (go_at_call 119; refine (demand_yes _ _).mono ?_; rintro e w' ⟨rfl, hw⟩; obtain rfl := hw.symm) | (go_at_call 137; refine (pop_pan sb _ HS.out).mono ?_; rintro e w1 ⟨⟨s, rfl⟩, ha⟩; have A := hid ha; clear ha))
      exact ⟨rfl, ⟨_, rfl⟩, HB.out.trans (A.out.below (by simp; omega))⟩
    | t :: st', hl =>
      have e : stepT vars 13 0 (t :: st') = some (.no t, st') := by simp [stepT]
      rw [e]
      clear e
      obtain ⟨y, x, hy⟩ := tv_form t
      have P1 := hid (pop_away sb t st')
      have e2 : tv (.no t) = .iface 236 (.agg #[.iface y x]) := by rw [← hy]; rfl
      rw [hy] at P1
      have E2 := hid e2
      clear hy e2
      go_enter Tryz.func131, Tryz.ntmps131
      go_wp2_with (first | (go_at_call 119; refine (demand_yes _ _).mono ?_; rintro e w' ⟨rfl, hw⟩; obtain rfl := hw.symm) | (go_at_call 137; refine (P1.out _ (by simp at hl; omega) HS.out).mono ?_; rintro e w1 ⟨rfl, hs, ha⟩; have S1 := hid hs; have A := hid ha; clear ha hs))
      go_ret
      exact ⟨by rw [E2.out]; rfl, S1.out, HB.out.trans (A.out.below (by simp; omega))⟩
  · have e : stepT vars 13 val st = none := by simp [stepT, h1]
    have hd : (val == 0) = false := by simpa using h1
    rw [e]
    clear e h1
    go_enter Tryz.func131, Tryz.ntmps131
    go_wp2_with (go_at_call 119; refine (demand_no _ _).mono ?_; rintro e w' ⟨rfl, hw⟩; obtain rfl := hw.symm)
    exact ⟨rfl, ⟨_, rfl⟩, HB.out⟩

end Go.Proofs.YtkcbomhhdfgihaaGreat
