import Derived.Test.YtkdgkomnbjepdaaGreatDoorNa
import Derived.WalkKit
import Derived.WalkSpells
import Derived.WalkLawsBesides
import Derived.Deep.OwnRows
import Derived.Deep.QuietTactic
import Derived.BigQuiet
import Derived.Deep.RegionWith
import Derived.Deep.DrawnRows
import Derived.Test.YtkdgkomnbjepdaaGreatDoorKa
namespace Go.Proofs.YtkdgkomnbjepdaaGreatDoor
open Go.RowKit Go.Sort
def mostA (k : Int) (l : LimD) : Int := if k = 1 then l.v - 1 else if k = 3 ∨ k = 4 then l.o - 1 else if k = 8 ∨ k = 9 then l.t - 1 else 0
def mostB (k : Int) (l : LimD) : Int := if k = 3 ∨ k = 4 ∨ k = 5 then l.s - 1 else if k = 8 then 999999999 else 0
def hasB (k : Int) : Bool := decide (k ≠ 6 ∧ k ≠ 7 ∧ k ≠ 9)
set_option maxHeartbeats 1600000 in
theorem l1Most_any (k o s t v : Int) (w : World) (hl : limP ⟨o,s,t,v⟩) : Calls Tryz.prog 95 #[.int .i64 k,.agg #[.int .i64 o,.int .i64 s,.int .i64 t,.int .i64 v]] w fun e w' => e = .returned (.tuple #[.int .i64 (mostA k ⟨o,s,t,v⟩),.int .i64 (mostB k ⟨o,s,t,v⟩)]) ∧ Below w.heap.size w w' := by
 obtain ⟨⟨o1,o2⟩,⟨s1,s2⟩,⟨t1,t2⟩,⟨v1,v2⟩⟩ := hl
 simp only at o1 o2 s1 s2 t1 t2 v1 v2
 by_cases h1 : k = 1
 ·subst h1
  go_enter Tryz.func95,Tryz.ntmps95
  go_wp2
  go_ret2
  exact ⟨ret_two (by simp [mostA]) (by simp [mostB]),below1 _ _⟩
 by_cases h3 : k = 3
 ·subst h3
  go_enter Tryz.func95,Tryz.ntmps95
  go_wp2
  go_quiet (fail)
  go_wp2
  go_ret2
  exact ⟨ret_two (by simp [mostA]) (by simp [mostB]),belowDraws (below1 _ _) _⟩
 by_cases h4 : k = 4
 ·subst h4
  go_enter Tryz.func95,Tryz.ntmps95
  go_wp2
  go_quiet (fail)
  go_wp2
  go_ret2
  exact ⟨ret_two (by simp [mostA]) (by simp [mostB]),belowDraws (below1 _ _) _⟩
 by_cases h5 : k = 5
 ·subst h5
  go_enter Tryz.func95,Tryz.ntmps95
  go_wp2
  go_quiet (fail)
  go_wp2
  go_ret2
  exact ⟨ret_two (by simp [mostA]) (by simp [mostB]),belowDraws (below1 _ _) _⟩
 by_cases h8 : k = 8
 ·subst h8
  go_enter Tryz.func95,Tryz.ntmps95
  go_wp2
  go_ret2
  exact ⟨ret_two (by simp [mostA]) (by simp [mostB]),below1 _ _⟩
 by_cases h9 : k = 9
 ·subst h9
  go_enter Tryz.func95,Tryz.ntmps95
  go_wp2
  go_ret2
  exact ⟨ret_two (by simp [mostA]) (by simp [mostB]),below1 _ _⟩
 have e1 : (k == 1) = false := by simpa using h1
 have e3 : (k == 3) = false := by simpa using h3
 have e4 : (k == 4) = false := by simpa using h4
 have e5 : (k == 5) = false := by simpa using h5
 have e8 : (k == 8) = false := by simpa using h8
 have e9 : (k == 9) = false := by simpa using h9
 have E : Hid (mostA k ⟨o,s,t,v⟩ = 0 ∧ mostB k ⟨o,s,t,v⟩ = 0) := hid (by simp [mostA,mostB,h1,h3,h4,h5,h8,h9])
 clear h1 h3 h4 h5 h8 h9
 go_enter Tryz.func95,Tryz.ntmps95
 go_wp2
 go_ret2
 exact ⟨ret_two E.out.1.symm E.out.2.symm,below1 _ _⟩
set_option maxHeartbeats 400000 in
theorem l1HasCode_any (k : Int) (w : World) : Calls Tryz.prog 96 #[.int .i64 k] w fun e w' => e = .returned (.bool (hasB k)) ∧ w' = w := by
 by_cases h6 : k = 6
 ·subst h6
  go_enter Tryz.func96,Tryz.ntmps96
  go_wp2
  go_ret
  exact ⟨ret_bool (by simp [hasB]),rfl⟩
 by_cases h7 : k = 7
 ·subst h7
  go_enter Tryz.func96,Tryz.ntmps96
  go_wp2
  go_ret
  exact ⟨ret_bool (by simp [hasB]),rfl⟩
 by_cases h9 : k = 9
 ·subst h9
  go_enter Tryz.func96,Tryz.ntmps96
  go_wp2
  go_ret
  exact ⟨ret_bool (by simp [hasB]),rfl⟩
 have e6 : (k != 6) = true := by simpa using h6
 have e7 : (k != 7) = true := by simpa using h7
 have e9 : (k != 9) = true := by simpa using h9
 have E : Hid (hasB k = true) := hid (by simp [hasB,h6,h7,h9])
 clear h6 h7 h9
 go_enter Tryz.func96,Tryz.ntmps96
 go_wp2
 go_ret
 exact ⟨ret_bool E.out.symm,rfl⟩
end Go.Proofs.YtkdgkomnbjepdaaGreatDoor
namespace Go.Proofs.YtkdgkomnbjepdaaGreatDoor
open Go.RowKit Go.Sort
def stmB (l : LimD) (s : StmD) : Bool :=
 betB s.kind 1 9 && betB s.a 0 (mostA s.kind l) && betB s.b 0 (mostB s.kind l) && (if hasB s.kind then codeB s.code l.v else decide (s.code.length = 0))
abbrev stmsP (l : LimD) (ss : List StmD) (k : Nat) : Prop := ∀ i,i < k → stmB l (ss.getD i stm0) = true
def stmsB (l : LimD) (ss : List StmD) : Bool := decide (limP l ∧ ss.length ≤ 50 ∧ stmsP l ss ss.length)
end Go.Proofs.YtkdgkomnbjepdaaGreatDoor
namespace Go.Proofs.YtkdgkomnbjepdaaGreatDoor
open Go.RowKit Go.Sort
def fieldA (k : Int) (l : LimD) : Int := if k = 1 then l.v else if k = 3 ∨ k = 4 then l.o else if k = 8 ∨ k = 9 then l.t else 1
def fieldB (k : Int) (l : LimD) : Int := if k = 3 ∨ k = 4 ∨ k = 5 then l.s else if k = 8 then 1000000000 else 1
def fieldsB (k a b : Int) (cn : Nat) (l : LimD) : Bool := decide (0 ≤ a ∧ a < fieldA k l) && decide (0 ≤ b ∧ b < fieldB k l) && (if hasB k then true else decide (cn = 0))
theorem within_of (n c : Int) (b : Bool) (h : b = decide (0 ≤ n ∧ n < c)) (w : World) : Calls Tryz.prog 25 #[.int .i64 n,.int .i64 c] w fun e w' => e = .returned (.bool b) ∧ w' = w := by
 rw [h]; exact within_any n c w
def DemEnd (w : World) (b : Bool) (e : Ending) (w' : World) : Prop := (match b with | true => e = .returned (.tuple #[]) | false => Pan e) ∧ Below w.heap.size w w'
set_option maxHeartbeats 1600000 in
theorem dem1 (a b : Int) (co : Option Addr) (cn cc : Nat) (o s t v : Int) (w : World) :
  Calls Tryz.prog 137 #[.agg #[.int .i64 (1),.int .i64 a,.int .i64 b,.slice co cn cc],.agg #[.int .i64 o,.int .i64 s,.int .i64 t,.int .i64 v]] w (DemEnd w (fieldsB (1) a b cn ⟨o,s,t,v⟩)) := by
 obtain ⟨fa,hfa⟩ : ∃ x,x = decide (0 ≤ a ∧ a < v) := ⟨_,rfl⟩
 obtain ⟨fb,hfb⟩ : ∃ x,x = decide (0 ≤ b ∧ b < 1) := ⟨_,rfl⟩
 have C1 := hid (within_of a v fa hfa)
 have C2 := hid (within_of b 1 fb hfb)
 have E : Hid (fieldsB (1) a b cn ⟨o,s,t,v⟩ = (fa && fb)) := hid (by rw [hfa,hfb]; simp [fieldsB,fieldA,fieldB,hasB])
 rw [E.out]
 clear hfa hfb E
 cases fa with
 | false =>
  go_enter Tryz.func137,Tryz.ntmps137
  go_wp2_with (first | (go_at_call_of 25 (Value.int .i64 a); refine (C1.out _).mono ?_; rintro e w1 ⟨rfl,hw⟩; obtain rfl := hw.symm) | (go_at_call_of 25 (Value.int .i64 b); refine (C2.out _).mono ?_; rintro e w1 ⟨rfl,hw⟩; obtain rfl := hw.symm) | (go_at_call_of 128 (Value.bool true); refine (demand_yes _ _).mono ?_; rintro e w1 ⟨rfl,hw⟩; obtain rfl := hw.symm) | (go_at_call_of 128 (Value.bool false); refine (demand_no _ _).mono ?_; rintro e w1 ⟨rfl,hw⟩; obtain rfl := hw.symm))
  exact ⟨rfl,⟨_,rfl⟩,by first | exact belowDraws (below2 _ _ _) _ | exact below2 _ _ _⟩
 | true =>
  cases fb with
  | false =>
   go_enter Tryz.func137,Tryz.ntmps137
   go_wp2_with (first | (go_at_call_of 25 (Value.int .i64 a); refine (C1.out _).mono ?_; rintro e w1 ⟨rfl,hw⟩; obtain rfl := hw.symm) | (go_at_call_of 25 (Value.int .i64 b); refine (C2.out _).mono ?_; rintro e w1 ⟨rfl,hw⟩; obtain rfl := hw.symm) | (go_at_call_of 128 (Value.bool true); refine (demand_yes _ _).mono ?_; rintro e w1 ⟨rfl,hw⟩; obtain rfl := hw.symm) | (go_at_call_of 128 (Value.bool false); refine (demand_no _ _).mono ?_; rintro e w1 ⟨rfl,hw⟩; obtain rfl := hw.symm))
   exact ⟨rfl,⟨_,rfl⟩,by first | exact belowDraws (below2 _ _ _) _ | exact below2 _ _ _⟩
  | true =>
   go_enter Tryz.func137,Tryz.ntmps137
   go_wp2_with (first | (go_at_call_of 25 (Value.int .i64 a); refine (C1.out _).mono ?_; rintro e w1 ⟨rfl,hw⟩; obtain rfl := hw.symm) | (go_at_call_of 25 (Value.int .i64 b); refine (C2.out _).mono ?_; rintro e w1 ⟨rfl,hw⟩; obtain rfl := hw.symm) | (go_at_call_of 128 (Value.bool true); refine (demand_yes _ _).mono ?_; rintro e w1 ⟨rfl,hw⟩; obtain rfl := hw.symm) | (go_at_call_of 128 (Value.bool false); refine (demand_no _ _).mono ?_; rintro e w1 ⟨rfl,hw⟩; obtain rfl := hw.symm))
   first | go_end0 | refine bodyPost_ret (results_none rfl _ _ _) rfl ?_
   exact ⟨rfl,by first | exact belowDraws (below2 _ _ _) _ | exact below2 _ _ _⟩
set_option maxHeartbeats 1600000 in
theorem dem3 (a b : Int) (co : Option Addr) (cn cc : Nat) (o s t v : Int) (w : World) :
  Calls Tryz.prog 137 #[.agg #[.int .i64 (3),.int .i64 a,.int .i64 b,.slice co cn cc],.agg #[.int .i64 o,.int .i64 s,.int .i64 t,.int .i64 v]] w (DemEnd w (fieldsB (3) a b cn ⟨o,s,t,v⟩)) := by
 obtain ⟨fa,hfa⟩ : ∃ x,x = decide (0 ≤ a ∧ a < o) := ⟨_,rfl⟩
 obtain ⟨fb,hfb⟩ : ∃ x,x = decide (0 ≤ b ∧ b < s) := ⟨_,rfl⟩
 have C1 := hid (within_of a o fa hfa)
 have C2 := hid (within_of b s fb hfb)
 have E : Hid (fieldsB (3) a b cn ⟨o,s,t,v⟩ = (fa && fb)) := hid (by rw [hfa,hfb]; simp [fieldsB,fieldA,fieldB,hasB])
 rw [E.out]
 clear hfa hfb E
 cases fa with
 | false =>
  go_enter Tryz.func137,Tryz.ntmps137
  go_wp2
  go_quiet (fail)
  go_wp2_with (first | (go_at_call_of 25 (Value.int .i64 a); refine (C1.out _).mono ?_; rintro e w1 ⟨rfl,hw⟩; obtain rfl := hw.symm) | (go_at_call_of 25 (Value.int .i64 b); refine (C2.out _).mono ?_; rintro e w1 ⟨rfl,hw⟩; obtain rfl := hw.symm) | (go_at_call_of 128 (Value.bool true); refine (demand_yes _ _).mono ?_; rintro e w1 ⟨rfl,hw⟩; obtain rfl := hw.symm) | (go_at_call_of 128 (Value.bool false); refine (demand_no _ _).mono ?_; rintro e w1 ⟨rfl,hw⟩; obtain rfl := hw.symm))
  exact ⟨rfl,⟨_,rfl⟩,by first | exact belowDraws (below2 _ _ _) _ | exact below2 _ _ _⟩
 | true =>
  cases fb with
  | false =>
   go_enter Tryz.func137,Tryz.ntmps137
   go_wp2
   go_quiet (fail)
   go_wp2_with (first | (go_at_call_of 25 (Value.int .i64 a); refine (C1.out _).mono ?_; rintro e w1 ⟨rfl,hw⟩; obtain rfl := hw.symm) | (go_at_call_of 25 (Value.int .i64 b); refine (C2.out _).mono ?_; rintro e w1 ⟨rfl,hw⟩; obtain rfl := hw.symm) | (go_at_call_of 128 (Value.bool true); refine (demand_yes _ _).mono ?_; rintro e w1 ⟨rfl,hw⟩; obtain rfl := hw.symm) | (go_at_call_of 128 (Value.bool false); refine (demand_no _ _).mono ?_; rintro e w1 ⟨rfl,hw⟩; obtain rfl := hw.symm))
   exact ⟨rfl,⟨_,rfl⟩,by first | exact belowDraws (below2 _ _ _) _ | exact below2 _ _ _⟩
  | true =>
   go_enter Tryz.func137,Tryz.ntmps137
   go_wp2
   go_quiet (fail)
   go_wp2_with (first | (go_at_call_of 25 (Value.int .i64 a); refine (C1.out _).mono ?_; rintro e w1 ⟨rfl,hw⟩; obtain rfl := hw.symm) | (go_at_call_of 25 (Value.int .i64 b); refine (C2.out _).mono ?_; rintro e w1 ⟨rfl,hw⟩; obtain rfl := hw.symm) | (go_at_call_of 128 (Value.bool true); refine (demand_yes _ _).mono ?_; rintro e w1 ⟨rfl,hw⟩; obtain rfl := hw.symm) | (go_at_call_of 128 (Value.bool false); refine (demand_no _ _).mono ?_; rintro e w1 ⟨rfl,hw⟩; obtain rfl := hw.symm))
   first | go_end0 | refine bodyPost_ret (results_none rfl _ _ _) rfl ?_
   exact ⟨rfl,by first | exact belowDraws (below2 _ _ _) _ | exact below2 _ _ _⟩
set_option maxHeartbeats 1600000 in
theorem dem4 (a b : Int) (co : Option Addr) (cn cc : Nat) (o s t v : Int) (w : World) :
  Calls Tryz.prog 137 #[.agg #[.int .i64 (4),.int .i64 a,.int .i64 b,.slice co cn cc],.agg #[.int .i64 o,.int .i64 s,.int .i64 t,.int .i64 v]] w (DemEnd w (fieldsB (4) a b cn ⟨o,s,t,v⟩)) := by
 obtain ⟨fa,hfa⟩ : ∃ x,x = decide (0 ≤ a ∧ a < o) := ⟨_,rfl⟩
 obtain ⟨fb,hfb⟩ : ∃ x,x = decide (0 ≤ b ∧ b < s) := ⟨_,rfl⟩
 have C1 := hid (within_of a o fa hfa)
 have C2 := hid (within_of b s fb hfb)
 have E : Hid (fieldsB (4) a b cn ⟨o,s,t,v⟩ = (fa && fb)) := hid (by rw [hfa,hfb]; simp [fieldsB,fieldA,fieldB,hasB])
 rw [E.out]
 clear hfa hfb E
 cases fa with
 | false =>
  go_enter Tryz.func137,Tryz.ntmps137
  go_wp2
  go_quiet (fail)
  go_wp2_with (first | (go_at_call_of 25 (Value.int .i64 a); refine (C1.out _).mono ?_; rintro e w1 ⟨rfl,hw⟩; obtain rfl := hw.symm) | (go_at_call_of 25 (Value.int .i64 b); refine (C2.out _).mono ?_; rintro e w1 ⟨rfl,hw⟩; obtain rfl := hw.symm) | (go_at_call_of 128 (Value.bool true); refine (demand_yes _ _).mono ?_; rintro e w1 ⟨rfl,hw⟩; obtain rfl := hw.symm) | (go_at_call_of 128 (Value.bool false); refine (demand_no _ _).mono ?_; rintro e w1 ⟨rfl,hw⟩; obtain rfl := hw.symm))
  exact ⟨rfl,⟨_,rfl⟩,by first | exact belowDraws (below2 _ _ _) _ | exact below2 _ _ _⟩
 | true =>
  cases fb with
  | false =>
   go_enter Tryz.func137,Tryz.ntmps137
   go_wp2
   go_quiet (fail)
   go_wp2_with (first | (go_at_call_of 25 (Value.int .i64 a); refine (C1.out _).mono ?_; rintro e w1 ⟨rfl,hw⟩; obtain rfl := hw.symm) | (go_at_call_of 25 (Value.int .i64 b); refine (C2.out _).mono ?_; rintro e w1 ⟨rfl,hw⟩; obtain rfl := hw.symm) | (go_at_call_of 128 (Value.bool true); refine (demand_yes _ _).mono ?_; rintro e w1 ⟨rfl,hw⟩; obtain rfl := hw.symm) | (go_at_call_of 128 (Value.bool false); refine (demand_no _ _).mono ?_; rintro e w1 ⟨rfl,hw⟩; obtain rfl := hw.symm))
   exact ⟨rfl,⟨_,rfl⟩,by first | exact belowDraws (below2 _ _ _) _ | exact below2 _ _ _⟩
  | true =>
   go_enter Tryz.func137,Tryz.ntmps137
   go_wp2
   go_quiet (fail)
   go_wp2_with (first | (go_at_call_of 25 (Value.int .i64 a); refine (C1.out _).mono ?_; rintro e w1 ⟨rfl,hw⟩; obtain rfl := hw.symm) | (go_at_call_of 25 (Value.int .i64 b); refine (C2.out _).mono ?_; rintro e w1 ⟨rfl,hw⟩; obtain rfl := hw.symm) | (go_at_call_of 128 (Value.bool true); refine (demand_yes _ _).mono ?_; rintro e w1 ⟨rfl,hw⟩; obtain rfl := hw.symm) | (go_at_call_of 128 (Value.bool false); refine (demand_no _ _).mono ?_; rintro e w1 ⟨rfl,hw⟩; obtain rfl := hw.symm))
   first | go_end0 | refine bodyPost_ret (results_none rfl _ _ _) rfl ?_
   exact ⟨rfl,by first | exact belowDraws (below2 _ _ _) _ | exact below2 _ _ _⟩
set_option maxHeartbeats 1600000 in
theorem dem5 (a b : Int) (co : Option Addr) (cn cc : Nat) (o s t v : Int) (w : World) :
  Calls Tryz.prog 137 #[.agg #[.int .i64 (5),.int .i64 a,.int .i64 b,.slice co cn cc],.agg #[.int .i64 o,.int .i64 s,.int .i64 t,.int .i64 v]] w (DemEnd w (fieldsB (5) a b cn ⟨o,s,t,v⟩)) := by
 obtain ⟨fa,hfa⟩ : ∃ x,x = decide (0 ≤ a ∧ a < 1) := ⟨_,rfl⟩
 obtain ⟨fb,hfb⟩ : ∃ x,x = decide (0 ≤ b ∧ b < s) := ⟨_,rfl⟩
 have C1 := hid (within_of a 1 fa hfa)
 have C2 := hid (within_of b s fb hfb)
 have E : Hid (fieldsB (5) a b cn ⟨o,s,t,v⟩ = (fa && fb)) := hid (by rw [hfa,hfb]; simp [fieldsB,fieldA,fieldB,hasB])
 rw [E.out]
 clear hfa hfb E
 cases fa with
 | false =>
  go_enter Tryz.func137,Tryz.ntmps137
  go_wp2_with (first | (go_at_call_of 25 (Value.int .i64 a); refine (C1.out _).mono ?_; rintro e w1 ⟨rfl,hw⟩; obtain rfl := hw.symm) | (go_at_call_of 25 (Value.int .i64 b); refine (C2.out _).mono ?_; rintro e w1 ⟨rfl,hw⟩; obtain rfl := hw.symm) | (go_at_call_of 128 (Value.bool true); refine (demand_yes _ _).mono ?_; rintro e w1 ⟨rfl,hw⟩; obtain rfl := hw.symm) | (go_at_call_of 128 (Value.bool false); refine (demand_no _ _).mono ?_; rintro e w1 ⟨rfl,hw⟩; obtain rfl := hw.symm))
  exact ⟨rfl,⟨_,rfl⟩,by first | exact belowDraws (below2 _ _ _) _ | exact below2 _ _ _⟩
 | true =>
  cases fb with
  | false =>
   go_enter Tryz.func137,Tryz.ntmps137
   go_wp2_with (first | (go_at_call_of 25 (Value.int .i64 a); refine (C1.out _).mono ?_; rintro e w1 ⟨rfl,hw⟩; obtain rfl := hw.symm) | (go_at_call_of 25 (Value.int .i64 b); refine (C2.out _).mono ?_; rintro e w1 ⟨rfl,hw⟩; obtain rfl := hw.symm) | (go_at_call_of 128 (Value.bool true); refine (demand_yes _ _).mono ?_; rintro e w1 ⟨rfl,hw⟩; obtain rfl := hw.symm) | (go_at_call_of 128 (Value.bool false); refine (demand_no _ _).mono ?_; rintro e w1 ⟨rfl,hw⟩; obtain rfl := hw.symm))
   exact ⟨rfl,⟨_,rfl⟩,by first | exact belowDraws (below2 _ _ _) _ | exact below2 _ _ _⟩
  | true =>
   go_enter Tryz.func137,Tryz.ntmps137
   go_wp2_with (first | (go_at_call_of 25 (Value.int .i64 a); refine (C1.out _).mono ?_; rintro e w1 ⟨rfl,hw⟩; obtain rfl := hw.symm) | (go_at_call_of 25 (Value.int .i64 b); refine (C2.out _).mono ?_; rintro e w1 ⟨rfl,hw⟩; obtain rfl := hw.symm) | (go_at_call_of 128 (Value.bool true); refine (demand_yes _ _).mono ?_; rintro e w1 ⟨rfl,hw⟩; obtain rfl := hw.symm) | (go_at_call_of 128 (Value.bool false); refine (demand_no _ _).mono ?_; rintro e w1 ⟨rfl,hw⟩; obtain rfl := hw.symm))
   first | go_end0 | refine bodyPost_ret (results_none rfl _ _ _) rfl ?_
   exact ⟨rfl,by first | exact belowDraws (below2 _ _ _) _ | exact below2 _ _ _⟩
set_option maxHeartbeats 1600000 in
theorem dem8 (a b : Int) (co : Option Addr) (cn cc : Nat) (o s t v : Int) (w : World) :
  Calls Tryz.prog 137 #[.agg #[.int .i64 (8),.int .i64 a,.int .i64 b,.slice co cn cc],.agg #[.int .i64 o,.int .i64 s,.int .i64 t,.int .i64 v]] w (DemEnd w (fieldsB (8) a b cn ⟨o,s,t,v⟩)) := by
 obtain ⟨fa,hfa⟩ : ∃ x,x = decide (0 ≤ a ∧ a < t) := ⟨_,rfl⟩
 obtain ⟨fb,hfb⟩ : ∃ x,x = decide (0 ≤ b ∧ b < 1000000000) := ⟨_,rfl⟩
 have C1 := hid (within_of a t fa hfa)
 have C2 := hid (within_of b 1000000000 fb hfb)
 have E : Hid (fieldsB (8) a b cn ⟨o,s,t,v⟩ = (fa && fb)) := hid (by rw [hfa,hfb]; simp [fieldsB,fieldA,fieldB,hasB])
 rw [E.out]
 clear hfa hfb E
 cases fa with
 | false =>
  go_enter Tryz.func137,Tryz.ntmps137
  go_wp2_with (first | (go_at_call_of 25 (Value.int .i64 a); refine (C1.out _).mono ?_; rintro e w1 ⟨rfl,hw⟩; obtain rfl := hw.symm) | (go_at_call_of 25 (Value.int .i64 b); refine (C2.out _).mono ?_; rintro e w1 ⟨rfl,hw⟩; obtain rfl := hw.symm) | (go_at_call_of 128 (Value.bool true); refine (demand_yes _ _).mono ?_; rintro e w1 ⟨rfl,hw⟩; obtain rfl := hw.symm) | (go_at_call_of 128 (Value.bool false); refine (demand_no _ _).mono ?_; rintro e w1 ⟨rfl,hw⟩; obtain rfl := hw.symm))
  exact ⟨rfl,⟨_,rfl⟩,by first | exact belowDraws (below2 _ _ _) _ | exact below2 _ _ _⟩
 | true =>
  cases fb with
  | false =>
   go_enter Tryz.func137,Tryz.ntmps137
   go_wp2_with (first | (go_at_call_of 25 (Value.int .i64 a); refine (C1.out _).mono ?_; rintro e w1 ⟨rfl,hw⟩; obtain rfl := hw.symm) | (go_at_call_of 25 (Value.int .i64 b); refine (C2.out _).mono ?_; rintro e w1 ⟨rfl,hw⟩; obtain rfl := hw.symm) | (go_at_call_of 128 (Value.bool true); refine (demand_yes _ _).mono ?_; rintro e w1 ⟨rfl,hw⟩; obtain rfl := hw.symm) | (go_at_call_of 128 (Value.bool false); refine (demand_no _ _).mono ?_; rintro e w1 ⟨rfl,hw⟩; obtain rfl := hw.symm))
   exact ⟨rfl,⟨_,rfl⟩,by first | exact belowDraws (below2 _ _ _) _ | exact below2 _ _ _⟩
  | true =>
   go_enter Tryz.func137,Tryz.ntmps137
   go_wp2_with (first | (go_at_call_of 25 (Value.int .i64 a); refine (C1.out _).mono ?_; rintro e w1 ⟨rfl,hw⟩; obtain rfl := hw.symm) | (go_at_call_of 25 (Value.int .i64 b); refine (C2.out _).mono ?_; rintro e w1 ⟨rfl,hw⟩; obtain rfl := hw.symm) | (go_at_call_of 128 (Value.bool true); refine (demand_yes _ _).mono ?_; rintro e w1 ⟨rfl,hw⟩; obtain rfl := hw.symm) | (go_at_call_of 128 (Value.bool false); refine (demand_no _ _).mono ?_; rintro e w1 ⟨rfl,hw⟩; obtain rfl := hw.symm))
   first | go_end0 | refine bodyPost_ret (results_none rfl _ _ _) rfl ?_
   exact ⟨rfl,by first | exact belowDraws (below2 _ _ _) _ | exact below2 _ _ _⟩
set_option maxHeartbeats 1600000 in
theorem dem9 (a b : Int) (co : Option Addr) (cn cc : Nat) (o s t v : Int) (w : World) :
  Calls Tryz.prog 137 #[.agg #[.int .i64 (9),.int .i64 a,.int .i64 b,.slice co cn cc],.agg #[.int .i64 o,.int .i64 s,.int .i64 t,.int .i64 v]] w (DemEnd w (fieldsB (9) a b cn ⟨o,s,t,v⟩)) := by
 obtain ⟨fa,hfa⟩ : ∃ x,x = decide (0 ≤ a ∧ a < t) := ⟨_,rfl⟩
 obtain ⟨fb,hfb⟩ : ∃ x,x = decide (0 ≤ b ∧ b < 1) := ⟨_,rfl⟩
 have C1 := hid (within_of a t fa hfa)
 have C2 := hid (within_of b 1 fb hfb)
 have E : Hid (fieldsB (9) a b cn ⟨o,s,t,v⟩ = (fa && fb && decide (cn = 0))) := hid (by rw [hfa,hfb]; simp [fieldsB,fieldA,fieldB,hasB])
 rw [E.out]
 clear hfa hfb E
 cases fa with
 | false =>
  go_enter Tryz.func137,Tryz.ntmps137
  go_wp2_with (first | (go_at_call_of 25 (Value.int .i64 a); refine (C1.out _).mono ?_; rintro e w1 ⟨rfl,hw⟩; obtain rfl := hw.symm) | (go_at_call_of 25 (Value.int .i64 b); refine (C2.out _).mono ?_; rintro e w1 ⟨rfl,hw⟩; obtain rfl := hw.symm) | (go_at_call_of 128 (Value.bool true); refine (demand_yes _ _).mono ?_; rintro e w1 ⟨rfl,hw⟩; obtain rfl := hw.symm) | (go_at_call_of 128 (Value.bool false); refine (demand_no _ _).mono ?_; rintro e w1 ⟨rfl,hw⟩; obtain rfl := hw.symm))
  exact ⟨rfl,⟨_,rfl⟩,by first | exact belowDraws (below2 _ _ _) _ | exact below2 _ _ _⟩
 | true =>
  cases fb with
  | false =>
   go_enter Tryz.func137,Tryz.ntmps137
   go_wp2_with (first | (go_at_call_of 25 (Value.int .i64 a); refine (C1.out _).mono ?_; rintro e w1 ⟨rfl,hw⟩; obtain rfl := hw.symm) | (go_at_call_of 25 (Value.int .i64 b); refine (C2.out _).mono ?_; rintro e w1 ⟨rfl,hw⟩; obtain rfl := hw.symm) | (go_at_call_of 128 (Value.bool true); refine (demand_yes _ _).mono ?_; rintro e w1 ⟨rfl,hw⟩; obtain rfl := hw.symm) | (go_at_call_of 128 (Value.bool false); refine (demand_no _ _).mono ?_; rintro e w1 ⟨rfl,hw⟩; obtain rfl := hw.symm))
   exact ⟨rfl,⟨_,rfl⟩,by first | exact belowDraws (below2 _ _ _) _ | exact below2 _ _ _⟩
  | true =>
   by_cases hz : cn = 0
   ·subst hz
    go_enter Tryz.func137,Tryz.ntmps137
    go_wp2_with (first | (go_at_call_of 25 (Value.int .i64 a); refine (C1.out _).mono ?_; rintro e w1 ⟨rfl,hw⟩; obtain rfl := hw.symm) | (go_at_call_of 25 (Value.int .i64 b); refine (C2.out _).mono ?_; rintro e w1 ⟨rfl,hw⟩; obtain rfl := hw.symm) | (go_at_call_of 128 (Value.bool true); refine (demand_yes _ _).mono ?_; rintro e w1 ⟨rfl,hw⟩; obtain rfl := hw.symm) | (go_at_call_of 128 (Value.bool false); refine (demand_no _ _).mono ?_; rintro e w1 ⟨rfl,hw⟩; obtain rfl := hw.symm))
    first | go_end0 | refine bodyPost_ret (results_none rfl _ _ _) rfl ?_
    exact ⟨rfl,by first | exact belowDraws (below2 _ _ _) _ | exact below2 _ _ _⟩
   ·have hz2 : ((cn : Int) == 0) = false := by simp; omega
    have E2 : Hid ((true && true && decide (cn = 0)) = false) := hid (by simp [hz])
    rw [E2.out]
    clear hz E2
    go_enter Tryz.func137,Tryz.ntmps137
    go_wp2_with (first | (go_at_call_of 25 (Value.int .i64 a); refine (C1.out _).mono ?_; rintro e w1 ⟨rfl,hw⟩; obtain rfl := hw.symm) | (go_at_call_of 25 (Value.int .i64 b); refine (C2.out _).mono ?_; rintro e w1 ⟨rfl,hw⟩; obtain rfl := hw.symm) | (go_at_call_of 128 (Value.bool true); refine (demand_yes _ _).mono ?_; rintro e w1 ⟨rfl,hw⟩; obtain rfl := hw.symm) | (go_at_call_of 128 (Value.bool false); refine (demand_no _ _).mono ?_; rintro e w1 ⟨rfl,hw⟩; obtain rfl := hw.symm))
    exact ⟨rfl,⟨_,rfl⟩,by first | exact belowDraws (below2 _ _ _) _ | exact below2 _ _ _⟩
set_option maxHeartbeats 1600000 in
theorem dem6 (a b : Int) (co : Option Addr) (cn cc : Nat) (o s t v : Int) (w : World) :
  Calls Tryz.prog 137 #[.agg #[.int .i64 (6),.int .i64 a,.int .i64 b,.slice co cn cc],.agg #[.int .i64 o,.int .i64 s,.int .i64 t,.int .i64 v]] w (DemEnd w (fieldsB (6) a b cn ⟨o,s,t,v⟩)) := by
 obtain ⟨fa,hfa⟩ : ∃ x,x = decide (0 ≤ a ∧ a < 1) := ⟨_,rfl⟩
 obtain ⟨fb,hfb⟩ : ∃ x,x = decide (0 ≤ b ∧ b < 1) := ⟨_,rfl⟩
 have C1 := hid (within_of a 1 fa hfa)
 have C2 := hid (within_of b 1 fb hfb)
 have E : Hid (fieldsB (6) a b cn ⟨o,s,t,v⟩ = (fa && fb && decide (cn = 0))) := hid (by rw [hfa,hfb]; simp [fieldsB,fieldA,fieldB,hasB])
 rw [E.out]
 clear hfa hfb E
 cases fa with
 | false =>
  go_enter Tryz.func137,Tryz.ntmps137
  go_wp2_with (first | (go_at_call_of 25 (Value.int .i64 a); refine (C1.out _).mono ?_; rintro e w1 ⟨rfl,hw⟩; obtain rfl := hw.symm) | (go_at_call_of 25 (Value.int .i64 b); refine (C2.out _).mono ?_; rintro e w1 ⟨rfl,hw⟩; obtain rfl := hw.symm) | (go_at_call_of 128 (Value.bool true); refine (demand_yes _ _).mono ?_; rintro e w1 ⟨rfl,hw⟩; obtain rfl := hw.symm) | (go_at_call_of 128 (Value.bool false); refine (demand_no _ _).mono ?_; rintro e w1 ⟨rfl,hw⟩; obtain rfl := hw.symm))
  exact ⟨rfl,⟨_,rfl⟩,by first | exact belowDraws (below2 _ _ _) _ | exact below2 _ _ _⟩
 | true =>
  cases fb with
  | false =>
   go_enter Tryz.func137,Tryz.ntmps137
   go_wp2_with (first | (go_at_call_of 25 (Value.int .i64 a); refine (C1.out _).mono ?_; rintro e w1 ⟨rfl,hw⟩; obtain rfl := hw.symm) | (go_at_call_of 25 (Value.int .i64 b); refine (C2.out _).mono ?_; rintro e w1 ⟨rfl,hw⟩; obtain rfl := hw.symm) | (go_at_call_of 128 (Value.bool true); refine (demand_yes _ _).mono ?_; rintro e w1 ⟨rfl,hw⟩; obtain rfl := hw.symm) | (go_at_call_of 128 (Value.bool false); refine (demand_no _ _).mono ?_; rintro e w1 ⟨rfl,hw⟩; obtain rfl := hw.symm))
   exact ⟨rfl,⟨_,rfl⟩,by first | exact belowDraws (below2 _ _ _) _ | exact below2 _ _ _⟩
  | true =>
   by_cases hz : cn = 0
   ·subst hz
    go_enter Tryz.func137,Tryz.ntmps137
    go_wp2_with (first | (go_at_call_of 25 (Value.int .i64 a); refine (C1.out _).mono ?_; rintro e w1 ⟨rfl,hw⟩; obtain rfl := hw.symm) | (go_at_call_of 25 (Value.int .i64 b); refine (C2.out _).mono ?_; rintro e w1 ⟨rfl,hw⟩; obtain rfl := hw.symm) | (go_at_call_of 128 (Value.bool true); refine (demand_yes _ _).mono ?_; rintro e w1 ⟨rfl,hw⟩; obtain rfl := hw.symm) | (go_at_call_of 128 (Value.bool false); refine (demand_no _ _).mono ?_; rintro e w1 ⟨rfl,hw⟩; obtain rfl := hw.symm))
    first | go_end0 | refine bodyPost_ret (results_none rfl _ _ _) rfl ?_
    exact ⟨rfl,by first | exact belowDraws (below2 _ _ _) _ | exact below2 _ _ _⟩
   ·have hz2 : ((cn : Int) == 0) = false := by simp; omega
    have E2 : Hid ((true && true && decide (cn = 0)) = false) := hid (by simp [hz])
    rw [E2.out]
    clear hz E2
    go_enter Tryz.func137,Tryz.ntmps137
    go_wp2_with (first | (go_at_call_of 25 (Value.int .i64 a); refine (C1.out _).mono ?_; rintro e w1 ⟨rfl,hw⟩; obtain rfl := hw.symm) | (go_at_call_of 25 (Value.int .i64 b); refine (C2.out _).mono ?_; rintro e w1 ⟨rfl,hw⟩; obtain rfl := hw.symm) | (go_at_call_of 128 (Value.bool true); refine (demand_yes _ _).mono ?_; rintro e w1 ⟨rfl,hw⟩; obtain rfl := hw.symm) | (go_at_call_of 128 (Value.bool false); refine (demand_no _ _).mono ?_; rintro e w1 ⟨rfl,hw⟩; obtain rfl := hw.symm))
    exact ⟨rfl,⟨_,rfl⟩,by first | exact belowDraws (below2 _ _ _) _ | exact below2 _ _ _⟩
set_option maxHeartbeats 1600000 in
theorem dem7 (a b : Int) (co : Option Addr) (cn cc : Nat) (o s t v : Int) (w : World) :
  Calls Tryz.prog 137 #[.agg #[.int .i64 (7),.int .i64 a,.int .i64 b,.slice co cn cc],.agg #[.int .i64 o,.int .i64 s,.int .i64 t,.int .i64 v]] w (DemEnd w (fieldsB (7) a b cn ⟨o,s,t,v⟩)) := by
 obtain ⟨fa,hfa⟩ : ∃ x,x = decide (0 ≤ a ∧ a < 1) := ⟨_,rfl⟩
 obtain ⟨fb,hfb⟩ : ∃ x,x = decide (0 ≤ b ∧ b < 1) := ⟨_,rfl⟩
 have C1 := hid (within_of a 1 fa hfa)
 have C2 := hid (within_of b 1 fb hfb)
 have E : Hid (fieldsB (7) a b cn ⟨o,s,t,v⟩ = (fa && fb && decide (cn = 0))) := hid (by rw [hfa,hfb]; simp [fieldsB,fieldA,fieldB,hasB])
 rw [E.out]
 clear hfa hfb E
 cases fa with
 | false =>
  go_enter Tryz.func137,Tryz.ntmps137
  go_wp2_with (first | (go_at_call_of 25 (Value.int .i64 a); refine (C1.out _).mono ?_; rintro e w1 ⟨rfl,hw⟩; obtain rfl := hw.symm) | (go_at_call_of 25 (Value.int .i64 b); refine (C2.out _).mono ?_; rintro e w1 ⟨rfl,hw⟩; obtain rfl := hw.symm) | (go_at_call_of 128 (Value.bool true); refine (demand_yes _ _).mono ?_; rintro e w1 ⟨rfl,hw⟩; obtain rfl := hw.symm) | (go_at_call_of 128 (Value.bool false); refine (demand_no _ _).mono ?_; rintro e w1 ⟨rfl,hw⟩; obtain rfl := hw.symm))
  exact ⟨rfl,⟨_,rfl⟩,by first | exact belowDraws (below2 _ _ _) _ | exact below2 _ _ _⟩
 | true =>
  cases fb with
  | false =>
   go_enter Tryz.func137,Tryz.ntmps137
   go_wp2_with (first | (go_at_call_of 25 (Value.int .i64 a); refine (C1.out _).mono ?_; rintro e w1 ⟨rfl,hw⟩; obtain rfl := hw.symm) | (go_at_call_of 25 (Value.int .i64 b); refine (C2.out _).mono ?_; rintro e w1 ⟨rfl,hw⟩; obtain rfl := hw.symm) | (go_at_call_of 128 (Value.bool true); refine (demand_yes _ _).mono ?_; rintro e w1 ⟨rfl,hw⟩; obtain rfl := hw.symm) | (go_at_call_of 128 (Value.bool false); refine (demand_no _ _).mono ?_; rintro e w1 ⟨rfl,hw⟩; obtain rfl := hw.symm))
   exact ⟨rfl,⟨_,rfl⟩,by first | exact belowDraws (below2 _ _ _) _ | exact below2 _ _ _⟩
  | true =>
   by_cases hz : cn = 0
   ·subst hz
    go_enter Tryz.func137,Tryz.ntmps137
    go_wp2_with (first | (go_at_call_of 25 (Value.int .i64 a); refine (C1.out _).mono ?_; rintro e w1 ⟨rfl,hw⟩; obtain rfl := hw.symm) | (go_at_call_of 25 (Value.int .i64 b); refine (C2.out _).mono ?_; rintro e w1 ⟨rfl,hw⟩; obtain rfl := hw.symm) | (go_at_call_of 128 (Value.bool true); refine (demand_yes _ _).mono ?_; rintro e w1 ⟨rfl,hw⟩; obtain rfl := hw.symm) | (go_at_call_of 128 (Value.bool false); refine (demand_no _ _).mono ?_; rintro e w1 ⟨rfl,hw⟩; obtain rfl := hw.symm))
    first | go_end0 | refine bodyPost_ret (results_none rfl _ _ _) rfl ?_
    exact ⟨rfl,by first | exact belowDraws (below2 _ _ _) _ | exact below2 _ _ _⟩
   ·have hz2 : ((cn : Int) == 0) = false := by simp; omega
    have E2 : Hid ((true && true && decide (cn = 0)) = false) := hid (by simp [hz])
    rw [E2.out]
    clear hz E2
    go_enter Tryz.func137,Tryz.ntmps137
    go_wp2_with (first | (go_at_call_of 25 (Value.int .i64 a); refine (C1.out _).mono ?_; rintro e w1 ⟨rfl,hw⟩; obtain rfl := hw.symm) | (go_at_call_of 25 (Value.int .i64 b); refine (C2.out _).mono ?_; rintro e w1 ⟨rfl,hw⟩; obtain rfl := hw.symm) | (go_at_call_of 128 (Value.bool true); refine (demand_yes _ _).mono ?_; rintro e w1 ⟨rfl,hw⟩; obtain rfl := hw.symm) | (go_at_call_of 128 (Value.bool false); refine (demand_no _ _).mono ?_; rintro e w1 ⟨rfl,hw⟩; obtain rfl := hw.symm))
    exact ⟨rfl,⟨_,rfl⟩,by first | exact belowDraws (below2 _ _ _) _ | exact below2 _ _ _⟩
set_option maxHeartbeats 1600000 in
theorem demX (k a b : Int) (co : Option Addr) (cn cc : Nat) (o s t v : Int) (w : World) (n1 : k ≠ 1) (n3 : k ≠ 3) (n4 : k ≠ 4) (n5 : k ≠ 5) (n6 : k ≠ 6) (n7 : k ≠ 7) (n8 : k ≠ 8) (n9 : k ≠ 9) :
  Calls Tryz.prog 137 #[.agg #[.int .i64 k,.int .i64 a,.int .i64 b,.slice co cn cc],.agg #[.int .i64 o,.int .i64 s,.int .i64 t,.int .i64 v]] w (DemEnd w (fieldsB k a b cn ⟨o,s,t,v⟩)) := by
 obtain ⟨fa,hfa⟩ : ∃ x,x = decide (0 ≤ a ∧ a < 1) := ⟨_,rfl⟩
 obtain ⟨fb,hfb⟩ : ∃ x,x = decide (0 ≤ b ∧ b < 1) := ⟨_,rfl⟩
 have C1 := hid (within_of a 1 fa hfa)
 have C2 := hid (within_of b 1 fb hfb)
 have E : Hid (fieldsB k a b cn ⟨o,s,t,v⟩ = (fa && fb)) := hid (by rw [hfa,hfb]; simp [fieldsB,fieldA,fieldB,hasB,n1,n3,n4,n5,n6,n7,n8,n9])
 have e1 : (k == 1) = false := by simpa using n1
 have e3 : (k == 3) = false := by simpa using n3
 have e4 : (k == 4) = false := by simpa using n4
 have e5 : (k == 5) = false := by simpa using n5
 have e6 : (k == 6) = false := by simpa using n6
 have e7 : (k == 7) = false := by simpa using n7
 have e8 : (k == 8) = false := by simpa using n8
 have e9 : (k == 9) = false := by simpa using n9
 clear n1 n3 n4 n5 n6 n7 n8 n9
 rw [E.out]
 clear hfa hfb E
 cases fa with
 | false =>
  go_enter Tryz.func137,Tryz.ntmps137
  go_wp2_with (first | (go_at_call_of 25 (Value.int .i64 a); refine (C1.out _).mono ?_; rintro e w1 ⟨rfl,hw⟩; obtain rfl := hw.symm) | (go_at_call_of 25 (Value.int .i64 b); refine (C2.out _).mono ?_; rintro e w1 ⟨rfl,hw⟩; obtain rfl := hw.symm) | (go_at_call_of 128 (Value.bool true); refine (demand_yes _ _).mono ?_; rintro e w1 ⟨rfl,hw⟩; obtain rfl := hw.symm) | (go_at_call_of 128 (Value.bool false); refine (demand_no _ _).mono ?_; rintro e w1 ⟨rfl,hw⟩; obtain rfl := hw.symm))
  exact ⟨rfl,⟨_,rfl⟩,by first | exact belowDraws (below2 _ _ _) _ | exact below2 _ _ _⟩
 | true =>
  cases fb with
  | false =>
   go_enter Tryz.func137,Tryz.ntmps137
   go_wp2_with (first | (go_at_call_of 25 (Value.int .i64 a); refine (C1.out _).mono ?_; rintro e w1 ⟨rfl,hw⟩; obtain rfl := hw.symm) | (go_at_call_of 25 (Value.int .i64 b); refine (C2.out _).mono ?_; rintro e w1 ⟨rfl,hw⟩; obtain rfl := hw.symm) | (go_at_call_of 128 (Value.bool true); refine (demand_yes _ _).mono ?_; rintro e w1 ⟨rfl,hw⟩; obtain rfl := hw.symm) | (go_at_call_of 128 (Value.bool false); refine (demand_no _ _).mono ?_; rintro e w1 ⟨rfl,hw⟩; obtain rfl := hw.symm))
   exact ⟨rfl,⟨_,rfl⟩,by first | exact belowDraws (below2 _ _ _) _ | exact below2 _ _ _⟩
  | true =>
   go_enter Tryz.func137,Tryz.ntmps137
   go_wp2_with (first | (go_at_call_of 25 (Value.int .i64 a); refine (C1.out _).mono ?_; rintro e w1 ⟨rfl,hw⟩; obtain rfl := hw.symm) | (go_at_call_of 25 (Value.int .i64 b); refine (C2.out _).mono ?_; rintro e w1 ⟨rfl,hw⟩; obtain rfl := hw.symm) | (go_at_call_of 128 (Value.bool true); refine (demand_yes _ _).mono ?_; rintro e w1 ⟨rfl,hw⟩; obtain rfl := hw.symm) | (go_at_call_of 128 (Value.bool false); refine (demand_no _ _).mono ?_; rintro e w1 ⟨rfl,hw⟩; obtain rfl := hw.symm))
   first | go_end0 | refine bodyPost_ret (results_none rfl _ _ _) rfl ?_
   exact ⟨rfl,by first | exact belowDraws (below2 _ _ _) _ | exact below2 _ _ _⟩
theorem demandFields_any (k a b : Int) (co : Option Addr) (cn cc : Nat) (o s t v : Int) (w : World) :
  Calls Tryz.prog 137 #[.agg #[.int .i64 k,.int .i64 a,.int .i64 b,.slice co cn cc],.agg #[.int .i64 o,.int .i64 s,.int .i64 t,.int .i64 v]] w (DemEnd w (fieldsB k a b cn ⟨o,s,t,v⟩)) := by
 by_cases n1 : k = 1
 ·subst n1; exact dem1 a b co cn cc o s t v w
 by_cases n3 : k = 3
 ·subst n3; exact dem3 a b co cn cc o s t v w
 by_cases n4 : k = 4
 ·subst n4; exact dem4 a b co cn cc o s t v w
 by_cases n5 : k = 5
 ·subst n5; exact dem5 a b co cn cc o s t v w
 by_cases n6 : k = 6
 ·subst n6; exact dem6 a b co cn cc o s t v w
 by_cases n7 : k = 7
 ·subst n7; exact dem7 a b co cn cc o s t v w
 by_cases n8 : k = 8
 ·subst n8; exact dem8 a b co cn cc o s t v w
 by_cases n9 : k = 9
 ·subst n9; exact dem9 a b co cn cc o s t v w
 exact demX k a b co cn cc o s t v w n1 n3 n4 n5 n6 n7 n8 n9
end Go.Proofs.YtkdgkomnbjepdaaGreatDoor
namespace Go.Proofs.YtkdgkomnbjepdaaGreatDoor
open Go.RowKit Go.Sort
set_option linter.unusedVariables false
def nodeOf (l : LimD) (s : StmD) : Option Value :=
 if fieldsB s.kind s.a s.b s.code.length l = false then none
 else if s.kind = 6 then some (.iface 247 (.agg #[])) else if s.kind = 7 then some (.iface 248 (.agg #[])) else if s.kind = 9 then some (.iface 250 (.agg #[.int .i64 s.a]))
 else (liftT s.code l.v).bind fun t =>
  if s.kind = 1 then some (.iface 252 (.agg #[.int .i64 s.a,tv t])) else if s.kind = 2 then some (.iface 254 (.agg #[tv t]))
  else if s.kind = 3 then some (.iface 256 (.agg #[.int .i64 s.a,.int .i64 s.b,tv t])) else if s.kind = 4 then some (.iface 257 (.agg #[.int .i64 s.a,.int .i64 s.b,tv t]))
  else if s.kind = 5 then some (.iface 259 (.agg #[.int .i64 s.b,tv t])) else if s.kind = 8 then some (.iface 261 (.agg #[.int .i64 s.a,.int .i64 s.b,tv t])) else none
def StmEnd (w : World) (r : Option Value) (e : Ending) (w' : World) : Prop :=
 match r with
 | some v => e = .returned v ∧ Below w.heap.size w w'
 | none => Pan e ∧ Below w.heap.size w w'
set_option maxHeartbeats 1600000 in
theorem stm6 (a b : Int) (co : Option Addr) (cn cc : Nat) (code : List (Int × Int)) (o s t v : Int) (w : World) (hn : cn ≤ 9223372036854775807) (hs : ItemsOf w co cn code) :
  Calls Tryz.prog 129 #[.agg #[.int .i64 (6),.int .i64 a,.int .i64 b,.slice co cn cc],.agg #[.int .i64 o,.int .i64 s,.int .i64 t,.int .i64 v]] w (StmEnd w (nodeOf ⟨o,s,t,v⟩ ⟨(6),a,b,code⟩)) := by
 have HS : Hid (∀ w',Below w.heap.size w w' → ItemsOf w' co cn code) := fun w' h => hs.below h
 have EL : Hid (code.length = cn) := hs.1
 obtain ⟨fb,hfb⟩ : ∃ x,x = fieldsB (6) a b cn ⟨o,s,t,v⟩ := ⟨_,rfl⟩
 have D := hid (fun w => demandFields_any (6) a b co cn cc o s t v w)
 rw [← hfb] at D
 have R1 := hid (block_below (heap_alloc_new w (.cells #[.int .i64 (6),.int .i64 a,.int .i64 b,.slice co cn cc] 105)) (below1 _ (.cells #[.int .i64 o,.int .i64 s,.int .i64 t,.int .i64 v] 81)))
 have Q1 := hid (heap_alloc_new (w.alloc (.cells #[.int .i64 (6),.int .i64 a,.int .i64 b,.slice co cn cc] 105)) (.cells #[.int .i64 o,.int .i64 s,.int .i64 t,.int .i64 v] 81))
 simp only [World.size_alloc] at Q1
 clear hs
 cases fb with
 | false =>
  have E : Hid (nodeOf ⟨o,s,t,v⟩ ⟨(6),a,b,code⟩ = none) := hid (by simp [nodeOf,EL.out,← hfb])
  rw [E.out]
  unfold DemEnd at D
  simp only at D
  clear hfb E
  go_enter Tryz.func129,Tryz.ntmps129
  go_wp2_with (go_at_call 137; refine (D.out _).mono ?_; rintro e w1 ⟨⟨sx,rfl⟩,hb1⟩; have B1 := hid ((below2 _ _ _).trans (hb1.mono (by simp; omega))); clear hb1)
  exact ⟨rfl,⟨_,rfl⟩,B1.out⟩
 | true =>
  unfold DemEnd at D
  simp only at D
  have E : Hid (nodeOf ⟨o,s,t,v⟩ ⟨(6),a,b,code⟩ = some (.iface 247 (.agg #[]))) := hid (by simp [nodeOf,EL.out,← hfb])
  rw [E.out]
  clear hfb E
  go_enter Tryz.func129,Tryz.ntmps129
  go_wp2_with (go_at_call 137; refine (D.out _).mono ?_; rintro e w1 ⟨rfl,hb1⟩; have B1 := hid ((below2 _ _ _).trans (hb1.mono (by simp; omega))); have R2 := hid (block_below R1.out hb1); have Q2 := hid (block_below Q1.out hb1); obtain ⟨r0,r1,r2,r3⟩ := quad_cells R2.out; obtain ⟨q0,q1,q2,q3⟩ := quad_cells Q2.out; clear hb1)
  go_ret
  exact ⟨rfl,B1.out⟩
set_option maxHeartbeats 1600000 in
theorem stm7 (a b : Int) (co : Option Addr) (cn cc : Nat) (code : List (Int × Int)) (o s t v : Int) (w : World) (hn : cn ≤ 9223372036854775807) (hs : ItemsOf w co cn code) :
  Calls Tryz.prog 129 #[.agg #[.int .i64 (7),.int .i64 a,.int .i64 b,.slice co cn cc],.agg #[.int .i64 o,.int .i64 s,.int .i64 t,.int .i64 v]] w (StmEnd w (nodeOf ⟨o,s,t,v⟩ ⟨(7),a,b,code⟩)) := by
 have HS : Hid (∀ w',Below w.heap.size w w' → ItemsOf w' co cn code) := fun w' h => hs.below h
 have EL : Hid (code.length = cn) := hs.1
 obtain ⟨fb,hfb⟩ : ∃ x,x = fieldsB (7) a b cn ⟨o,s,t,v⟩ := ⟨_,rfl⟩
 have D := hid (fun w => demandFields_any (7) a b co cn cc o s t v w)
 rw [← hfb] at D
 have R1 := hid (block_below (heap_alloc_new w (.cells #[.int .i64 (7),.int .i64 a,.int .i64 b,.slice co cn cc] 105)) (below1 _ (.cells #[.int .i64 o,.int .i64 s,.int .i64 t,.int .i64 v] 81)))
 have Q1 := hid (heap_alloc_new (w.alloc (.cells #[.int .i64 (7),.int .i64 a,.int .i64 b,.slice co cn cc] 105)) (.cells #[.int .i64 o,.int .i64 s,.int .i64 t,.int .i64 v] 81))
 simp only [World.size_alloc] at Q1
 clear hs
 cases fb with
 | false =>
  have E : Hid (nodeOf ⟨o,s,t,v⟩ ⟨(7),a,b,code⟩ = none) := hid (by simp [nodeOf,EL.out,← hfb])
  rw [E.out]
  unfold DemEnd at D
  simp only at D
  clear hfb E
  go_enter Tryz.func129,Tryz.ntmps129
  go_wp2_with (go_at_call 137; refine (D.out _).mono ?_; rintro e w1 ⟨⟨sx,rfl⟩,hb1⟩; have B1 := hid ((below2 _ _ _).trans (hb1.mono (by simp; omega))); clear hb1)
  exact ⟨rfl,⟨_,rfl⟩,B1.out⟩
 | true =>
  unfold DemEnd at D
  simp only at D
  have E : Hid (nodeOf ⟨o,s,t,v⟩ ⟨(7),a,b,code⟩ = some (.iface 248 (.agg #[]))) := hid (by simp [nodeOf,EL.out,← hfb])
  rw [E.out]
  clear hfb E
  go_enter Tryz.func129,Tryz.ntmps129
  go_wp2_with (go_at_call 137; refine (D.out _).mono ?_; rintro e w1 ⟨rfl,hb1⟩; have B1 := hid ((below2 _ _ _).trans (hb1.mono (by simp; omega))); have R2 := hid (block_below R1.out hb1); have Q2 := hid (block_below Q1.out hb1); obtain ⟨r0,r1,r2,r3⟩ := quad_cells R2.out; obtain ⟨q0,q1,q2,q3⟩ := quad_cells Q2.out; clear hb1)
  go_ret
  exact ⟨rfl,B1.out⟩
set_option maxHeartbeats 1600000 in
theorem stm9 (a b : Int) (co : Option Addr) (cn cc : Nat) (code : List (Int × Int)) (o s t v : Int) (w : World) (hn : cn ≤ 9223372036854775807) (hs : ItemsOf w co cn code) :
  Calls Tryz.prog 129 #[.agg #[.int .i64 (9),.int .i64 a,.int .i64 b,.slice co cn cc],.agg #[.int .i64 o,.int .i64 s,.int .i64 t,.int .i64 v]] w (StmEnd w (nodeOf ⟨o,s,t,v⟩ ⟨(9),a,b,code⟩)) := by
 have HS : Hid (∀ w',Below w.heap.size w w' → ItemsOf w' co cn code) := fun w' h => hs.below h
 have EL : Hid (code.length = cn) := hs.1
 obtain ⟨fb,hfb⟩ : ∃ x,x = fieldsB (9) a b cn ⟨o,s,t,v⟩ := ⟨_,rfl⟩
 have D := hid (fun w => demandFields_any (9) a b co cn cc o s t v w)
 rw [← hfb] at D
 have R1 := hid (block_below (heap_alloc_new w (.cells #[.int .i64 (9),.int .i64 a,.int .i64 b,.slice co cn cc] 105)) (below1 _ (.cells #[.int .i64 o,.int .i64 s,.int .i64 t,.int .i64 v] 81)))
 have Q1 := hid (heap_alloc_new (w.alloc (.cells #[.int .i64 (9),.int .i64 a,.int .i64 b,.slice co cn cc] 105)) (.cells #[.int .i64 o,.int .i64 s,.int .i64 t,.int .i64 v] 81))
 simp only [World.size_alloc] at Q1
 clear hs
 cases fb with
 | false =>
  have E : Hid (nodeOf ⟨o,s,t,v⟩ ⟨(9),a,b,code⟩ = none) := hid (by simp [nodeOf,EL.out,← hfb])
  rw [E.out]
  unfold DemEnd at D
  simp only at D
  clear hfb E
  go_enter Tryz.func129,Tryz.ntmps129
  go_wp2_with (go_at_call 137; refine (D.out _).mono ?_; rintro e w1 ⟨⟨sx,rfl⟩,hb1⟩; have B1 := hid ((below2 _ _ _).trans (hb1.mono (by simp; omega))); clear hb1)
  exact ⟨rfl,⟨_,rfl⟩,B1.out⟩
 | true =>
  unfold DemEnd at D
  simp only at D
  have E : Hid (nodeOf ⟨o,s,t,v⟩ ⟨(9),a,b,code⟩ = some (.iface 250 (.agg #[.int .i64 a]))) := hid (by simp [nodeOf,EL.out,← hfb])
  rw [E.out]
  clear hfb E
  go_enter Tryz.func129,Tryz.ntmps129
  go_wp2_with (go_at_call 137; refine (D.out _).mono ?_; rintro e w1 ⟨rfl,hb1⟩; have B1 := hid ((below2 _ _ _).trans (hb1.mono (by simp; omega))); have R2 := hid (block_below R1.out hb1); have Q2 := hid (block_below Q1.out hb1); obtain ⟨r0,r1,r2,r3⟩ := quad_cells R2.out; obtain ⟨q0,q1,q2,q3⟩ := quad_cells Q2.out; clear hb1)
  go_ret
  exact ⟨rfl,B1.out⟩
set_option maxHeartbeats 1600000 in
theorem stm1 (a b : Int) (co : Option Addr) (cn cc : Nat) (code : List (Int × Int)) (o s t v : Int) (w : World) (hn : cn ≤ 9223372036854775807) (hs : ItemsOf w co cn code) :
  Calls Tryz.prog 129 #[.agg #[.int .i64 (1),.int .i64 a,.int .i64 b,.slice co cn cc],.agg #[.int .i64 o,.int .i64 s,.int .i64 t,.int .i64 v]] w (StmEnd w (nodeOf ⟨o,s,t,v⟩ ⟨(1),a,b,code⟩)) := by
 have HS : Hid (∀ w',Below w.heap.size w w' → ItemsOf w' co cn code) := fun w' h => hs.below h
 have EL : Hid (code.length = cn) := hs.1
 obtain ⟨fb,hfb⟩ : ∃ x,x = fieldsB (1) a b cn ⟨o,s,t,v⟩ := ⟨_,rfl⟩
 have D := hid (fun w => demandFields_any (1) a b co cn cc o s t v w)
 rw [← hfb] at D
 have R1 := hid (block_below (heap_alloc_new w (.cells #[.int .i64 (1),.int .i64 a,.int .i64 b,.slice co cn cc] 105)) (below1 _ (.cells #[.int .i64 o,.int .i64 s,.int .i64 t,.int .i64 v] 81)))
 have Q1 := hid (heap_alloc_new (w.alloc (.cells #[.int .i64 (1),.int .i64 a,.int .i64 b,.slice co cn cc] 105)) (.cells #[.int .i64 o,.int .i64 s,.int .i64 t,.int .i64 v] 81))
 simp only [World.size_alloc] at Q1
 clear hs
 cases fb with
 | false =>
  have E : Hid (nodeOf ⟨o,s,t,v⟩ ⟨(1),a,b,code⟩ = none) := hid (by simp [nodeOf,EL.out,← hfb])
  rw [E.out]
  unfold DemEnd at D
  simp only at D
  clear hfb E
  go_enter Tryz.func129,Tryz.ntmps129
  go_wp2_with (go_at_call 137; refine (D.out _).mono ?_; rintro e w1 ⟨⟨sx,rfl⟩,hb1⟩; have B1 := hid ((below2 _ _ _).trans (hb1.mono (by simp; omega))); clear hb1)
  exact ⟨rfl,⟨_,rfl⟩,B1.out⟩
 | true =>
  unfold DemEnd at D
  simp only at D
  have L : Hid (∀ w',Below w.heap.size w w' → Calls Tryz.prog 131 #[.slice co cn cc,.int .i64 v] w' (CodeEnd w' (liftT code v))) := fun w' h => liftCode_any co cn cc code v w' hn (HS.out w' h)
  cases hl : liftT code v with
  | none =>
   have E : Hid (nodeOf ⟨o,s,t,v⟩ ⟨(1),a,b,code⟩ = none) := hid (by simp [nodeOf,EL.out,← hfb,hl])
   rw [E.out]
   rw [hl] at L
   unfold CodeEnd at L
   simp only at L
   clear hfb E hl
   go_enter Tryz.func129,Tryz.ntmps129
   go_wp2_with (first | (go_at_call 137; refine (D.out _).mono ?_; rintro e w1 ⟨rfl,hb1⟩; have B1 := hid ((below2 _ _ _).trans (hb1.mono (by simp; omega))); have R2 := hid (block_below R1.out hb1); have Q2 := hid (block_below Q1.out hb1); obtain ⟨r0,r1,r2,r3⟩ := quad_cells R2.out; obtain ⟨q0,q1,q2,q3⟩ := quad_cells Q2.out; clear hb1) | (go_at_call 131; refine (L.out _ B1.out).mono ?_; rintro e w2 ⟨⟨sx,rfl⟩,hb2⟩; have B2 := hid (B1.out.trans (hb2.mono B1.out.size)); clear hb2))
   exact ⟨rfl,⟨_,rfl⟩,B2.out⟩
  | some tr =>
   obtain ⟨y,x,hy⟩ := tv_form tr
   have E : Hid (nodeOf ⟨o,s,t,v⟩ ⟨(1),a,b,code⟩ = some (.iface 252 (.agg #[.int .i64 a,.iface y x]))) := hid (by simp [nodeOf,EL.out,← hfb,hl,hy])
   rw [E.out]
   rw [hl] at L
   unfold CodeEnd at L
   simp only [hy] at L
   clear hfb E hl hy
   go_enter Tryz.func129,Tryz.ntmps129
   go_wp2_with (first | (go_at_call 137; refine (D.out _).mono ?_; rintro e w1 ⟨rfl,hb1⟩; have B1 := hid ((below2 _ _ _).trans (hb1.mono (by simp; omega))); have R2 := hid (block_below R1.out hb1); have Q2 := hid (block_below Q1.out hb1); obtain ⟨r0,r1,r2,r3⟩ := quad_cells R2.out; obtain ⟨q0,q1,q2,q3⟩ := quad_cells Q2.out; clear hb1) | (go_at_call 131; refine (L.out _ B1.out).mono ?_; rintro e w2 ⟨rfl,hb2⟩; have B2 := hid (B1.out.trans (hb2.mono B1.out.size)); obtain ⟨u0,u1,u2,u3⟩ := quad_cells (block_below R2.out hb2); clear hb2))
   go_ret
   exact ⟨rfl,B2.out⟩
set_option maxHeartbeats 1600000 in
theorem stm2 (a b : Int) (co : Option Addr) (cn cc : Nat) (code : List (Int × Int)) (o s t v : Int) (w : World) (hn : cn ≤ 9223372036854775807) (hs : ItemsOf w co cn code) :
  Calls Tryz.prog 129 #[.agg #[.int .i64 (2),.int .i64 a,.int .i64 b,.slice co cn cc],.agg #[.int .i64 o,.int .i64 s,.int .i64 t,.int .i64 v]] w (StmEnd w (nodeOf ⟨o,s,t,v⟩ ⟨(2),a,b,code⟩)) := by
 have HS : Hid (∀ w',Below w.heap.size w w' → ItemsOf w' co cn code) := fun w' h => hs.below h
 have EL : Hid (code.length = cn) := hs.1
 obtain ⟨fb,hfb⟩ : ∃ x,x = fieldsB (2) a b cn ⟨o,s,t,v⟩ := ⟨_,rfl⟩
 have D := hid (fun w => demandFields_any (2) a b co cn cc o s t v w)
 rw [← hfb] at D
 have R1 := hid (block_below (heap_alloc_new w (.cells #[.int .i64 (2),.int .i64 a,.int .i64 b,.slice co cn cc] 105)) (below1 _ (.cells #[.int .i64 o,.int .i64 s,.int .i64 t,.int .i64 v] 81)))
 have Q1 := hid (heap_alloc_new (w.alloc (.cells #[.int .i64 (2),.int .i64 a,.int .i64 b,.slice co cn cc] 105)) (.cells #[.int .i64 o,.int .i64 s,.int .i64 t,.int .i64 v] 81))
 simp only [World.size_alloc] at Q1
 clear hs
 cases fb with
 | false =>
  have E : Hid (nodeOf ⟨o,s,t,v⟩ ⟨(2),a,b,code⟩ = none) := hid (by simp [nodeOf,EL.out,← hfb])
  rw [E.out]
  unfold DemEnd at D
  simp only at D
  clear hfb E
  go_enter Tryz.func129,Tryz.ntmps129
  go_wp2_with (go_at_call 137; refine (D.out _).mono ?_; rintro e w1 ⟨⟨sx,rfl⟩,hb1⟩; have B1 := hid ((below2 _ _ _).trans (hb1.mono (by simp; omega))); clear hb1)
  exact ⟨rfl,⟨_,rfl⟩,B1.out⟩
 | true =>
  unfold DemEnd at D
  simp only at D
  have L : Hid (∀ w',Below w.heap.size w w' → Calls Tryz.prog 131 #[.slice co cn cc,.int .i64 v] w' (CodeEnd w' (liftT code v))) := fun w' h => liftCode_any co cn cc code v w' hn (HS.out w' h)
  cases hl : liftT code v with
  | none =>
   have E : Hid (nodeOf ⟨o,s,t,v⟩ ⟨(2),a,b,code⟩ = none) := hid (by simp [nodeOf,EL.out,← hfb,hl])
   rw [E.out]
   rw [hl] at L
   unfold CodeEnd at L
   simp only at L
   clear hfb E hl
   go_enter Tryz.func129,Tryz.ntmps129
   go_wp2_with (first | (go_at_call 137; refine (D.out _).mono ?_; rintro e w1 ⟨rfl,hb1⟩; have B1 := hid ((below2 _ _ _).trans (hb1.mono (by simp; omega))); have R2 := hid (block_below R1.out hb1); have Q2 := hid (block_below Q1.out hb1); obtain ⟨r0,r1,r2,r3⟩ := quad_cells R2.out; obtain ⟨q0,q1,q2,q3⟩ := quad_cells Q2.out; clear hb1) | (go_at_call 131; refine (L.out _ B1.out).mono ?_; rintro e w2 ⟨⟨sx,rfl⟩,hb2⟩; have B2 := hid (B1.out.trans (hb2.mono B1.out.size)); clear hb2))
   exact ⟨rfl,⟨_,rfl⟩,B2.out⟩
  | some tr =>
   obtain ⟨y,x,hy⟩ := tv_form tr
   have E : Hid (nodeOf ⟨o,s,t,v⟩ ⟨(2),a,b,code⟩ = some (.iface 254 (.agg #[.iface y x]))) := hid (by simp [nodeOf,EL.out,← hfb,hl,hy])
   rw [E.out]
   rw [hl] at L
   unfold CodeEnd at L
   simp only [hy] at L
   clear hfb E hl hy
   go_enter Tryz.func129,Tryz.ntmps129
   go_wp2_with (first | (go_at_call 137; refine (D.out _).mono ?_; rintro e w1 ⟨rfl,hb1⟩; have B1 := hid ((below2 _ _ _).trans (hb1.mono (by simp; omega))); have R2 := hid (block_below R1.out hb1); have Q2 := hid (block_below Q1.out hb1); obtain ⟨r0,r1,r2,r3⟩ := quad_cells R2.out; obtain ⟨q0,q1,q2,q3⟩ := quad_cells Q2.out; clear hb1) | (go_at_call 131; refine (L.out _ B1.out).mono ?_; rintro e w2 ⟨rfl,hb2⟩; have B2 := hid (B1.out.trans (hb2.mono B1.out.size)); obtain ⟨u0,u1,u2,u3⟩ := quad_cells (block_below R2.out hb2); clear hb2))
   go_ret
   exact ⟨rfl,B2.out⟩
set_option maxHeartbeats 1600000 in
theorem stm3 (a b : Int) (co : Option Addr) (cn cc : Nat) (code : List (Int × Int)) (o s t v : Int) (w : World) (hn : cn ≤ 9223372036854775807) (hs : ItemsOf w co cn code) :
  Calls Tryz.prog 129 #[.agg #[.int .i64 (3),.int .i64 a,.int .i64 b,.slice co cn cc],.agg #[.int .i64 o,.int .i64 s,.int .i64 t,.int .i64 v]] w (StmEnd w (nodeOf ⟨o,s,t,v⟩ ⟨(3),a,b,code⟩)) := by
 have HS : Hid (∀ w',Below w.heap.size w w' → ItemsOf w' co cn code) := fun w' h => hs.below h
 have EL : Hid (code.length = cn) := hs.1
 obtain ⟨fb,hfb⟩ : ∃ x,x = fieldsB (3) a b cn ⟨o,s,t,v⟩ := ⟨_,rfl⟩
 have D := hid (fun w => demandFields_any (3) a b co cn cc o s t v w)
 rw [← hfb] at D
 have R1 := hid (block_below (heap_alloc_new w (.cells #[.int .i64 (3),.int .i64 a,.int .i64 b,.slice co cn cc] 105)) (below1 _ (.cells #[.int .i64 o,.int .i64 s,.int .i64 t,.int .i64 v] 81)))
 have Q1 := hid (heap_alloc_new (w.alloc (.cells #[.int .i64 (3),.int .i64 a,.int .i64 b,.slice co cn cc] 105)) (.cells #[.int .i64 o,.int .i64 s,.int .i64 t,.int .i64 v] 81))
 simp only [World.size_alloc] at Q1
 clear hs
 cases fb with
 | false =>
  have E : Hid (nodeOf ⟨o,s,t,v⟩ ⟨(3),a,b,code⟩ = none) := hid (by simp [nodeOf,EL.out,← hfb])
  rw [E.out]
  unfold DemEnd at D
  simp only at D
  clear hfb E
  go_enter Tryz.func129,Tryz.ntmps129
  go_wp2_with (go_at_call 137; refine (D.out _).mono ?_; rintro e w1 ⟨⟨sx,rfl⟩,hb1⟩; have B1 := hid ((below2 _ _ _).trans (hb1.mono (by simp; omega))); clear hb1)
  exact ⟨rfl,⟨_,rfl⟩,B1.out⟩
 | true =>
  unfold DemEnd at D
  simp only at D
  have L : Hid (∀ w',Below w.heap.size w w' → Calls Tryz.prog 131 #[.slice co cn cc,.int .i64 v] w' (CodeEnd w' (liftT code v))) := fun w' h => liftCode_any co cn cc code v w' hn (HS.out w' h)
  cases hl : liftT code v with
  | none =>
   have E : Hid (nodeOf ⟨o,s,t,v⟩ ⟨(3),a,b,code⟩ = none) := hid (by simp [nodeOf,EL.out,← hfb,hl])
   rw [E.out]
   rw [hl] at L
   unfold CodeEnd at L
   simp only at L
   clear hfb E hl
   go_enter Tryz.func129,Tryz.ntmps129
   go_wp2_with (first | (go_at_call 137; refine (D.out _).mono ?_; rintro e w1 ⟨rfl,hb1⟩; have B1 := hid ((below2 _ _ _).trans (hb1.mono (by simp; omega))); have R2 := hid (block_below R1.out hb1); have Q2 := hid (block_below Q1.out hb1); obtain ⟨r0,r1,r2,r3⟩ := quad_cells R2.out; obtain ⟨q0,q1,q2,q3⟩ := quad_cells Q2.out; clear hb1) | (go_at_call 131; refine (L.out _ B1.out).mono ?_; rintro e w2 ⟨⟨sx,rfl⟩,hb2⟩; have B2 := hid (B1.out.trans (hb2.mono B1.out.size)); clear hb2))
   exact ⟨rfl,⟨_,rfl⟩,B2.out⟩
  | some tr =>
   obtain ⟨y,x,hy⟩ := tv_form tr
   have E : Hid (nodeOf ⟨o,s,t,v⟩ ⟨(3),a,b,code⟩ = some (.iface 256 (.agg #[.int .i64 a,.int .i64 b,.iface y x]))) := hid (by simp [nodeOf,EL.out,← hfb,hl,hy])
   rw [E.out]
   rw [hl] at L
   unfold CodeEnd at L
   simp only [hy] at L
   clear hfb E hl hy
   go_enter Tryz.func129,Tryz.ntmps129
   go_wp2_with (first | (go_at_call 137; refine (D.out _).mono ?_; rintro e w1 ⟨rfl,hb1⟩; have B1 := hid ((below2 _ _ _).trans (hb1.mono (by simp; omega))); have R2 := hid (block_below R1.out hb1); have Q2 := hid (block_below Q1.out hb1); obtain ⟨r0,r1,r2,r3⟩ := quad_cells R2.out; obtain ⟨q0,q1,q2,q3⟩ := quad_cells Q2.out; clear hb1) | (go_at_call 131; refine (L.out _ B1.out).mono ?_; rintro e w2 ⟨rfl,hb2⟩; have B2 := hid (B1.out.trans (hb2.mono B1.out.size)); obtain ⟨u0,u1,u2,u3⟩ := quad_cells (block_below R2.out hb2); clear hb2))
   go_ret
   exact ⟨rfl,B2.out⟩
set_option maxHeartbeats 1600000 in
theorem stm4 (a b : Int) (co : Option Addr) (cn cc : Nat) (code : List (Int × Int)) (o s t v : Int) (w : World) (hn : cn ≤ 9223372036854775807) (hs : ItemsOf w co cn code) :
  Calls Tryz.prog 129 #[.agg #[.int .i64 (4),.int .i64 a,.int .i64 b,.slice co cn cc],.agg #[.int .i64 o,.int .i64 s,.int .i64 t,.int .i64 v]] w (StmEnd w (nodeOf ⟨o,s,t,v⟩ ⟨(4),a,b,code⟩)) := by
 have HS : Hid (∀ w',Below w.heap.size w w' → ItemsOf w' co cn code) := fun w' h => hs.below h
 have EL : Hid (code.length = cn) := hs.1
 obtain ⟨fb,hfb⟩ : ∃ x,x = fieldsB (4) a b cn ⟨o,s,t,v⟩ := ⟨_,rfl⟩
 have D := hid (fun w => demandFields_any (4) a b co cn cc o s t v w)
 rw [← hfb] at D
 have R1 := hid (block_below (heap_alloc_new w (.cells #[.int .i64 (4),.int .i64 a,.int .i64 b,.slice co cn cc] 105)) (below1 _ (.cells #[.int .i64 o,.int .i64 s,.int .i64 t,.int .i64 v] 81)))
 have Q1 := hid (heap_alloc_new (w.alloc (.cells #[.int .i64 (4),.int .i64 a,.int .i64 b,.slice co cn cc] 105)) (.cells #[.int .i64 o,.int .i64 s,.int .i64 t,.int .i64 v] 81))
 simp only [World.size_alloc] at Q1
 clear hs
 cases fb with
 | false =>
  have E : Hid (nodeOf ⟨o,s,t,v⟩ ⟨(4),a,b,code⟩ = none) := hid (by simp [nodeOf,EL.out,← hfb])
  rw [E.out]
  unfold DemEnd at D
  simp only at D
  clear hfb E
  go_enter Tryz.func129,Tryz.ntmps129
  go_wp2_with (go_at_call 137; refine (D.out _).mono ?_; rintro e w1 ⟨⟨sx,rfl⟩,hb1⟩; have B1 := hid ((below2 _ _ _).trans (hb1.mono (by simp; omega))); clear hb1)
  exact ⟨rfl,⟨_,rfl⟩,B1.out⟩
 | true =>
  unfold DemEnd at D
  simp only at D
  have L : Hid (∀ w',Below w.heap.size w w' → Calls Tryz.prog 131 #[.slice co cn cc,.int .i64 v] w' (CodeEnd w' (liftT code v))) := fun w' h => liftCode_any co cn cc code v w' hn (HS.out w' h)
  cases hl : liftT code v with
  | none =>
   have E : Hid (nodeOf ⟨o,s,t,v⟩ ⟨(4),a,b,code⟩ = none) := hid (by simp [nodeOf,EL.out,← hfb,hl])
   rw [E.out]
   rw [hl] at L
   unfold CodeEnd at L
   simp only at L
   clear hfb E hl
   go_enter Tryz.func129,Tryz.ntmps129
   go_wp2_with (first | (go_at_call 137; refine (D.out _).mono ?_; rintro e w1 ⟨rfl,hb1⟩; have B1 := hid ((below2 _ _ _).trans (hb1.mono (by simp; omega))); have R2 := hid (block_below R1.out hb1); have Q2 := hid (block_below Q1.out hb1); obtain ⟨r0,r1,r2,r3⟩ := quad_cells R2.out; obtain ⟨q0,q1,q2,q3⟩ := quad_cells Q2.out; clear hb1) | (go_at_call 131; refine (L.out _ B1.out).mono ?_; rintro e w2 ⟨⟨sx,rfl⟩,hb2⟩; have B2 := hid (B1.out.trans (hb2.mono B1.out.size)); clear hb2))
   exact ⟨rfl,⟨_,rfl⟩,B2.out⟩
  | some tr =>
   obtain ⟨y,x,hy⟩ := tv_form tr
   have E : Hid (nodeOf ⟨o,s,t,v⟩ ⟨(4),a,b,code⟩ = some (.iface 257 (.agg #[.int .i64 a,.int .i64 b,.iface y x]))) := hid (by simp [nodeOf,EL.out,← hfb,hl,hy])
   rw [E.out]
   rw [hl] at L
   unfold CodeEnd at L
   simp only [hy] at L
   clear hfb E hl hy
   go_enter Tryz.func129,Tryz.ntmps129
   go_wp2_with (first | (go_at_call 137; refine (D.out _).mono ?_; rintro e w1 ⟨rfl,hb1⟩; have B1 := hid ((below2 _ _ _).trans (hb1.mono (by simp; omega))); have R2 := hid (block_below R1.out hb1); have Q2 := hid (block_below Q1.out hb1); obtain ⟨r0,r1,r2,r3⟩ := quad_cells R2.out; obtain ⟨q0,q1,q2,q3⟩ := quad_cells Q2.out; clear hb1) | (go_at_call 131; refine (L.out _ B1.out).mono ?_; rintro e w2 ⟨rfl,hb2⟩; have B2 := hid (B1.out.trans (hb2.mono B1.out.size)); obtain ⟨u0,u1,u2,u3⟩ := quad_cells (block_below R2.out hb2); clear hb2))
   go_ret
   exact ⟨rfl,B2.out⟩
set_option maxHeartbeats 1600000 in
theorem stm5 (a b : Int) (co : Option Addr) (cn cc : Nat) (code : List (Int × Int)) (o s t v : Int) (w : World) (hn : cn ≤ 9223372036854775807) (hs : ItemsOf w co cn code) :
  Calls Tryz.prog 129 #[.agg #[.int .i64 (5),.int .i64 a,.int .i64 b,.slice co cn cc],.agg #[.int .i64 o,.int .i64 s,.int .i64 t,.int .i64 v]] w (StmEnd w (nodeOf ⟨o,s,t,v⟩ ⟨(5),a,b,code⟩)) := by
 have HS : Hid (∀ w',Below w.heap.size w w' → ItemsOf w' co cn code) := fun w' h => hs.below h
 have EL : Hid (code.length = cn) := hs.1
 obtain ⟨fb,hfb⟩ : ∃ x,x = fieldsB (5) a b cn ⟨o,s,t,v⟩ := ⟨_,rfl⟩
 have D := hid (fun w => demandFields_any (5) a b co cn cc o s t v w)
 rw [← hfb] at D
 have R1 := hid (block_below (heap_alloc_new w (.cells #[.int .i64 (5),.int .i64 a,.int .i64 b,.slice co cn cc] 105)) (below1 _ (.cells #[.int .i64 o,.int .i64 s,.int .i64 t,.int .i64 v] 81)))
 have Q1 := hid (heap_alloc_new (w.alloc (.cells #[.int .i64 (5),.int .i64 a,.int .i64 b,.slice co cn cc] 105)) (.cells #[.int .i64 o,.int .i64 s,.int .i64 t,.int .i64 v] 81))
 simp only [World.size_alloc] at Q1
 clear hs
 cases fb with
 | false =>
  have E : Hid (nodeOf ⟨o,s,t,v⟩ ⟨(5),a,b,code⟩ = none) := hid (by simp [nodeOf,EL.out,← hfb])
  rw [E.out]
  unfold DemEnd at D
  simp only at D
  clear hfb E
  go_enter Tryz.func129,Tryz.ntmps129
  go_wp2_with (go_at_call 137; refine (D.out _).mono ?_; rintro e w1 ⟨⟨sx,rfl⟩,hb1⟩; have B1 := hid ((below2 _ _ _).trans (hb1.mono (by simp; omega))); clear hb1)
  exact ⟨rfl,⟨_,rfl⟩,B1.out⟩
 | true =>
  unfold DemEnd at D
  simp only at D
  have L : Hid (∀ w',Below w.heap.size w w' → Calls Tryz.prog 131 #[.slice co cn cc,.int .i64 v] w' (CodeEnd w' (liftT code v))) := fun w' h => liftCode_any co cn cc code v w' hn (HS.out w' h)
  cases hl : liftT code v with
  | none =>
   have E : Hid (nodeOf ⟨o,s,t,v⟩ ⟨(5),a,b,code⟩ = none) := hid (by simp [nodeOf,EL.out,← hfb,hl])
   rw [E.out]
   rw [hl] at L
   unfold CodeEnd at L
   simp only at L
   clear hfb E hl
   go_enter Tryz.func129,Tryz.ntmps129
   go_wp2_with (first | (go_at_call 137; refine (D.out _).mono ?_; rintro e w1 ⟨rfl,hb1⟩; have B1 := hid ((below2 _ _ _).trans (hb1.mono (by simp; omega))); have R2 := hid (block_below R1.out hb1); have Q2 := hid (block_below Q1.out hb1); obtain ⟨r0,r1,r2,r3⟩ := quad_cells R2.out; obtain ⟨q0,q1,q2,q3⟩ := quad_cells Q2.out; clear hb1) | (go_at_call 131; refine (L.out _ B1.out).mono ?_; rintro e w2 ⟨⟨sx,rfl⟩,hb2⟩; have B2 := hid (B1.out.trans (hb2.mono B1.out.size)); clear hb2))
   exact ⟨rfl,⟨_,rfl⟩,B2.out⟩
  | some tr =>
   obtain ⟨y,x,hy⟩ := tv_form tr
   have E : Hid (nodeOf ⟨o,s,t,v⟩ ⟨(5),a,b,code⟩ = some (.iface 259 (.agg #[.int .i64 b,.iface y x]))) := hid (by simp [nodeOf,EL.out,← hfb,hl,hy])
   rw [E.out]
   rw [hl] at L
   unfold CodeEnd at L
   simp only [hy] at L
   clear hfb E hl hy
   go_enter Tryz.func129,Tryz.ntmps129
   go_wp2_with (first | (go_at_call 137; refine (D.out _).mono ?_; rintro e w1 ⟨rfl,hb1⟩; have B1 := hid ((below2 _ _ _).trans (hb1.mono (by simp; omega))); have R2 := hid (block_below R1.out hb1); have Q2 := hid (block_below Q1.out hb1); obtain ⟨r0,r1,r2,r3⟩ := quad_cells R2.out; obtain ⟨q0,q1,q2,q3⟩ := quad_cells Q2.out; clear hb1) | (go_at_call 131; refine (L.out _ B1.out).mono ?_; rintro e w2 ⟨rfl,hb2⟩; have B2 := hid (B1.out.trans (hb2.mono B1.out.size)); obtain ⟨u0,u1,u2,u3⟩ := quad_cells (block_below R2.out hb2); clear hb2))
   go_ret
   exact ⟨rfl,B2.out⟩
set_option maxHeartbeats 1600000 in
theorem stm8 (a b : Int) (co : Option Addr) (cn cc : Nat) (code : List (Int × Int)) (o s t v : Int) (w : World) (hn : cn ≤ 9223372036854775807) (hs : ItemsOf w co cn code) :
  Calls Tryz.prog 129 #[.agg #[.int .i64 (8),.int .i64 a,.int .i64 b,.slice co cn cc],.agg #[.int .i64 o,.int .i64 s,.int .i64 t,.int .i64 v]] w (StmEnd w (nodeOf ⟨o,s,t,v⟩ ⟨(8),a,b,code⟩)) := by
 have HS : Hid (∀ w',Below w.heap.size w w' → ItemsOf w' co cn code) := fun w' h => hs.below h
 have EL : Hid (code.length = cn) := hs.1
 obtain ⟨fb,hfb⟩ : ∃ x,x = fieldsB (8) a b cn ⟨o,s,t,v⟩ := ⟨_,rfl⟩
 have D := hid (fun w => demandFields_any (8) a b co cn cc o s t v w)
 rw [← hfb] at D
 have R1 := hid (block_below (heap_alloc_new w (.cells #[.int .i64 (8),.int .i64 a,.int .i64 b,.slice co cn cc] 105)) (below1 _ (.cells #[.int .i64 o,.int .i64 s,.int .i64 t,.int .i64 v] 81)))
 have Q1 := hid (heap_alloc_new (w.alloc (.cells #[.int .i64 (8),.int .i64 a,.int .i64 b,.slice co cn cc] 105)) (.cells #[.int .i64 o,.int .i64 s,.int .i64 t,.int .i64 v] 81))
 simp only [World.size_alloc] at Q1
 clear hs
 cases fb with
 | false =>
  have E : Hid (nodeOf ⟨o,s,t,v⟩ ⟨(8),a,b,code⟩ = none) := hid (by simp [nodeOf,EL.out,← hfb])
  rw [E.out]
  unfold DemEnd at D
  simp only at D
  clear hfb E
  go_enter Tryz.func129,Tryz.ntmps129
  go_wp2_with (go_at_call 137; refine (D.out _).mono ?_; rintro e w1 ⟨⟨sx,rfl⟩,hb1⟩; have B1 := hid ((below2 _ _ _).trans (hb1.mono (by simp; omega))); clear hb1)
  exact ⟨rfl,⟨_,rfl⟩,B1.out⟩
 | true =>
  unfold DemEnd at D
  simp only at D
  have L : Hid (∀ w',Below w.heap.size w w' → Calls Tryz.prog 131 #[.slice co cn cc,.int .i64 v] w' (CodeEnd w' (liftT code v))) := fun w' h => liftCode_any co cn cc code v w' hn (HS.out w' h)
  cases hl : liftT code v with
  | none =>
   have E : Hid (nodeOf ⟨o,s,t,v⟩ ⟨(8),a,b,code⟩ = none) := hid (by simp [nodeOf,EL.out,← hfb,hl])
   rw [E.out]
   rw [hl] at L
   unfold CodeEnd at L
   simp only at L
   clear hfb E hl
   go_enter Tryz.func129,Tryz.ntmps129
   go_wp2_with (first | (go_at_call 137; refine (D.out _).mono ?_; rintro e w1 ⟨rfl,hb1⟩; have B1 := hid ((below2 _ _ _).trans (hb1.mono (by simp; omega))); have R2 := hid (block_below R1.out hb1); have Q2 := hid (block_below Q1.out hb1); obtain ⟨r0,r1,r2,r3⟩ := quad_cells R2.out; obtain ⟨q0,q1,q2,q3⟩ := quad_cells Q2.out; clear hb1) | (go_at_call 131; refine (L.out _ B1.out).mono ?_; rintro e w2 ⟨⟨sx,rfl⟩,hb2⟩; have B2 := hid (B1.out.trans (hb2.mono B1.out.size)); clear hb2))
   exact ⟨rfl,⟨_,rfl⟩,B2.out⟩
  | some tr =>
   obtain ⟨y,x,hy⟩ := tv_form tr
   have E : Hid (nodeOf ⟨o,s,t,v⟩ ⟨(8),a,b,code⟩ = some (.iface 261 (.agg #[.int .i64 a,.int .i64 b,.iface y x]))) := hid (by simp [nodeOf,EL.out,← hfb,hl,hy])
   rw [E.out]
   rw [hl] at L
   unfold CodeEnd at L
   simp only [hy] at L
   clear hfb E hl hy
   go_enter Tryz.func129,Tryz.ntmps129
   go_wp2_with (first | (go_at_call 137; refine (D.out _).mono ?_; rintro e w1 ⟨rfl,hb1⟩; have B1 := hid ((below2 _ _ _).trans (hb1.mono (by simp; omega))); have R2 := hid (block_below R1.out hb1); have Q2 := hid (block_below Q1.out hb1); obtain ⟨r0,r1,r2,r3⟩ := quad_cells R2.out; obtain ⟨q0,q1,q2,q3⟩ := quad_cells Q2.out; clear hb1) | (go_at_call 131; refine (L.out _ B1.out).mono ?_; rintro e w2 ⟨rfl,hb2⟩; have B2 := hid (B1.out.trans (hb2.mono B1.out.size)); obtain ⟨u0,u1,u2,u3⟩ := quad_cells (block_below R2.out hb2); clear hb2))
   go_ret
   exact ⟨rfl,B2.out⟩
set_option maxHeartbeats 1600000 in
theorem stmX (k a b : Int) (co : Option Addr) (cn cc : Nat) (code : List (Int × Int)) (o s t v : Int) (w : World) (hn : cn ≤ 9223372036854775807) (hs : ItemsOf w co cn code) (n1 : k ≠ 1) (n2 : k ≠ 2) (n3 : k ≠ 3) (n4 : k ≠ 4) (n5 : k ≠ 5) (n6 : k ≠ 6) (n7 : k ≠ 7) (n8 : k ≠ 8) (n9 : k ≠ 9) :
  Calls Tryz.prog 129 #[.agg #[.int .i64 k,.int .i64 a,.int .i64 b,.slice co cn cc],.agg #[.int .i64 o,.int .i64 s,.int .i64 t,.int .i64 v]] w (StmEnd w (nodeOf ⟨o,s,t,v⟩ ⟨k,a,b,code⟩)) := by
 have HS : Hid (∀ w',Below w.heap.size w w' → ItemsOf w' co cn code) := fun w' h => hs.below h
 have EL : Hid (code.length = cn) := hs.1
 obtain ⟨fb,hfb⟩ : ∃ x,x = fieldsB k a b cn ⟨o,s,t,v⟩ := ⟨_,rfl⟩
 have D := hid (fun w => demandFields_any k a b co cn cc o s t v w)
 rw [← hfb] at D
 have R1 := hid (block_below (heap_alloc_new w (.cells #[.int .i64 k,.int .i64 a,.int .i64 b,.slice co cn cc] 105)) (below1 _ (.cells #[.int .i64 o,.int .i64 s,.int .i64 t,.int .i64 v] 81)))
 have Q1 := hid (heap_alloc_new (w.alloc (.cells #[.int .i64 k,.int .i64 a,.int .i64 b,.slice co cn cc] 105)) (.cells #[.int .i64 o,.int .i64 s,.int .i64 t,.int .i64 v] 81))
 simp only [World.size_alloc] at Q1
 clear hs
 have e1 : (k == 1) = false := by simpa using n1
 have e2 : (k == 2) = false := by simpa using n2
 have e3 : (k == 3) = false := by simpa using n3
 have e4 : (k == 4) = false := by simpa using n4
 have e5 : (k == 5) = false := by simpa using n5
 have e6 : (k == 6) = false := by simpa using n6
 have e7 : (k == 7) = false := by simpa using n7
 have e8 : (k == 8) = false := by simpa using n8
 have e9 : (k == 9) = false := by simpa using n9
 cases fb with
 | false =>
  have E : Hid (nodeOf ⟨o,s,t,v⟩ ⟨k,a,b,code⟩ = none) := hid (by simp [nodeOf,EL.out,← hfb])
  rw [E.out]
  unfold DemEnd at D
  simp only at D
  clear hfb E
  clear n1 n2 n3 n4 n5 n6 n7 n8 n9
  go_enter Tryz.func129,Tryz.ntmps129
  go_wp2_with (go_at_call 137; refine (D.out _).mono ?_; rintro e w1 ⟨⟨sx,rfl⟩,hb1⟩; have B1 := hid ((below2 _ _ _).trans (hb1.mono (by simp; omega))); clear hb1)
  exact ⟨rfl,⟨_,rfl⟩,B1.out⟩
 | true =>
  unfold DemEnd at D
  simp only at D
  have L : Hid (∀ w',Below w.heap.size w w' → Calls Tryz.prog 131 #[.slice co cn cc,.int .i64 v] w' (CodeEnd w' (liftT code v))) := fun w' h => liftCode_any co cn cc code v w' hn (HS.out w' h)
  cases hl : liftT code v with
  | none =>
   have E : Hid (nodeOf ⟨o,s,t,v⟩ ⟨k,a,b,code⟩ = none) := hid (by simp [nodeOf,EL.out,← hfb,hl,n1,n2,n3,n4,n5,n6,n7,n8,n9])
   rw [E.out]
   rw [hl] at L
   unfold CodeEnd at L
   simp only at L
   clear hfb E hl
   clear n1 n2 n3 n4 n5 n6 n7 n8 n9
   go_enter Tryz.func129,Tryz.ntmps129
   go_wp2_with (first | (go_at_call 137; refine (D.out _).mono ?_; rintro e w1 ⟨rfl,hb1⟩; have B1 := hid ((below2 _ _ _).trans (hb1.mono (by simp; omega))); have R2 := hid (block_below R1.out hb1); have Q2 := hid (block_below Q1.out hb1); obtain ⟨r0,r1,r2,r3⟩ := quad_cells R2.out; obtain ⟨q0,q1,q2,q3⟩ := quad_cells Q2.out; clear hb1) | (go_at_call 131; refine (L.out _ B1.out).mono ?_; rintro e w2 ⟨⟨sx,rfl⟩,hb2⟩; have B2 := hid (B1.out.trans (hb2.mono B1.out.size)); clear hb2))
   exact ⟨rfl,⟨_,rfl⟩,B2.out⟩
  | some tr =>
   obtain ⟨y,x,hy⟩ := tv_form tr
   have E : Hid (nodeOf ⟨o,s,t,v⟩ ⟨k,a,b,code⟩ = none) := hid (by simp [nodeOf,EL.out,← hfb,hl,n1,n2,n3,n4,n5,n6,n7,n8,n9])
   rw [E.out]
   rw [hl] at L
   unfold CodeEnd at L
   simp only [hy] at L
   clear hfb E hl hy
   clear n1 n2 n3 n4 n5 n6 n7 n8 n9
   go_enter Tryz.func129,Tryz.ntmps129
   go_wp2_with (first | (go_at_call 137; refine (D.out _).mono ?_; rintro e w1 ⟨rfl,hb1⟩; have B1 := hid ((below2 _ _ _).trans (hb1.mono (by simp; omega))); have R2 := hid (block_below R1.out hb1); have Q2 := hid (block_below Q1.out hb1); obtain ⟨r0,r1,r2,r3⟩ := quad_cells R2.out; obtain ⟨q0,q1,q2,q3⟩ := quad_cells Q2.out; clear hb1) | (go_at_call 131; refine (L.out _ B1.out).mono ?_; rintro e w2 ⟨rfl,hb2⟩; have B2 := hid (B1.out.trans (hb2.mono B1.out.size)); obtain ⟨u0,u1,u2,u3⟩ := quad_cells (block_below R2.out hb2); clear hb2))
   exact ⟨rfl,⟨_,rfl⟩,B2.out⟩
theorem liftStm_any (k a b : Int) (co : Option Addr) (cn cc : Nat) (code : List (Int × Int)) (o s t v : Int) (w : World) (hn : cn ≤ 9223372036854775807) (hs : ItemsOf w co cn code) :
  Calls Tryz.prog 129 #[.agg #[.int .i64 k,.int .i64 a,.int .i64 b,.slice co cn cc],.agg #[.int .i64 o,.int .i64 s,.int .i64 t,.int .i64 v]] w (StmEnd w (nodeOf ⟨o,s,t,v⟩ ⟨k,a,b,code⟩)) := by
 by_cases n1 : k = 1
 ·subst n1; exact stm1 a b co cn cc code o s t v w hn hs
 by_cases n2 : k = 2
 ·subst n2; exact stm2 a b co cn cc code o s t v w hn hs
 by_cases n3 : k = 3
 ·subst n3; exact stm3 a b co cn cc code o s t v w hn hs
 by_cases n4 : k = 4
 ·subst n4; exact stm4 a b co cn cc code o s t v w hn hs
 by_cases n5 : k = 5
 ·subst n5; exact stm5 a b co cn cc code o s t v w hn hs
 by_cases n6 : k = 6
 ·subst n6; exact stm6 a b co cn cc code o s t v w hn hs
 by_cases n7 : k = 7
 ·subst n7; exact stm7 a b co cn cc code o s t v w hn hs
 by_cases n8 : k = 8
 ·subst n8; exact stm8 a b co cn cc code o s t v w hn hs
 by_cases n9 : k = 9
 ·subst n9; exact stm9 a b co cn cc code o s t v w hn hs
 exact stmX k a b co cn cc code o s t v w hn hs n1 n2 n3 n4 n5 n6 n7 n8 n9
end Go.Proofs.YtkdgkomnbjepdaaGreatDoor
namespace Go.Proofs.YtkdgkomnbjepdaaGreatDoor
open Go.RowKit Go.Sort
theorem nodeOf_form {l : LimD} {s : StmD} {v : Value} (h : nodeOf l s = some v) : ∃ y x,v = .iface y x := by
 unfold nodeOf at h
 split at h
 ·cases h
 split at h
 ·cases h; exact ⟨_,_,rfl⟩
 split at h
 ·cases h; exact ⟨_,_,rfl⟩
 split at h
 ·cases h; exact ⟨_,_,rfl⟩
 cases hl : liftT s.code l.v with
 | none => rw [hl] at h; cases h
 | some t =>
  rw [hl] at h
  simp only [Option.bind_some] at h
  repeat (split at h; (cases h; exact ⟨_,_,rfl⟩))
  cases h
def nodesR (l : LimD) : List StmD → Option (List Value)
 | [] => some []
 | s :: r => (nodeOf l s).bind fun v => (nodesR l r).map (v :: ·)
theorem nodesR_append (l : LimD) (a b : List StmD) : nodesR l (a ++ b) = (nodesR l a).bind fun x => (nodesR l b).map (x ++ ·) := by
 induction a with
 | nil => simp [nodesR]
 | cons s a ih =>
  simp only [List.cons_append,nodesR,ih]
  cases nodeOf l s with
  | none => rfl
  | some v =>
   simp only [Option.bind_some]
   cases nodesR l a with
   | none => rfl
   | some x =>
    simp only [Option.bind_some,Option.map_some]
    cases nodesR l b <;> rfl
def liftAll (l : LimD) (ss : List StmD) : Option (List Value) := if limP l ∧ ss.length ≤ 50 then nodesR l ss else none
def StmsEnd (w : World) (r : Option (List Value)) (e : Ending) (w' : World) : Prop :=
 match r with
 | some vs => (∃ val,e = .returned val ∧ w'.ownsRow (w.heap.size + 1) 231 1 val vs.length vs) ∧ Below w.heap.size w w'
 | none => Pan e ∧ Below w.heap.size w w'
theorem Tryz.info231 : (Tryz.prog.info? 231).map (fun i => (i.zero,i.size,i.bytes)) = some (some .nilIface,1,16) := by kernel_rfl
theorem splitS {ss : List StmD} {k : Nat} (h : k < ss.length) : ss = ss.take k ++ ss.getD k stm0 :: ss.drop (k + 1) := by
 have e : ss.getD k stm0 = ss[k] := by simp [List.getD_eq_getElem?_getD,List.getElem?_eq_getElem h]
 rw [e]
 simp
theorem takeS {ss : List StmD} {k : Nat} (h : k < ss.length) : ss.take (k + 1) = ss.take k ++ [ss.getD k stm0] := by
 have e : ss.getD k stm0 = ss[k] := by simp [List.getD_eq_getElem?_getD,List.getElem?_eq_getElem h]
 rw [e,List.take_succ_eq_append_getElem h]
set_option maxHeartbeats 2000000 in
theorem liftStms_any (ao : Option Addr) (n c : Nat) (ss : List StmD) (o s t v : Int) (w : World) (hn : n ≤ 9223372036854775807) (hs : StmsOf w ao n ss) :
  Calls Tryz.prog 107 #[.slice ao n c,.agg #[.int .i64 o,.int .i64 s,.int .i64 t,.int .i64 v]] w (StmsEnd w (liftAll ⟨o,s,t,v⟩ ss)) := by
 have HL := hid hs.1
 obtain ⟨lb,hlb⟩ : ∃ lb,lb = limB ⟨o,s,t,v⟩ := ⟨_,rfl⟩
 have CL : Hid (∀ w,Calls Tryz.prog 125 #[.agg #[.int .i64 o,.int .i64 s,.int .i64 t,.int .i64 v]] w fun e w' => e = .returned (.bool lb) ∧ Below w.heap.size w w') := fun w => by rw [hlb]; exact limitsOK_any o s t v w
 cases lb with
 | false =>
  have E : Hid (liftAll ⟨o,s,t,v⟩ ss = none) := hid (by unfold liftAll; rw [if_neg]; intro h; rw [show limB ⟨o,s,t,v⟩ = true from decide_eq_true h.1] at hlb; cases hlb)
  rw [E.out]
  clear hs hlb
  go_enter Tryz.func107,Tryz.ntmps107
  go_wp2_with (first | (go_at_call 125; refine (CL.out _).mono ?_; rintro e w1 ⟨rfl,hb⟩; have HB := hid hb; clear hb) | (go_at_call 128; refine (demand_no _ _).mono ?_; rintro e w2 ⟨rfl,hw⟩; obtain rfl := hw.symm))
  exact ⟨rfl,⟨_,rfl⟩,(below1 _ _).trans (HB.out.mono (by simp))⟩
 | true =>
  have hlim : limP ⟨o,s,t,v⟩ := by have := hlb.symm; unfold limB at this; exact of_decide_eq_true this
  clear hlb
  by_cases h50 : n ≤ 50
  ·have i50 : (n : Int) ≤ 50 := by omega
   have EA : Hid (liftAll ⟨o,s,t,v⟩ ss = nodesR ⟨o,s,t,v⟩ ss) := hid (by unfold liftAll; rw [if_pos ⟨hlim,by rw [HL.out]; exact h50⟩])
   obtain ⟨i0,hi,hz0,hz1,hz2⟩ := info_parts Tryz.info231
   go_enter Tryz.func107,Tryz.ntmps107
   go_wp2_with (first | (go_at_call 125; refine (CL.out _).mono ?_; rintro e w1 ⟨rfl,hb⟩; have HB0 := hid ((below1 _ _).trans (hb.mono (by simp))); have Q0 := hid (block_below (heap_alloc_new w _) hb); clear hb) | (go_at_call 128; refine (demand_yes _ _).mono ?_; rintro e w2 ⟨rfl,hw⟩; obtain rfl := hw.symm))
   go_loopw [5,17] (fun nv i wr => ∃ (k : Nat) (vs : List Value),k ≤ n ∧ i = .int .i64 k ∧ nodesR ⟨o,s,t,v⟩ (ss.take k) = some vs ∧ vs.length = k ∧ wr.ownsRow (w.heap.size + 1) 231 1 nv k vs ∧ wr.heap[w.heap.size]? = some (.cells #[.int .i64 o,.int .i64 s,.int .i64 t,.int .i64 v] 81 (0,0)) ∧ Below w.heap.size w wr) (fun _ i _ => n - (intOf i).toNat)
   case atStart => exact ⟨0,[],Nat.zero_le _,rfl,rfl,rfl,World.ownsRow_nil _ _ _ _,Q0.out,HB0.out⟩
   case round =>
    obtain ⟨k,vs,hk,rfl,hrun,hvl,ho,hq,hb⟩ := hrel
    have HB := hid hb
    have HQ := hid hq
    have HO := hid ho
    have HR := hid hrun
    have HVL := hid hvl
    have hszl := lt_of_block hq
    clear hq ho hrun hvl
    by_cases hlt : k < n
    ·obtain ⟨b,off,rfl,hbl,hc⟩ := hs.2 (by omega)
     obtain ⟨sd,es⟩ : ∃ sd,sd = ss.getD k stm0 := ⟨_,rfl⟩
     have hk4 := hc k hlt
     rw [← es] at hk4
     obtain ⟨x1,x2,x3,co,cn,cc,x4,hcn,hit⟩ := hk4
     have HI : Hid (∀ w',Below wr.heap.size wr w' → ItemsOf w' co cn sd.code) := hid (fun w' h => hit.below (hb.trans (h.mono hb.size)))
     obtain ⟨kd,a,bb,code⟩ := sd
     have k1 : wr.cell? ⟨b,off + k * 4,none⟩ = some (.int .i64 kd) := (hb.cell (p := ⟨b,off + k * 4,none⟩) hbl).trans x1
     have k2 : wr.cell? ⟨b,off + k * 4 + 1,none⟩ = some (.int .i64 a) := (hb.cell (p := ⟨b,off + k * 4 + 1,none⟩) hbl).trans x2
     have k3 : wr.cell? ⟨b,off + k * 4 + 2,none⟩ = some (.int .i64 bb) := (hb.cell (p := ⟨b,off + k * 4 + 2,none⟩) hbl).trans x3
     have k4 : wr.cell? ⟨b,off + k * 4 + 3,none⟩ = some (.slice co cn cc) := (hb.cell (p := ⟨b,off + k * 4 + 3,none⟩) hbl).trans x4
     have ES := hid es
     have Q1 := hid (block_below HQ.out (below1 wr (.cells #[.int .i64 kd,.int .i64 a,.int .i64 bb,.slice co cn cc] 105)))
     obtain ⟨q10,q11,q12,q13⟩ := quad_cells Q1.out
     have L := hid (liftStm_any kd a bb co cn cc code o s t v (wr.alloc (.cells #[.int .i64 kd,.int .i64 a,.int .i64 bb,.slice co cn cc] 105)) hcn (HI.out _ (below1 _ _)))
     obtain ⟨ao5,m5,cap5,hnv⟩ : ∃ ao5 m5 cap5,u5 = .slice ao5 m5 cap5 := by
      rcases HO.out.2 with ⟨h,_⟩ | ⟨g,cap,cur,h,_⟩
      ·exact ⟨_,_,_,h⟩
      ·exact ⟨_,_,_,h⟩
     subst hnv
     clear hc hs hb es x1 x2 x3 x4 hit
     cases hnode : nodeOf ⟨o,s,t,v⟩ ⟨kd,a,bb,code⟩ with
     | none =>
      have EN : Hid (liftAll ⟨o,s,t,v⟩ ss = none) := hid (by
       rw [EA.out,splitS (ss := ss) (k := k) (by rw [HL.out]; exact hlt),nodesR_append,HR.out,← ES.out]
       simp [nodesR,hnode])
      rw [hnode] at L
      unfold StmEnd at L
      simp only at L
      clear hnode
      go_wp2_with (go_at_call 129; refine L.out.mono ?_; rintro e w1 ⟨⟨sx,rfl⟩,hb1⟩; have B1 := hid hb1; clear hb1)
      refine ⟨rfl,?_⟩
      rw [EN.out]
      exact ⟨⟨_,rfl⟩,(HB.out.alloc (by omega) _).trans (B1.out.mono (by simp; omega))⟩
     | some nd =>
      obtain ⟨y,x,hy⟩ := nodeOf_form hnode
      have EN : Hid (nodesR ⟨o,s,t,v⟩ (ss.take (k + 1)) = some (vs ++ [.iface y x])) := hid (by
       rw [takeS (by rw [HL.out]; exact hlt),nodesR_append,HR.out,← ES.out]
       simp [nodesR,hnode,hy])
      rw [hnode] at L
      unfold StmEnd at L
      simp only [hy] at L
      clear hnode hy
      go_wp2_with (first | (go_at_call 129; refine L.out.mono ?_; rintro e w1 ⟨rfl,hb1⟩; have B1 := hid hb1; have O1 := hid (ownsRow_below (HO.out.alloc _) hb1); have Q2 := hid (block_below Q1.out hb1); clear hb1) | (at_builtin; refine wpList_append_own _ rfl (.tmp 21) (.tmp 25) 207 rfl (w.heap.size + 1) 231 i0 .nilIface 1 16 Tryz.underlying207 hi hz0 hz1 hz2 rfl (by decide) _ _ _ rfl (O1.out.alloc _) ⟨w1.heap.size,0,none⟩ 1 1 [.iface y x] rfl rfl ?c1 ?c2 ?c3 ?c4 ?c5 ?_))
      case c1 =>
       intro j u hj
       match j,hj with
       | 0,hj => simp at hj; subst hj; simp [Addr.add]
      case c2 => intro u hu; simp at hu; subst hu; rfl
      case c3 => unfold maxLen; omega
      case c4 => omega
      case c5 => have := B1.out.size; simp at this ⊢; omega
      ·intro v' w2 hown' hgrow _
       have O2 := hid hown'
       have G := hid hgrow
       clear hown' hgrow
       go_wp2
       go_roundw
       case rel =>
        have hrow : ∀ kk,(Value.slice ao5 m5 cap5).ownBlock = some kk → w.heap.size + 1 ≤ kk := fun kk e => (HO.out.lt kk e).1
        have s1 := B1.out.size
        simp at s1
        refine ⟨k + 1,_,by omega,by go_num,EN.out,by simp [HVL.out],O2.out,?_,?_⟩
        ·rw [grown_block G.out (by simp; omega) (fun e => by have := hrow _ e; omega),heap_alloc_old _ _ (by omega)]
         exact Q2.out
        ·exact ((((HB.out.alloc (by omega) _).trans (B1.out.mono (by simp; omega))).alloc (by omega) _).grown G.out (by simp; omega) (fun kk e => by have := hrow kk e; omega))
       case measure => simp [intOf]; omega
    ·have e : k = n := by omega
     subst e
     have ER : Hid (liftAll ⟨o,s,t,v⟩ ss = some vs) := hid (by rw [EA.out]; have := HR.out; rwa [List.take_of_length_le (by rw [HL.out]; exact Nat.le_refl _)] at this)
     clear hs hb
     go_wp2
     go_ret
     rw [ER.out]
     exact ⟨⟨_,rfl,by rw [HVL.out]; exact HO.out⟩,HB.out⟩
  ·have i50 : decide ((n : Int) ≤ 50) = false := by simp; omega
   have E : Hid (liftAll ⟨o,s,t,v⟩ ss = none) := hid (by unfold liftAll; rw [if_neg]; intro h; rw [HL.out] at h; exact h50 h.2)
   rw [E.out]
   clear hs
   go_enter Tryz.func107,Tryz.ntmps107
   go_wp2_with (first | (go_at_call 125; refine (CL.out _).mono ?_; rintro e w1 ⟨rfl,hb⟩; have HB := hid hb; clear hb) | (go_at_call_of 128 (Value.bool true); refine (demand_yes _ _).mono ?_; rintro e w2 ⟨rfl,hw⟩; obtain rfl := hw.symm) | (go_at_call_of 128 (Value.bool false); refine (demand_no _ _).mono ?_; rintro e w2 ⟨rfl,hw⟩; obtain rfl := hw.symm))
   exact ⟨rfl,⟨_,rfl⟩,(below1 _ _).trans (HB.out.mono (by simp))⟩
end Go.Proofs.YtkdgkomnbjepdaaGreatDoor
namespace Go.Proofs.YtkdgkomnbjepdaaGreatDoor
open Go.RowKit Go.Sort
theorem fieldA_most (k : Int) (l : LimD) : fieldA k l = mostA k l + 1 := by
 unfold fieldA mostA
 split
 ·omega
 split
 ·omega
 split <;> omega
theorem fieldB_most (k : Int) (l : LimD) : fieldB k l = mostB k l + 1 := by
 unfold fieldB mostB
 split
 ·omega
 split <;> omega
theorem fieldsB_eq (k a b : Int) (cn : Nat) (l : LimD) : fieldsB k a b cn l = (betB a 0 (mostA k l) && betB b 0 (mostB k l) && (if hasB k then true else decide (cn = 0))) := by
 unfold fieldsB
 rw [fieldA_most,fieldB_most]
 have h1 : decide (0 ≤ a ∧ a < mostA k l + 1) = betB a 0 (mostA k l) := by rw [Bool.eq_iff_iff]; simp [betB]; omega
 have h2 : decide (0 ≤ b ∧ b < mostB k l + 1) = betB b 0 (mostB k l) := by rw [Bool.eq_iff_iff]; simp [betB]; omega
 rw [h1,h2]
theorem nodeOf_stmB (l : LimD) (s : StmD) : (nodeOf l s).isSome = stmB l s := by
 unfold nodeOf stmB
 rw [fieldsB_eq,← okT_codeB s.code l.v]
 obtain ⟨k,a,b,code⟩ := s
 simp only
 cases hA : betB a 0 (mostA k l) with
 | false => simp
 | true =>
  cases hB : betB b 0 (mostB k l) with
  | false => simp
  | true =>
   simp only [Bool.true_and]
   by_cases h6 : k = 6
   ·subst h6
    by_cases hz : code.length = 0 <;> simp [hasB,betB,hz]
   by_cases h7 : k = 7
   ·subst h7
    by_cases hz : code.length = 0 <;> simp [hasB,betB,hz]
   by_cases h9 : k = 9
   ·subst h9
    by_cases hz : code.length = 0 <;> simp [hasB,betB,hz]
   have hh : hasB k = true := by simp [hasB,h6,h7,h9]
   simp only [hh,if_true,h6,h7,h9,if_false]
   cases liftT code l.v with
   | none => simp
   | some t =>
    by_cases h1 : k = 1
    ·subst h1; simp [betB]
    by_cases h2 : k = 2
    ·subst h2; simp [betB]
    by_cases h3 : k = 3
    ·subst h3; simp [betB]
    by_cases h4 : k = 4
    ·subst h4; simp [betB]
    by_cases h5 : k = 5
    ·subst h5; simp [betB]
    by_cases h8 : k = 8
    ·subst h8; simp [betB]
    have hk : betB k 1 9 = false := by simp [betB]; omega
    simp [h1,h2,h3,h4,h5,h8,hk]
theorem nodesR_some (l : LimD) : ∀ ss : List StmD,(nodesR l ss).isSome = true ↔ ∀ i,i < ss.length → stmB l (ss.getD i stm0) = true := by
 intro ss
 induction ss with
 | nil => simp [nodesR]
 | cons s r ih =>
  have e : (nodesR l (s :: r)).isSome = ((nodeOf l s).isSome && (nodesR l r).isSome) := by
   simp only [nodesR]
   cases nodeOf l s with
   | none => rfl
   | some v => cases nodesR l r <;> rfl
  rw [e,Bool.and_eq_true,ih,nodeOf_stmB]
  constructor
  ·rintro ⟨h1,h2⟩ i hi
   match i,hi with
   | 0,_ => simpa using h1
   | i + 1,hi => simpa using h2 i (by simpa using hi)
  ·intro h
   exact ⟨by simpa using h 0 (by simp),fun i hi => by simpa using h (i + 1) (by simpa using hi)⟩
theorem liftAll_stmsB (l : LimD) (ss : List StmD) : (liftAll l ss).isSome = stmsB l ss := by
 rw [Bool.eq_iff_iff]
 unfold liftAll stmsB
 rw [decide_eq_true_iff]
 by_cases h : limP l ∧ ss.length ≤ 50
 ·rw [if_pos h,nodesR_some]
  exact ⟨fun hh => ⟨h.1,h.2,hh⟩,fun hh => hh.2.2⟩
 ·rw [if_neg h]
  constructor
  ·intro hh; cases hh
  ·intro hh; exact absurd ⟨hh.1,hh.2.1⟩ h
theorem ents46 : ∀ (args : Array Value) (w : World),(callFunc 106 args).run Tryz.prog w = .ok (.enter 106 args) w := enter_of (f := 106) Tryz.func106 (by kernel_rfl) rfl
set_option maxHeartbeats 1000000 in
theorem implStmsOK_any (ao : Option Addr) (n c : Nat) (ss : List StmD) (o s t v : Int) (w : World) (hn : n ≤ 9223372036854775807) (hs : StmsOf w ao n ss) :
  Calls Tryz.prog 74 #[.slice ao n c,.agg #[.int .i64 o,.int .i64 s,.int .i64 t,.int .i64 v]] w fun e w' => e = .returned (.bool (stmsB ⟨o,s,t,v⟩ ss)) ∧ Below w.heap.size w w' := by
 have hmf : ∀ (fn : Fn) (first cap : Array Value) (w : World),(Instr.makeFunc fn first cap).run Tryz.prog w = .ok (.func fn first cap) w := fun _ _ _ _ => rfl
 rw [← liftAll_stmsB]
 obtain ⟨W,hW⟩ : ∃ W,W = ((w.alloc (.cells #[.slice ao n c] 69)).alloc (.cells #[.int .i64 o,.int .i64 s,.int .i64 t,.int .i64 v] 81)) := ⟨_,rfl⟩
 have hWs : W.heap.size = w.heap.size + 1 + 1 := by rw [hW]; simp
 have bW : Below w.heap.size w W := by rw [hW]; exact below2 _ _ _
 have c0 : W.heap[w.heap.size]? = some (.cells #[.slice ao n c] 69 (0,0)) := by rw [hW]; exact block_below (heap_alloc_new w _) (below1 _ _)
 have c1 : W.heap[w.heap.size + 1]? = some (.cells #[.int .i64 o,.int .i64 s,.int .i64 t,.int .i64 v] 81 (0,0)) := by rw [hW]; simpa using heap_alloc_new (w.alloc (.cells #[.slice ao n c] 69)) (.cells #[.int .i64 o,.int .i64 s,.int .i64 t,.int .i64 v] 81)
 have L : Calls Tryz.prog 106 #[.pointer (some ⟨w.heap.size,0,none⟩),.pointer (some ⟨w.heap.size + 1,0,none⟩)] (W.alloc (.cells #[.nilIface] 53)) fun e w' => (match liftAll ⟨o,s,t,v⟩ ss with | some _ => e = .returned (.tuple #[]) | none => Pan e) ∧ Below (W.heap.size + 1) (W.alloc (.cells #[.nilIface] 53)) w' := by
  have d0 := cell_of_one (block_below c0 (below1 W (.cells #[.nilIface] 53)))
  obtain ⟨d1,d2,d3,d4⟩ := quad_cells (block_below c1 (below1 W (.cells #[.nilIface] 53)))
  have H := hid (liftStms_any ao n c ss o s t v (W.alloc (.cells #[.nilIface] 53)) hn (hs.below (bW.trans ((below1 _ _).mono (by omega)))))
  have hz : (W.alloc (.cells #[.nilIface] 53)).heap.size = W.heap.size + 1 := by simp
  obtain ⟨V,hV⟩ : ∃ V,V = W.alloc (.cells #[.nilIface] 53) := ⟨_,rfl⟩
  rw [← hV] at d0 d1 d2 d3 d4 H hz ⊢
  clear hV c0 c1 bW hW hs
  cases hlt : liftAll ⟨o,s,t,v⟩ ss with
  | some t =>
   rw [hlt] at H
   unfold StmsEnd at H
   simp only at H ⊢
   rw [← hz]
   clear hlt hz hWs
   go_enter Tryz.func106,Tryz.ntmps106
   go_wp2_with (go_at_call 107; refine H.out.mono ?_; rintro e w1 ⟨⟨val,rfl,_⟩,hb⟩; have HB := hid hb; clear hb)
   go_end0
   exact ⟨rfl,HB.out⟩
  | none =>
   rw [hlt] at H
   unfold StmsEnd at H
   simp only at H ⊢
   rw [← hz]
   clear hlt hz hWs
   go_enter Tryz.func106,Tryz.ntmps106
   go_wp2_with (go_at_call 107; refine H.out.mono ?_; rintro e w1 ⟨⟨sx,rfl⟩,hb⟩; have HB := hid hb; clear hb)
   exact ⟨rfl,⟨_,rfl⟩,HB.out⟩
 cases hlt : liftAll ⟨o,s,t,v⟩ ss with
 | some tt =>
  rw [hlt] at L
  have A := hid (attempt_yes 106 _ W (fun _ => True) ents46 (L.mono fun e w' ⟨h1,h2⟩ => ⟨h1,trivial,h2⟩))
  have HW := hid hW
  have BW := hid bW
  have hq := nil_eq
  rw [hW] at A
  clear hlt L c0 c1 bW hs
  go_enter Tryz.func74,Tryz.ntmps74
  go_wp2_with (go_at_call 105; refine A.out.mono ?_; rintro e w1 ⟨rfl,w2,_,hb2,hw1⟩; have HB := hid hb2; have H1 := hid hw1; clear hb2 hw1)
  go_ret
  refine ⟨rfl,?_⟩
  rw [H1.out]
  have hb := HB.out
  rw [← HW.out] at hb ⊢
  exact (BW.out.trans ((below1 _ _).mono (by omega))).trans (hb.mono (by omega)) |>.setCell (by simp; omega) _
 | none =>
  rw [hlt] at L
  have A := hid (attempt_no 106 _ W ents46 L)
  have HW := hid hW
  have BW := hid bW
  have hq := err_eq
  rw [hW] at A
  clear hlt L c0 c1 bW hs
  go_enter Tryz.func74,Tryz.ntmps74
  go_wp2_with (go_at_call 105; refine A.out.mono ?_; rintro e w1 ⟨⟨sx,rfl⟩,hb2⟩; have HB := hid hb2; clear hb2)
  go_ret
  refine ⟨rfl,?_⟩
  have hb := HB.out
  rw [← HW.out] at hb
  exact BW.out.trans (hb.mono (by omega))
end Go.Proofs.YtkdgkomnbjepdaaGreatDoor
namespace Go.Proofs.YtkdgkomnbjepdaaGreatDoor
open Go.RowKit
open Go.RowKit Go.Sort
theorem Tryz.infoInt0 : (Tryz.prog.info? 3).map (fun i => (i.zero,i.size,i.bytes)) = some (some (.int .i64 0),1,8) := by kernel_rfl
abbrev bankP (ks vs : List Int) (k : Nat) : Prop := ∀ i,i < k → kOk (ks.getD i 0) = true ∧ conv (ks.getD i 0) (vs.getD i 0) = vs.getD i 0
def bankB (ks vs : List Int) : Bool := decide (ks.length = vs.length ∧ vs.length ≤ 32 ∧ bankP ks vs ks.length)
theorem Calls.regrown_same {P : Program} {f : FuncId} {args : Array Value} {w : World} {d : Nat} {os : Array Obj} {v : Value}
  (h : Calls P f args (grow (redrawn w d) os) fun e w' => e = .returned v ∧ w' = grow (redrawn w d) os) : Calls P f args (grow (redrawn w d) os) fun e w'' => e = .returned v ∧ ∃ p : Regrown,w'' = grow (redrawn w p.d) p.os :=
 h.mono fun _ _ ⟨he,hb⟩ => ⟨he,⟨d,os⟩,hb⟩
theorem enters_cfn (k : Int) (h1 : 1 ≤ k) (h7 : k ≤ 7) : ∀ (args : Array Value) (w : World),(callFunc (cfn k) args).run Tryz.prog w = .ok (.enter (cfn k) args) w := by
 have hk : k = 1 ∨ k = 2 ∨ k = 3 ∨ k = 4 ∨ k = 5 ∨ k = 6 ∨ k = 7 := by omega
 rcases hk with rfl | rfl | rfl | rfl | rfl | rfl | rfl
 ·exact enter_of (f := 118) Tryz.func118 (by kernel_rfl) rfl
 ·exact enter_of (f := 119) Tryz.func119 (by kernel_rfl) rfl
 ·exact enter_of (f := 120) Tryz.func120 (by kernel_rfl) rfl
 ·exact enter_of (f := 121) Tryz.func121 (by kernel_rfl) rfl
 ·exact enter_of (f := 122) Tryz.func122 (by kernel_rfl) rfl
 ·exact enter_of (f := 123) Tryz.func123 (by kernel_rfl) rfl
 ·exact enter_of (f := 124) Tryz.func124 (by kernel_rfl) rfl
theorem bank_step {ks vs : List Int} {k : Nat} {x y : Int} (hp : bankP ks vs k) (ex : x = ks.getD k 0) (ey : y = vs.getD k 0) (h1 : kOk x = true) (h2 : conv x y = y) : bankP ks vs (k + 1) := by
 intro i hi
 by_cases e : i = k
 ·subst e; rw [← ex,← ey]; exact ⟨h1,h2⟩
 ·exact hp i (by omega)
theorem bank_no {ks vs : List Int} {k n : Nat} (hl : ks.length = n) (hlt : k < n) (h : ¬ (kOk (ks.getD k 0) = true ∧ conv (ks.getD k 0) (vs.getD k 0) = vs.getD k 0)) : bankB ks vs = false := by
 unfold bankB
 rw [decide_eq_false_iff_not]
 exact fun hh => h (hh.2.2 k (by omega))
theorem bank_yes {ks vs : List Int} {n : Nat} (hl : ks.length = n) (hv : vs.length = n) (h32 : n ≤ 32) (h : bankP ks vs n) : bankB ks vs = true := by
 unfold bankB
 rw [decide_eq_true_iff]
 exact ⟨by omega,by omega,by rw [hl]; exact h⟩
set_option maxHeartbeats 1000000 in
theorem implBankOK_any (ao bo : Option Addr) (n m c d : Nat) (ks vs : List Int) (w : World) (hn : n ≤ 9223372036854775807) (hm : m ≤ 9223372036854775807) (hx : SliceOf w ao n ks) (hy : SliceOf w bo m vs) :
  Calls Tryz.prog 69 #[.agg #[.slice ao n c,.slice bo m d]] w fun e w' => e = .returned (.bool (bankB ks vs)) ∧ Below w.heap.size w w' := by
 by_cases hnm : n = m
 ·subst hnm
  by_cases h32 : n ≤ 32
  ·have HL : Hid (ks.length = n ∧ vs.length = n) := ⟨hx.1,hy.1⟩
   go_enter Tryz.func69,Tryz.ntmps69
   go_wp2
   go_loopw [21] (fun i wr => ∃ k : Nat,k ≤ n ∧ i = .int .i64 k ∧ bankP ks vs k ∧ wr.cell? ⟨w.heap.size,1,none⟩ = some (.slice bo n d) ∧ Below w.heap.size w wr ∧ w.heap.size < wr.heap.size) (fun i _ => n - (intOf i).toNat)
   case atStart => exact ⟨0,Nat.zero_le _,rfl,fun i h => absurd h (by omega),by simp,(Below.refl _ _).alloc (Nat.le_refl _) _,by simp⟩
   case round =>
    obtain ⟨k,hk,rfl,hp,hbox,hb,hsz⟩ := hrel
    have HP : Hid (bankP ks vs k) := hp
    clear hp
    by_cases hlt : k < n
    ·obtain ⟨b,off,rfl,hbl,hc⟩ := hx.2 (by omega)
     obtain ⟨b2,off2,rfl,hbl2,hc2⟩ := hy.2 (by omega)
     have h1 := hc k hlt
     have h2 := hc2 k hlt
     have hi : (k : Int) < (n : Int) := by omega
     obtain ⟨x,ex⟩ : ∃ x,x = ks.getD k 0 := ⟨_,rfl⟩
     obtain ⟨y,ey⟩ : ∃ y,y = vs.getD k 0 := ⟨_,rfl⟩
     rw [← ex] at h1
     rw [← ey] at h2
     have EX : Hid (x = ks.getD k 0) := ex
     have EY : Hid (y = vs.getD k 0) := ey
     have k1 : wr.cell? ⟨b,off + k,none⟩ = some (.int .i64 x) := (hb.cell (p := ⟨b,off + k,none⟩) hbl).trans h1
     have k2 : wr.cell? ⟨b2,off2 + k,none⟩ = some (.int .i64 y) := (hb.cell (p := ⟨b2,off2 + k,none⟩) hbl2).trans h2
     have q2 := cell_regrown k2
     have qb := cell_regrown hbox
     have HB : Hid (Below w.heap.size w wr) := hb
     clear ex ey hc hc2 hx hy h1 h2 hb
     by_cases hkk : 1 ≤ x ∧ x ≤ 7
     ·have ht : kOk x = true := by simp [kOk]; omega
      have c51 : ∀ d os,Calls Tryz.prog 98 #[.int .i64 x] (grow (redrawn wr d) os) fun e w'' => e = .returned (.bool true) ∧ ∃ p : Regrown,w'' = grow (redrawn wr p.d) p.os :=
       fun d os => Calls.regrown_same (by rw [← ht]; exact kindOK_any x _)
      have c52 : ∀ d os,Calls Tryz.prog 99 #[.int .i64 x] (grow (redrawn wr d) os) fun e w'' => e = .returned (.func (.func (cfn x)) #[] #[]) ∧ ∃ p : Regrown,w'' = grow (redrawn wr p.d) p.os :=
       fun d os => Calls.regrown_of (converterOf_any x _ hkk.1 hkk.2)
      have hent := enters_cfn x hkk.1 hkk.2
      have c60 : ∀ d os,Calls Tryz.prog (cfn x) #[.int .i64 y] (grow (redrawn wr d) os) fun e w'' => e = .returned (.int .i64 (conv x y)) ∧ ∃ p : Regrown,w'' = grow (redrawn wr p.d) p.os :=
       fun d os => Calls.regrown_same (to_any x y _ hkk.1 hkk.2)
      by_cases hcv : conv x y = y
      ·have hcb : (conv x y != y) = false := by simpa using hcv
       have HCV : Hid (conv x y = y) := hcv
       clear hcv
       go_wp2
       refine wp_region_quiet_below (by kernel_rfl) (by kernel_rfl) ?_
       repeat (any_goals (first | go_big_quiet_step (first | exact c51 _ _ | exact c52 _ _ | exact c60 _ _) | quiet_step (first | exact c51 _ _ | exact c52 _ _ | exact c60 _ _)))
       refine wpQuiet_nil ?_
       intro _ hw'
       obtain ⟨⟨dq,osq⟩,hw''⟩ := hw'
       subst hw''
       go_wp2
       go_roundw
       case rel => exact ⟨k + 1,by omega,by go_num,bank_step HP.out EX.out EY.out (by simp [kOk]; omega) HCV.out,qb dq osq,HB.out.trans ((below_regrown wr dq osq).mono (by omega)),Nat.lt_of_lt_of_le hsz (below_regrown wr dq osq).size⟩
       case measure => simp [intOf]; omega
      ·have hcb : (conv x y != y) = true := by simpa using hcv
       have HCV : Hid (¬ conv x y = y) := hcv
       clear hcv
       go_wp2
       refine wp_region_quiet_below (by kernel_rfl) (by kernel_rfl) ?_
       repeat (any_goals (first | go_big_quiet_step (first | exact c51 _ _ | exact c52 _ _ | exact c60 _ _) | quiet_step (first | exact c51 _ _ | exact c52 _ _ | exact c60 _ _)))
       refine wpQuiet_nil ?_
       intro _ hw'
       obtain ⟨⟨dq,osq⟩,hw''⟩ := hw'
       subst hw''
       go_wp2
       go_ret
       exact ⟨ret_bool (bank_no HL.out.1 hlt (by rw [← EX.out,← EY.out]; exact fun h => HCV.out h.2)).symm,HB.out.trans ((below_regrown wr dq osq).mono (by omega))⟩
     ·have ht : kOk x = false := by simp [kOk]; omega
      have c51 : ∀ d os,Calls Tryz.prog 98 #[.int .i64 x] (grow (redrawn wr d) os) fun e w'' => e = .returned (.bool false) ∧ ∃ p : Regrown,w'' = grow (redrawn wr p.d) p.os :=
       fun d os => Calls.regrown_same (by rw [← ht]; exact kindOK_any x _)
      go_wp2
      refine wp_region_quiet_below (by kernel_rfl) (by kernel_rfl) ?_
      repeat (any_goals (first | go_big_quiet_step (first | exact c51 _ _) | quiet_step (first | exact c51 _ _)))
      refine wpQuiet_nil ?_
      intro _ hw'
      obtain ⟨⟨dq,osq⟩,hw''⟩ := hw'
      subst hw''
      go_wp2
      go_ret
      exact ⟨ret_bool (bank_no HL.out.1 hlt (by rw [← EX.out,← EY.out]; intro h; have h2 := h.1; simp [kOk] at h2; omega)).symm,HB.out.trans ((below_regrown wr dq osq).mono (by omega))⟩
    ·have e : k = n := by omega
     subst e
     go_wp2
     go_ret
     exact ⟨ret_bool (bank_yes HL.out.1 HL.out.2 h32 HP.out).symm,hb⟩
  ·have HX : Hid (bankB ks vs = false) := by unfold bankB; simp; intro _ h; rw [hy.1] at h; omega
   have hgt : (32 : Int) < (n : Int) := by omega
   clear hx hy
   go_enter Tryz.func69,Tryz.ntmps69
   go_wp2
   go_ret
   exact ⟨ret_bool HX.out.symm,(Below.refl _ _).alloc (Nat.le_refl _) _⟩
 ·have HX : Hid (bankB ks vs = false) := by unfold bankB; simp; intro h; rw [hx.1,hy.1] at h; omega
  have h2 : ((n : Int) != (m : Int)) = true := by simp; omega
  clear hx hy
  go_enter Tryz.func69,Tryz.ntmps69
  go_wp2
  go_ret
  exact ⟨ret_bool HX.out.symm,(Below.refl _ _).alloc (Nat.le_refl _) _⟩
end Go.Proofs.YtkdgkomnbjepdaaGreatDoor
namespace Go.Proofs.YtkdgkomnbjepdaaGreatDoor
open Go.RowKit Go.Sort
structure ObD where
 prio : Int
 qcap : Int
 dcap : Int
 kinds : List Int
 vals : List Int
 subs : List Int
 sts : List StD
 trs : List TrD
def ob0 : ObD := ⟨0,0,0,[],[],[],[],[]⟩
structure ObS where
 ko : Option Addr
 kn : Nat
 kc : Nat
 vo : Option Addr
 vn : Nat
 vc : Nat
 uo : Option Addr
 un : Nat
 uc : Nat
 so : Option Addr
 sn : Nat
 sc : Nat
 to : Option Addr
 tn : Nat
 tc : Nat
structure ObOf (w : World) (h : ObS) (x : ObD) : Prop where
 hk : SliceOf w h.ko h.kn x.kinds
 hv : SliceOf w h.vo h.vn x.vals
 hu : SliceOf w h.uo h.un x.subs
 hs : StatesOf w h.so h.sn x.sts
 ht : TransOf w h.to h.tn x.trs
structure ObMax (h : ObS) : Prop where
 hk : h.kn ≤ 9223372036854775807
 hv : h.vn ≤ 9223372036854775807
 hu : h.un ≤ 9223372036854775807
 hs : h.sn ≤ 9223372036854775807
 ht : h.tn ≤ 9223372036854775807
 hc : h.un ≤ h.uc
theorem ObOf.below {w w' : World} {h : ObS} {x : ObD} (k : ObOf w h x) (hb : Below w.heap.size w w') : ObOf w' h x := ⟨k.hk.below hb,k.hv.below hb,k.hu.below hb,k.hs.below hb,k.ht.below hb⟩
structure ObCells (w : World) (b o : Nat) (p q d : Int) (h : ObS) : Prop where
 c0 : w.cell? ⟨b,o,none⟩ = some (.int .i64 p)
 c1 : w.cell? ⟨b,o + 1,none⟩ = some (.int .i64 q)
 c2 : w.cell? ⟨b,o + 2,none⟩ = some (.int .i64 d)
 c3 : w.cell? ⟨b,o + 3,none⟩ = some (.slice h.ko h.kn h.kc)
 c4 : w.cell? ⟨b,o + 4,none⟩ = some (.slice h.vo h.vn h.vc)
 c5 : w.cell? ⟨b,o + 5,none⟩ = some (.slice h.uo h.un h.uc)
 c6 : w.cell? ⟨b,o + 6,none⟩ = some (.slice h.so h.sn h.sc)
 c7 : w.cell? ⟨b,o + 7,none⟩ = some (.slice h.to h.tn h.tc)
theorem ObCells.below {w w' : World} {b o : Nat} {p q d : Int} {h : ObS} {B : Nat} (k : ObCells w b o p q d h) (hlt : b < B) (hb : Below B w w') : ObCells w' b o p q d h :=
 ⟨(hb.cell (p := ⟨b,o,none⟩) hlt).trans k.c0,(hb.cell (p := ⟨b,o + 1,none⟩) hlt).trans k.c1,(hb.cell (p := ⟨b,o + 2,none⟩) hlt).trans k.c2,(hb.cell (p := ⟨b,o + 3,none⟩) hlt).trans k.c3,(hb.cell (p := ⟨b,o + 4,none⟩) hlt).trans k.c4,(hb.cell (p := ⟨b,o + 5,none⟩) hlt).trans k.c5,(hb.cell (p := ⟨b,o + 6,none⟩) hlt).trans k.c6,(hb.cell (p := ⟨b,o + 7,none⟩) hlt).trans k.c7⟩
def ObAt (w : World) (b o : Nat) (x : ObD) : Prop := ∃ h,ObCells w b o x.prio x.qcap x.dcap h ∧ ObMax h ∧ ObOf w h x
def ObsOf (w : World) (ao : Option Addr) (n : Nat) (os : List ObD) : Prop :=
 os.length = n ∧ (0 < n → ∃ b off,ao = some ⟨b,off,none⟩ ∧ b < w.heap.size ∧ ∀ i,i < n → ObAt w b (off + i * 8) (os.getD i ob0))
theorem ObAt.below {w w' : World} {b o : Nat} {x : ObD} (h : ObAt w b o x) (hlt : b < w.heap.size) (hb : Below w.heap.size w w') : ObAt w' b o x := by
 obtain ⟨s,h1,h2,h3⟩ := h
 exact ⟨s,h1.below hlt hb,h2,h3.below hb⟩
theorem ObsOf.below {w w' : World} {ao : Option Addr} {n : Nat} {os : List ObD} (h : ObsOf w ao n os) (hb : Below w.heap.size w w') : ObsOf w' ao n os :=
 ⟨h.1,fun hn => by
  obtain ⟨b,off,e,hlt,hc⟩ := h.2 hn
  exact ⟨b,off,e,Nat.lt_of_lt_of_le hlt hb.size,fun i hi => (hc i hi).below hlt hb⟩⟩
theorem eight_cells {w : World} {H : Nat} {a b c d e f g h : Value} {t : TypeId} (k : w.heap[H]? = some (.cells #[a,b,c,d,e,f,g,h] t (0,0))) : w.cell? ⟨H,0,none⟩ = some a ∧ w.cell? ⟨H,1,none⟩ = some b ∧ w.cell? ⟨H,2,none⟩ = some c ∧ w.cell? ⟨H,3,none⟩ = some d ∧ w.cell? ⟨H,4,none⟩ = some e ∧ w.cell? ⟨H,5,none⟩ = some f ∧ w.cell? ⟨H,6,none⟩ = some g ∧ w.cell? ⟨H,7,none⟩ = some h := by
 simp [World.cell?,k]
def obV (p q d : Int) (h : ObS) : Value := .agg #[.int .i64 p,.int .i64 q,.int .i64 d,.slice h.ko h.kn h.kc,.slice h.vo h.vn h.vc,.slice h.uo h.un h.uc,.slice h.so h.sn h.sc,.slice h.to h.tn h.tc]
theorem three_cells {w : World} {H : Nat} {a b c : Value} {t : TypeId} (k : w.heap[H]? = some (.cells #[a,b,c] t (0,0))) : w.cell? ⟨H,0,none⟩ = some a ∧ w.cell? ⟨H,1,none⟩ = some b ∧ w.cell? ⟨H,2,none⟩ = some c := by
 simp [World.cell?,k]
end Go.Proofs.YtkdgkomnbjepdaaGreatDoor
