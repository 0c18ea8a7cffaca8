import Derived.Test.YtkdgkomnbjepdaaGreatDoorKa
import Derived.BigQuiet
import Derived.Deep.OwnRows
import Derived.Deep.QuietTactic
import Derived.Laws.EntriesVeiled
import Derived.Lib.QuietBelow
import Derived.WalkKit
import Derived.WalkLawsBesides
import Derived.WalkSpells
import Derived.Deep.Trees
import Derived.WalkSmall
namespace Go.Proofs.YtkdgkomnbjepdaaGreatDoor
open Go.RowKit
open Go.RowKit Go.Sort
def conv (k v : Int) : Int :=
 if k = 1 then (v + 128) % 256 - 128 else if k = 2 then (v + 32768) % 65536 - 32768 else if k = 3 then (v + 2147483648) % 4294967296 - 2147483648
 else if k = 4 then v else if k = 5 then v % 256 else if k = 6 then v % 65536 else if k = 7 then v % 4294967296 else 0
def cfn (k : Int) : Nat := 117 + k.toNat
theorem wrap_i8 (v : Int) : IntKind.i8.wrap v = (v + 128) % 256 - 128 := by
 simp [IntKind.wrap,IntKind.bits,IntKind.signed]; omega
theorem wrap_i16 (v : Int) : IntKind.i16.wrap v = (v + 32768) % 65536 - 32768 := by
 simp [IntKind.wrap,IntKind.bits,IntKind.signed]; omega
theorem wrap_u16 (v : Int) : IntKind.u16.wrap v = v % 65536 := by
 simp [IntKind.wrap,IntKind.bits,IntKind.signed]
set_option maxHeartbeats 400000 in
theorem to_any (k v : Int) (w : World) (h1 : 1 ≤ k) (h7 : k ≤ 7) : Calls Tryz.prog (cfn k) #[.int .i64 v] w fun e w' => e = .returned (.int .i64 (conv k v)) ∧ w' = w := by
 have hk : k = 1 ∨ k = 2 ∨ k = 3 ∨ k = 4 ∨ k = 5 ∨ k = 6 ∨ k = 7 := by omega
 rcases hk with rfl | rfl | rfl | rfl | rfl | rfl | rfl
 ·show Calls Tryz.prog 118 _ _ _
  go_enter Tryz.func118,Tryz.ntmps118
  go_wp2
  go_ret
  exact ⟨ret_int (by rw [wrap_i8]; simp only [wrap64,conv]; simp; omega),rfl⟩
 ·show Calls Tryz.prog 119 _ _ _
  go_enter Tryz.func119,Tryz.ntmps119
  go_wp2
  go_ret
  exact ⟨ret_int (by rw [wrap_i16]; simp only [wrap64,conv]; simp; omega),rfl⟩
 ·show Calls Tryz.prog 120 _ _ _
  go_enter Tryz.func120,Tryz.ntmps120
  go_wp2
  go_ret
  exact ⟨ret_int (by simp only [wrap32,wrap64,conv]; simp; omega),rfl⟩
 ·show Calls Tryz.prog 121 _ _ _
  go_enter Tryz.func121,Tryz.ntmps121
  go_wp2
  go_ret
  exact ⟨ret_int (by simp [conv]),rfl⟩
 ·show Calls Tryz.prog 122 _ _ _
  go_enter Tryz.func122,Tryz.ntmps122
  go_wp2
  go_ret
  exact ⟨ret_int (by simp [conv]),rfl⟩
 ·show Calls Tryz.prog 123 _ _ _
  go_enter Tryz.func123,Tryz.ntmps123
  go_wp2
  go_ret
  exact ⟨ret_int (by rw [wrap_u16]; simp only [wrap64,conv]; simp; omega),rfl⟩
 ·show Calls Tryz.prog 124 _ _ _
  go_enter Tryz.func124,Tryz.ntmps124
  go_wp2
  go_ret
  exact ⟨ret_int (by simp [conv]),rfl⟩
def kOk (k : Int) : Bool := decide (1 ≤ k ∧ k ≤ 7)
set_option maxHeartbeats 400000 in
theorem kindOK_any (k : Int) (w : World) : Calls Tryz.prog 98 #[.int .i64 k] w fun e w' => e = .returned (.bool (kOk k)) ∧ w' = w := by
 by_cases h1 : 1 ≤ k <;> by_cases h7 : k ≤ 7
 all_goals
  go_enter Tryz.func98,Tryz.ntmps98
  go_wp2
  go_ret
  exact ⟨ret_bool (by simp [kOk]; omega),rfl⟩
set_option maxHeartbeats 400000 in
theorem converterOf_any (k : Int) (w : World) (h1 : 1 ≤ k) (h7 : k ≤ 7) : Calls Tryz.prog 99 #[.int .i64 k] w fun e w' => e = .returned (.func (.func (cfn k)) #[] #[]) ∧ Below w.heap.size w w' := by
 have hk : k = 1 ∨ k = 2 ∨ k = 3 ∨ k = 4 ∨ k = 5 ∨ k = 6 ∨ k = 7 := by omega
 rcases hk with rfl | rfl | rfl | rfl | rfl | rfl | rfl
 all_goals
  go_enter Tryz.func99,Tryz.ntmps99
  go_wp2
  go_ret
  exact ⟨rfl,(Below.refl _ _).alloc (Nat.le_refl _) _⟩
set_option maxHeartbeats 400000 in
theorem l1Pow_any (n : Nat) (w : World) (hn : n ≤ 62) : Calls Tryz.prog 66 #[.int .i64 n] w fun e w' => e = .returned (.int .i64 ((2 : Int) ^ n)) ∧ w' = w := by
 go_enter Tryz.func66,Tryz.ntmps66
 go_wp2
 go_loop [3,4] (fun p i => ∃ k : Nat,k ≤ n ∧ i = .int .i64 k ∧ p = .int .i64 ((2 : Int) ^ k)) (fun _ i => n - (intOf i).toNat)
 case atStart => exact ⟨0,Nat.zero_le _,rfl,rfl⟩
 case round =>
  obtain ⟨k,hk,rfl,rfl⟩ := hrel
  by_cases hlt : k < n
  ·have hp : (2 : Int) ^ k ≤ 2 ^ 61 := by exact_mod_cast Nat.pow_le_pow_right (n := 2) (by omega) (show k ≤ 61 by omega)
   have hp0 : (0 : Int) < 2 ^ k := Int.pow_pos (by omega)
   have hs : Hid ((2 : Int) ^ (k + 1) = 2 ^ k * 2) := Int.pow_succ 2 k
   generalize hP : (2 : Int) ^ k = P at hp hp0 hs ⊢
   have HP : Hid ((2 : Int) ^ k = P) := hP
   clear hP
   simp at hp
   go_wp2
   go_round
   case rel => exact ⟨k + 1,by omega,by go_num,by rw [hs.out]⟩
   case measure => simp [intOf]; omega
  ·have e : k = n := by omega
   subst e
   go_wp2
   go_ret
   exact ⟨rfl,rfl⟩
theorem tmod_256 (v : Int) : v.tmod 256 = if 0 ≤ v then v % 256 else -((-v) % 256) := by
 split
 ·rw [Int.tmod_eq_emod_of_nonneg (by omega)]
 ·rw [show v = -(-v) by omega,Int.neg_tmod,Int.tmod_eq_emod_of_nonneg (by omega)]; omega
theorem tmod_65536 (v : Int) : v.tmod 65536 = if 0 ≤ v then v % 65536 else -((-v) % 65536) := by
 split
 ·rw [Int.tmod_eq_emod_of_nonneg (by omega)]
 ·rw [show v = -(-v) by omega,Int.neg_tmod,Int.tmod_eq_emod_of_nonneg (by omega)]; omega
theorem tmod_32 (v : Int) : v.tmod 4294967296 = if 0 ≤ v then v % 4294967296 else -((-v) % 4294967296) := by
 split
 ·rw [Int.tmod_eq_emod_of_nonneg (by omega)]
 ·rw [show v = -(-v) by omega,Int.neg_tmod,Int.tmod_eq_emod_of_nonneg (by omega)]; omega
set_option maxHeartbeats 800000 in
theorem l1Conv_any (k v : Int) (w : World) (h1 : 1 ≤ k) (h7 : k ≤ 7) : Calls Tryz.prog 33 #[.int .i64 k,.int .i64 v] w fun e w' => e = .returned (.int .i64 (conv k v)) ∧ Below w.heap.size w w' := by
 have hk : k = 1 ∨ k = 2 ∨ k = 3 ∨ k = 4 ∨ k = 5 ∨ k = 6 ∨ k = 7 := by omega
 rcases hk with rfl | rfl | rfl | rfl | rfl | rfl | rfl
 ·go_enter Tryz.func33,Tryz.ntmps33
  go_wp2_with (go_at_call 66; refine (l1Pow_any 8 _ (by omega)).mono ?_; rintro e w' ⟨rfl,rfl⟩)
  all_goals
   go_ret
   exact ⟨ret_int (by have e := tmod_256 v; generalize v.tmod 256 = r at *; (try simp only [wrap64] at *); simp [conv]; split at e <;> omega),(Below.refl _ _).alloc (Nat.le_refl _) _⟩
 ·go_enter Tryz.func33,Tryz.ntmps33
  go_wp2_with (go_at_call 66; refine (l1Pow_any 16 _ (by omega)).mono ?_; rintro e w' ⟨rfl,rfl⟩)
  all_goals
   go_ret
   exact ⟨ret_int (by have e := tmod_65536 v; generalize v.tmod 65536 = r at *; (try simp only [wrap64] at *); simp [conv]; split at e <;> omega),(Below.refl _ _).alloc (Nat.le_refl _) _⟩
 ·go_enter Tryz.func33,Tryz.ntmps33
  go_wp2_with (go_at_call 66; refine (l1Pow_any 32 _ (by omega)).mono ?_; rintro e w' ⟨rfl,rfl⟩)
  all_goals
   go_ret
   exact ⟨ret_int (by have e := tmod_32 v; generalize v.tmod 4294967296 = r at *; (try simp only [wrap64] at *); simp [conv]; split at e <;> omega),(Below.refl _ _).alloc (Nat.le_refl _) _⟩
 ·go_enter Tryz.func33,Tryz.ntmps33
  go_wp2_with fail
  go_ret
  exact ⟨ret_int (by simp [conv]),Below.refl _ _⟩
 ·go_enter Tryz.func33,Tryz.ntmps33
  go_wp2_with (go_at_call 66; refine (l1Pow_any 8 _ (by omega)).mono ?_; rintro e w' ⟨rfl,rfl⟩)
  all_goals
   go_ret
   exact ⟨ret_int (by have e := tmod_256 v; generalize v.tmod 256 = r at *; (try simp only [wrap64] at *); simp [conv]; split at e <;> omega),(Below.refl _ _).alloc (Nat.le_refl _) _⟩
 ·go_enter Tryz.func33,Tryz.ntmps33
  go_wp2_with (go_at_call 66; refine (l1Pow_any 16 _ (by omega)).mono ?_; rintro e w' ⟨rfl,rfl⟩)
  all_goals
   go_ret
   exact ⟨ret_int (by have e := tmod_65536 v; generalize v.tmod 65536 = r at *; (try simp only [wrap64] at *); simp [conv]; split at e <;> omega),(Below.refl _ _).alloc (Nat.le_refl _) _⟩
 ·go_enter Tryz.func33,Tryz.ntmps33
  go_wp2_with (go_at_call 66; refine (l1Pow_any 32 _ (by omega)).mono ?_; rintro e w' ⟨rfl,rfl⟩)
  all_goals
   go_ret
   exact ⟨ret_int (by have e := tmod_32 v; generalize v.tmod 4294967296 = r at *; (try simp only [wrap64] at *); simp [conv]; split at e <;> omega),(Below.refl _ _).alloc (Nat.le_refl _) _⟩
def arity (op : Int) : Nat := if op ≤ 3 then 0 else if op = 13 ∨ op = 19 then 1 else 2
theorem arity_le (op : Int) : arity op ≤ 2 := by unfold arity; split <;> (try split) <;> omega
def opAt (its : List (Int × Int)) (e : Nat) : Int := (its.getD e (0,0)).1
def beg (its : List (Int × Int)) : Nat → Nat → Int
 | 0,_ => -1
 | _ + 1,0 => -1
 | f + 1,e + 1 => match arity (opAt its e) with
  | 0 => e
  | 1 => beg its f e
  | _ => if beg its f e < 0 then -1 else beg its f (beg its f e).toNat
theorem beg_zero (its : List (Int × Int)) (f : Nat) : beg its f 0 = -1 := by cases f <;> rfl
theorem beg_bd (its : List (Int × Int)) : ∀ f e,e ≤ f → -1 ≤ beg its f e ∧ beg its f e < e := by
 intro f
 induction f with
 | zero => intro e h; rw [show e = 0 by omega,beg_zero]; omega
 | succ f ih =>
  intro e h
  match e with
  | 0 => rw [beg_zero]; omega
  | e + 1 =>
   simp only [beg]
   split
   ·omega
   ·have := ih e (by omega); omega
   ·have := ih e (by omega)
    split
    ·omega
    ·have h2 := ih (beg its f e).toNat (by omega); omega
theorem beg_fuel (its : List (Int × Int)) : ∀ f g e,e ≤ f → e ≤ g → beg its f e = beg its g e := by
 intro f
 induction f with
 | zero => intro g e h _; rw [show e = 0 by omega,beg_zero,beg_zero]
 | succ f ih =>
  intro g e h hg
  match e,g with
  | 0,_ => rw [beg_zero,beg_zero]
  | e + 1,g + 1 =>
   have h1 := ih g e (by omega) (by omega)
   have hb := beg_bd its f e (by omega)
   simp only [beg,← h1]
   split
   ·rfl
   ·rfl
   ·split
    ·rfl
    ·exact ih g _ (by omega) (by omega)
def bgn (its : List (Int × Int)) (e : Nat) : Int := beg its e e
theorem bgn_bd (its : List (Int × Int)) (e : Nat) : -1 ≤ bgn its e ∧ bgn its e < e := beg_bd its e e (Nat.le_refl _)
theorem bgn_zero (its : List (Int × Int)) : bgn its 0 = -1 := rfl
theorem bgn_ar0 (its : List (Int × Int)) (e : Nat) (h : arity (opAt its e) = 0) : bgn its (e + 1) = e := by simp only [bgn,beg,h]
theorem bgn_ar1 (its : List (Int × Int)) (e : Nat) (h : arity (opAt its e) = 1) : bgn its (e + 1) = bgn its e := by simp only [bgn,beg,h]
theorem bgn_ar2 (its : List (Int × Int)) (e : Nat) (h : arity (opAt its e) = 2) : bgn its (e + 1) = if bgn its e < 0 then -1 else bgn its (bgn its e).toNat := by
 have hb := bgn_bd its e
 unfold bgn at hb ⊢
 simp only [beg,h]
 by_cases hlt : beg its e e < 0
 ·simp only [hlt,if_true]
 ·simp only [hlt,if_false]
  exact beg_fuel its _ _ _ (by omega) (Nat.le_refl _)
def itemB (vars op val : Int) : Bool :=
 if op = 1 then decide (-999999999 ≤ val ∧ val ≤ 999999999) else if op = 2 then decide (0 ≤ val ∧ val ≤ vars - 1) else if op = 19 then decide (1 ≤ val ∧ val ≤ 7) else decide (1 ≤ op ∧ op ≤ 19 ∧ val = 0)
abbrev itemsP (its : List (Int × Int)) (vars : Int) (k : Nat) : Prop := ∀ i,i < k → itemB vars (its.getD i (0,0)).1 (its.getD i (0,0)).2 = true
def codeB (its : List (Int × Int)) (vars : Int) : Bool := decide ((0 ≤ vars ∧ vars ≤ 32) ∧ (1 ≤ its.length ∧ its.length ≤ 200) ∧ itemsP its vars its.length ∧ bgn its its.length = 0)
end Go.Proofs.YtkdgkomnbjepdaaGreatDoor
namespace Go.Proofs.YtkdgkomnbjepdaaGreatDoor
open Go.RowKit Go.Sort
set_option maxHeartbeats 400000 in
theorem demand_no (s : ByteArray) (w : World) : Calls Tryz.prog 128 #[.bool false,.string s] w fun e w' => e = .panicked [{ v := .iface 229 (.string s),recovered := false }] ∧ w' = w := by
 go_enter Tryz.func128,Tryz.ntmps128
 go_wp2
 exact ⟨rfl,rfl,rfl⟩
set_option maxHeartbeats 400000 in
theorem demand_yes (s : ByteArray) (w : World) : Calls Tryz.prog 128 #[.bool true,.string s] w fun e w' => e = .returned (.tuple #[]) ∧ w' = w := by
 go_enter Tryz.func128,Tryz.ntmps128
 go_wp2
 go_end0
 exact ⟨rfl,rfl⟩
abbrev Tree := Go.Deep.BT Int
abbrev Tree.num (n : Int) : Tree := .node 0 0 n .nil .nil
abbrev Tree.var (i : Int) : Tree := .node 1 0 i .nil .nil
abbrev Tree.arg : Tree := .node 2 0 0 .nil .nil
abbrev Tree.no (t : Tree) : Tree := .node 3 0 0 t .nil
abbrev Tree.conv (k : Int) (t : Tree) : Tree := .node 4 0 k t .nil
abbrev Tree.bin (op : Int) (l r : Tree) : Tree := .node 5 0 op l r
def binTy (op : Int) : Nat := if op ≤ 12 then 297 + op.toNat else 296 + op.toNat
def tv : Tree → Value
 | .nil => .iface 0 (.agg #[])
 | .node 0 _ n _ _ => .iface 276 (.agg #[.int .i64 n])
 | .node 1 _ i _ _ => .iface 278 (.agg #[.int .i64 i])
 | .node 2 _ _ _ _ => .iface 282 (.agg #[])
 | .node 3 _ _ t _ => .iface 284 (.agg #[tv t])
 | .node 4 _ k t _ => .iface 281 (.agg #[tv t,.func (.func (cfn k)) #[] #[]])
 | .node _ _ op l r => .iface (binTy op) (.agg #[tv l,tv r])
theorem tv_form (t : Tree) : ∃ y x,tv t = .iface y x := by unfold tv; split <;> exact ⟨_,_,rfl⟩
def Stk (w : World) (sb : Nat) (st : List Tree) : Prop := ∃ v,w.heap[sb]? = some (.cells #[v] 264 (0,0)) ∧ w.ownsRow (sb + 1) 234 1 v st.length (st.reverse.map tv)
theorem Stk.setOther {w : World} {sb : Nat} {v : Value} (h : w.heap[sb]? = some (.cells #[v] 264 (0,0))) {v' : Value} {st' : List Tree} (ho' : w.ownsRow (sb + 1) 234 1 v' st'.length (st'.reverse.map tv)) :
  Stk (w.setCell ⟨sb,0,none⟩ v') sb st' := by
 refine ⟨v',one_setCell h,ownsRow_setCell_other ho' ?_ _⟩
 intro e
 have := ho'.lt sb e
 omega
set_option maxHeartbeats 400000 in
theorem pop_no (sb : Nat) (w : World) (h : Stk w sb []) : Calls Tryz.prog 147 #[.pointer (some ⟨sb,0,none⟩)] w fun e w' => (∃ s,e = .panicked [{ v := .iface 229 (.string s),recovered := false }]) ∧ w' = w := by
 obtain ⟨v,hv,ho⟩ := h
 have hc := cell_of_one hv
 obtain ⟨ao,cap,rfl⟩ : ∃ ao cap,v = .slice ao 0 cap := by
  rcases ho.2 with ⟨h,_⟩ | ⟨g,cap,cur,h,_⟩
  ·exact ⟨none,0,h⟩
  ·exact ⟨_,_,h⟩
 clear ho hv
 go_enter Tryz.func147,Tryz.ntmps147
 go_wp2_with (go_at_call 128; refine (demand_no _ _).mono ?_; rintro e w' ⟨rfl,hw⟩; obtain rfl := hw.symm)
 exact ⟨rfl,⟨_,rfl⟩,rfl⟩
set_option maxHeartbeats 400000 in
theorem pop_yes (sb : Nat) (t : Tree) (st : List Tree) (w : World) (hl : st.length ≤ 1000) (h : Stk w sb (t :: st)) : Calls Tryz.prog 147 #[.pointer (some ⟨sb,0,none⟩)] w fun e w' => e = .returned (tv t) ∧ Stk w' sb st ∧ ∃ u,w' = w.setCell ⟨sb,0,none⟩ u := by
 obtain ⟨v,hv,ho⟩ := h
 have hc := cell_of_one hv
 have hf := free_of_one hv
 rw [List.reverse_cons,List.map_append,List.length_cons] at ho
 obtain ⟨g,cap,hcap,rfl⟩ : ∃ g cap,st.length + 1 ≤ cap ∧ v = .slice (some ⟨g,0,none⟩) (st.length + 1) cap := by
  rcases ho.2 with ⟨h,h0⟩ | ⟨g,cap,cur,h,_,_,h3,_⟩
  ·omega
  ·exact ⟨_,_,h3,h⟩
 have hp := ownsRow_pop (by simp) ho
 have hcell : w.cell? ⟨g,st.length,none⟩ = some (tv t) := by
  rw [ho.cellAt st.length (by omega)]; simp
 have R := hid (Stk.setOther hv hp)
 obtain ⟨y,x,hy⟩ := tv_form t
 rw [hy] at hcell ⊢
 obtain ⟨n,hn⟩ : ∃ n,n = st.length := ⟨_,rfl⟩
 rw [← hn] at hcell hc hl R hcap
 clear ho hp hv hy hn
 go_enter Tryz.func147,Tryz.ntmps147
 go_wp2_with (go_at_call 128; refine (demand_yes _ _).mono ?_; rintro e w' ⟨rfl,hw⟩; obtain rfl := hw.symm)
 go_ret
 exact ⟨rfl,R.out,_,rfl⟩
theorem Tryz.info234 : (Tryz.prog.info? 234).map (fun i => (i.zero,i.size,i.bytes)) = some (some .nilIface,1,16) := by kernel_rfl
set_option maxHeartbeats 400000 in
theorem push_any (sb : Nat) (t : Tree) (st : List Tree) (w : World) (hl : st.length ≤ 1000) (h : Stk w sb st) : Calls Tryz.prog 138 #[.pointer (some ⟨sb,0,none⟩),tv t] w fun e w' => e = .returned (.tuple #[]) ∧ Stk w' sb (t :: st) ∧ Below sb w w' := by
 obtain ⟨v,hv,ho⟩ := h
 have hc := cell_of_one hv
 have hlt := lt_of_block hv
 obtain ⟨y,x,hy⟩ := tv_form t
 rw [hy]
 obtain ⟨i0,hi,hz0,hz1,hz2⟩ := info_parts Tryz.info234
 obtain ⟨ao,cap,hvs⟩ : ∃ ao cap,v = .slice ao st.length cap := by
  rcases ho.2 with ⟨h,h0⟩ | ⟨g,cap,cur,h,_⟩
  ·exact ⟨none,0,by rw [h,h0]⟩
  ·exact ⟨_,_,h⟩
 have HO : Hid (w.ownsRow (sb + 1) 234 1 v st.length (st.reverse.map tv)) := ho
 have HV := hid hv
 subst hvs
 clear ho hv
 go_enter Tryz.func138,Tryz.ntmps138
 go_wp2_with (at_builtin; refine wpList_append_own _ rfl (.tmp 8) (.tmp 10) 262 rfl (sb + 1) 234 i0 .nilIface 1 16 Tryz.underlying262 hi hz0 hz1 hz2 rfl (by decide) _ _ _ rfl (HO.out.alloc _) ⟨w.heap.size,0,none⟩ 1 1 [.iface y x] rfl rfl ?c1 ?c2 ?c3 ?c4 ?c5 ?_)
 case c1 =>
  intro j u hj
  match j,hj with
  | 0,hj => simp at hj; subst hj; simp [Addr.add]
 case c2 => intro u hu; simp at hu; subst hu; rfl
 case c3 => unfold maxLen; omega
 case c4 => omega
 case c5 => simp; omega
 ·intro v' w1 hown' hgrow _
  obtain ⟨g',cap',hv'⟩ : ∃ g' cap',v' = .slice (some ⟨g',0,none⟩) (st.length + 1) cap' := by
   rcases hown'.2 with ⟨h,h0⟩ | ⟨g,cap,cur,h,_⟩
   ·omega
   ·exact ⟨_,_,h⟩
  have hrow : (Value.slice ao st.length cap).ownBlock ≠ some sb := fun e => by have := HO.out.lt sb e; omega
  have hb1 : w1.heap[sb]? = some (.cells #[.slice ao st.length cap] 264 (0,0)) := by
   rw [grown_block hgrow (by simp; omega) hrow,heap_alloc_old _ _ hlt]; exact HV.out
  have hc1 := cell_of_one hb1
  have hf1 := free_of_one hb1
  have R : Hid (Stk (w1.setCell ⟨sb,0,none⟩ v') sb (t :: st)) := Stk.setOther hb1 (st' := t :: st) (by rw [List.reverse_cons,List.map_append,List.length_cons]; simpa [hy] using hown')
  have B1 : Hid (Below sb w w1) := (((Below.refl _ _).alloc (Nat.le_of_lt hlt) _).grown hgrow (by simp; omega) (fun k hk => by have := HO.out.lt k hk; omega))
  subst hv'
  clear hown' hgrow hb1
  go_wp2
  go_end0
  exact ⟨rfl,R.out,B1.out.setCell (Nat.le_refl _) _⟩
end Go.Proofs.YtkdgkomnbjepdaaGreatDoor
namespace Go.Proofs.YtkdgkomnbjepdaaGreatDoor
attribute [local go_sem ↓] Go.wp_at_zero Go.wp_at_succ
open Go.RowKit Go.Sort
def Pan (e : Ending) : Prop := ∃ s,e = .panicked [{ v := .iface 229 (.string s),recovered := false }]
structure Away (sb : Nat) (w w' : World) : Prop where
 os : w'.os = w.os
 tape : w'.tape = w.tape
 output : w'.output = w.output
 size : w.heap.size ≤ w'.heap.size
 block : ∀ k,k < w.heap.size → k ≠ sb → w'.heap[k]? = w.heap[k]?
theorem Away.refl (sb : Nat) (w : World) : Away sb w w := ⟨rfl,rfl,rfl,Nat.le_refl _,fun _ _ _ => rfl⟩
theorem Away.trans {sb : Nat} {a b c : World} (h : Away sb a b) (k : Away sb b c) : Away sb a c :=
 ⟨k.os.trans h.os,k.tape.trans h.tape,k.output.trans h.output,Nat.le_trans h.size k.size,fun i hi hn => (k.block i (Nat.lt_of_lt_of_le hi h.size) hn).trans (h.block i hi hn)⟩
theorem Away.of_below {sb : Nat} {a b : World} (h : Below a.heap.size a b) : Away sb a b := ⟨h.os,h.tape,h.output,h.size,fun i hi _ => h.block i hi⟩
theorem Away.below {sb : Nat} {a b : World} (h : Away sb a b) (hs : sb ≤ a.heap.size) : Below sb a b := ⟨h.os,h.tape,h.output,h.size,fun i hi => h.block i (by omega) (by omega)⟩
theorem Away.set (sb : Nat) (w : World) (o : Nat) (u : Value) : Away sb w (w.setCell ⟨sb,o,none⟩ u) :=
 ⟨rfl,rfl,rfl,by simp,fun i _ hn => Below.heap_setCell _ _ _ _ hn⟩
theorem Stk.lt {w : World} {sb : Nat} {st : List Tree} (h : Stk w sb st) : sb < w.heap.size := by obtain ⟨v,hv,_⟩ := h; exact lt_of_block hv
theorem Stk.below {w w' : World} {sb : Nat} {st : List Tree} (h : Stk w sb st) (hb : Below w.heap.size w w') : Stk w' sb st := by
 obtain ⟨v,hv,ho⟩ := h
 refine ⟨v,(hb.block _ (lt_of_block hv)).trans hv,ho.1,?_⟩
 rcases ho.2 with h0 | ⟨g,cap,cur,h1,h2,h3,h4⟩
 ·exact .inl h0
 ·exact .inr ⟨g,cap,cur,h1,h2,(hb.block _ (lt_of_block h3)).trans h3,h4⟩
theorem Away.setNew {sb : Nat} {w w2 : World} (h : Away sb w w2) {H : Nat} (hH : w.heap.size ≤ H) (o : Nat) (u : Value) : Away sb w (w2.setCell ⟨H,o,none⟩ u) :=
 ⟨h.os,h.tape,h.output,by simpa using h.size,fun i hi hn => (Below.heap_setCell _ _ _ _ (by simp; omega)).trans (h.block i hi hn)⟩
theorem Stk.setAt {w : World} {sb : Nat} {st : List Tree} (h : Stk w sb st) {H : Nat} {cs : Array Value} {t : TypeId} {fr : Nat × Nat} (hb : w.heap[H]? = some (.cells cs t fr)) (ht : t ≠ 234) (hH : H ≠ sb) (o : Nat) (u : Value) : Stk (w.setCell ⟨H,o,none⟩ u) sb st := by
 obtain ⟨v,hv,ho⟩ := h
 refine ⟨v,(Below.heap_setCell _ _ _ _ (by simp; omega)).trans hv,ownsRow_setCell_other ho ?_ _⟩
 intro e
 rcases ho.2 with ⟨h0,_⟩ | ⟨g,cap,cur,h1,h2,h3,h4⟩
 ·rw [h0] at e; cases e
 ·rw [h1] at e
  simp [Value.ownBlock] at e
  subst e
  rw [hb] at h3
  simp at h3
  exact ht h3.2.1
abbrev binOk (op : Int) : Prop := 4 ≤ op ∧ op ≤ 18 ∧ op ≠ 13
set_option maxHeartbeats 4000000 in
theorem liftBinary_yes (op : Int) (l r : Tree) (w : World) (h : binOk op) : Calls Tryz.prog 148 #[.int .i64 op,.agg #[tv l,tv r]] w fun e w' => e = .returned (tv (.bin op l r)) ∧ Below w.heap.size w w' := by
 obtain ⟨ly,lx,hl⟩ := tv_form l
 obtain ⟨ry,rx,hr⟩ := tv_form r
 have hk : op = 4 ∨ op = 5 ∨ op = 6 ∨ op = 7 ∨ op = 8 ∨ op = 9 ∨ op = 10 ∨ op = 11 ∨ op = 12 ∨ op = 14 ∨ op = 15 ∨ op = 16 ∨ op = 17 ∨ op = 18 := by unfold binOk at h; omega
 rw [hl,hr]
 have e : tv (.bin op l r) = .iface (binTy op) (.agg #[.iface ly lx,.iface ry rx]) := by rw [← hl,← hr]; rfl
 rw [e]
 clear e hl hr
 rcases hk with rfl | rfl | rfl | rfl | rfl | rfl | rfl | rfl | rfl | rfl | rfl | rfl | rfl | rfl
 all_goals
  go_enter Tryz.func148,Tryz.ntmps148
  go_wp2
  go_ret
  exact ⟨rfl,below1 _ _⟩
set_option maxHeartbeats 1000000 in
theorem liftBinary_no (op : Int) (l r : Tree) (w : World) (h : ¬ binOk op) : Calls Tryz.prog 148 #[.int .i64 op,.agg #[tv l,tv r]] w fun e w' => Pan e ∧ Below w.heap.size w w' := by
 obtain ⟨ly,lx,hl⟩ := tv_form l
 obtain ⟨ry,rx,hr⟩ := tv_form r
 rw [hl,hr]
 clear hl hr
 unfold binOk at h
 have e4 : (op == 4) = false := by simp; omega
 have e5 : (op == 5) = false := by simp; omega
 have e6 : (op == 6) = false := by simp; omega
 have e7 : (op == 7) = false := by simp; omega
 have e8 : (op == 8) = false := by simp; omega
 have e9 : (op == 9) = false := by simp; omega
 have e10 : (op == 10) = false := by simp; omega
 have e11 : (op == 11) = false := by simp; omega
 have e12 : (op == 12) = false := by simp; omega
 have e14 : (op == 14) = false := by simp; omega
 have e15 : (op == 15) = false := by simp; omega
 have e16 : (op == 16) = false := by simp; omega
 have e17 : (op == 17) = false := by simp; omega
 have e18 : (op == 18) = false := by simp; omega
 clear h
 go_enter Tryz.func148,Tryz.ntmps148
 go_wp2
 exact ⟨rfl,⟨_,rfl⟩,below1 _ _⟩
theorem pop_away (sb : Nat) (t : Tree) (st : List Tree) (w : World) (hl : st.length ≤ 1000) (h : Stk w sb (t :: st)) : Calls Tryz.prog 147 #[.pointer (some ⟨sb,0,none⟩)] w fun e w' => e = .returned (tv t) ∧ Stk w' sb st ∧ Away sb w w' :=
 (pop_yes sb t st w hl h).mono fun e w' ⟨h1,h2,u,h3⟩ => ⟨h1,h2,by rw [h3]; exact Away.set _ _ _ _⟩
theorem pop_pan (sb : Nat) (w : World) (h : Stk w sb []) : Calls Tryz.prog 147 #[.pointer (some ⟨sb,0,none⟩)] w fun e w' => Pan e ∧ Away sb w w' :=
 (pop_no sb w h).mono fun e w' ⟨h1,h2⟩ => ⟨h1,by rw [h2]; exact Away.refl _ _⟩
theorem away_pair {sb : Nat} {w w' : World} {H : Nat} {a b : Value} {t : TypeId} (h : Away sb w w') (hH : w.heap[H]? = some (.cells #[a,b] t (0,0))) (hn : H ≠ sb) :
  w'.heap[H]? = some (.cells #[a,b] t (0,0)) := (h.block H (lt_of_block hH) hn).trans hH
theorem pair_cells {w : World} {H : Nat} {a b : Value} {t : TypeId} (h : w.heap[H]? = some (.cells #[a,b] t (0,0))) : w.cell? ⟨H,0,none⟩ = some a ∧ w.cell? ⟨H,1,none⟩ = some b ∧ w.frozen? ⟨H,0,none⟩ = false ∧ w.frozen? ⟨H,1,none⟩ = false := by
 simp [World.cell?,World.frozen?,h]
set_option maxHeartbeats 400000 in
theorem popBoth_yes (sb : Nat) (l r : Tree) (st : List Tree) (w : World) (hl : st.length ≤ 900) (h : Stk w sb (r :: l :: st)) : Calls Tryz.prog 149 #[.pointer (some ⟨sb,0,none⟩)] w fun e w' => e = .returned (.agg #[tv l,tv r]) ∧ Stk w' sb st ∧ Away sb w w' := by
 have hlt := h.lt
 have h1 := hid (h.below (below1 w (.cells #[.nilIface,.nilIface] 287)))
 have hb0 := hid (heap_alloc_new w (.cells #[.nilIface,.nilIface] 287))
 obtain ⟨ly,lx,hly⟩ := tv_form l
 obtain ⟨ry,rx,hry⟩ := tv_form r
 rw [hly,hry]
 have P1 := hid (pop_away sb r (l :: st))
 have P2 := hid (pop_away sb l st)
 rw [hry] at P1
 rw [hly] at P2
 clear h hly hry
 go_enter Tryz.func149,Tryz.ntmps149
 go_wp2_with (go_at_call 147; refine (P1.out _ (by simp; omega) h1.out).mono ?_; rintro e w1 ⟨rfl,hs1,ha1⟩; have H1 := hid hs1; have A1 := hid ha1; clear hs1 ha1)
 go_wp2_with (go_at_call 147; refine (P2.out _ (by omega) H1.out).mono ?_; rintro e w2 ⟨rfl,hs2,ha2⟩; have H2 := hid hs2; have A2 := hid (A1.out.trans ha2); clear hs2 ha2; obtain ⟨c0,c1,f0,f1⟩ := pair_cells (away_pair A2.out hb0.out (by omega)))
 have b2 := away_pair A2.out hb0.out (by omega)
 have s3 := Stk.setAt H2.out b2 (by decide) (by omega) 0 (Value.iface ly lx)
 have b3 : ∃ cs,(w2.setCell ⟨w.heap.size,0,none⟩ (Value.iface ly lx)).heap[w.heap.size]? = some (.cells cs 287 (0,0)) := ⟨_,heap_setCell_same _ _ _ _ _ _ b2⟩
 obtain ⟨cs,b3⟩ := b3
 have s4 := Stk.setAt s3 b3 (by decide) (by omega) 1 (Value.iface ry rx)
 have a2 : Away sb w w2 := (Away.of_below (below1 _ _)).trans A2.out
 exact bodyPost_ret (v := .agg #[.iface ly lx,.iface ry rx]) (by simp [results,Tryz.results149,go_sem,c0,c1]) rfl ⟨rfl,s4,(a2.setNew (Nat.le_refl _) _ _).setNew (Nat.le_refl _) _ _⟩
set_option maxHeartbeats 400000 in
theorem popBoth_no (sb : Nat) (st : List Tree) (w : World) (hl : st.length < 2) (h : Stk w sb st) : Calls Tryz.prog 149 #[.pointer (some ⟨sb,0,none⟩)] w fun e w' => Pan e ∧ Away sb w w' := by
 have hlt := h.lt
 have h1 := hid (h.below (below1 w (.cells #[.nilIface,.nilIface] 287)))
 clear h
 match st,hl with
 | [],_ =>
  go_enter Tryz.func149,Tryz.ntmps149
  go_wp2_with (go_at_call 147; refine (pop_pan sb _ h1.out).mono ?_; rintro e w1 ⟨⟨s,rfl⟩,ha1⟩; have A1 := hid ha1; clear ha1)
  exact ⟨rfl,⟨_,rfl⟩,(Away.of_below (below1 _ _)).trans A1.out⟩
 | [r],_ =>
  obtain ⟨ry,rx,hry⟩ := tv_form r
  have P1 := hid (pop_away sb r [])
  rw [hry] at P1
  clear hry
  go_enter Tryz.func149,Tryz.ntmps149
  go_wp2_with (go_at_call 147; refine (P1.out _ (by simp) h1.out).mono ?_; rintro e w1 ⟨rfl,hs1,ha1⟩; have H1 := hid hs1; have A1 := hid ha1; clear hs1 ha1)
  go_wp2_with (go_at_call 147; refine (pop_pan sb _ H1.out).mono ?_; rintro e w2 ⟨⟨s,rfl⟩,ha2⟩; have A2 := hid ha2; clear ha2)
  exact ⟨rfl,⟨_,rfl⟩,(Away.of_below (below1 _ _)).trans (A1.out.trans A2.out)⟩
end Go.Proofs.YtkdgkomnbjepdaaGreatDoor
namespace Go.Proofs.YtkdgkomnbjepdaaGreatDoor
attribute [local go_sem ↓] Go.wp_at_zero Go.wp_at_succ
open Go.RowKit Go.Sort
def stepT (vars op val : Int) (st : List Tree) : Option (Tree × List Tree) :=
 if op = 1 then (if -999999999 ≤ val ∧ val ≤ 999999999 then some (.num val,st) else none)
 else if op = 2 then (if 0 ≤ val ∧ val < vars then some (.var val,st) else none)
 else if op = 19 then (if 1 ≤ val ∧ val ≤ 7 then (match st with | t :: st' => some (.conv val t,st') | [] => none) else none)
 else if ¬ val = 0 then none
 else if op = 3 then some (.arg,st)
 else if op = 13 then (match st with | t :: st' => some (.no t,st') | [] => none)
 else (match st with | r :: l :: st' => if binOk op then some (.bin op l r,st') else none | _ => none)
def LiftEnd (sb : Nat) (w : World) (r : Option (Tree × List Tree)) (e : Ending) (w' : World) : Prop :=
 match r with
 | some (t,st') => e = .returned (tv t) ∧ Stk w' sb st' ∧ Below sb w w'
 | none => Pan e ∧ Below sb w w'
set_option maxHeartbeats 400000 in
theorem lift_num (sb : Nat) (vars val : Int) (st : List Tree) (w : World) (h : Stk w sb st) : Calls Tryz.prog 139 #[.pointer (some ⟨sb,0,none⟩),.agg #[.int .i64 1,.int .i64 val],.int .i64 vars] w (LiftEnd sb w (stepT vars 1 val st)) := by
 have hlt := h.lt
 have HS := hid (h.below (below1 w (.cells #[.int .i64 1,.int .i64 val] 107)))
 have HB := hid ((below1 w (.cells #[.int .i64 1,.int .i64 val] 107)).mono (Nat.le_of_lt hlt))
 clear h
 by_cases h1 : -999999999 ≤ val
 ·by_cases h2 : val ≤ 999999999
  ·have e : stepT vars 1 val st = some (.num val,st) := by simp [stepT,h1,h2]
   rw [e]
   clear e
   go_enter Tryz.func139,Tryz.ntmps139
   go_wp2_with (go_at_call 128; refine (demand_yes _ _).mono ?_; rintro e w' ⟨rfl,hw⟩; obtain rfl := hw.symm)
   go_ret
   exact ⟨rfl,HS.out,HB.out⟩
  ·have e : stepT vars 1 val st = none := by simp [stepT,h1,h2]
   rw [e]
   clear e
   go_enter Tryz.func139,Tryz.ntmps139
   go_wp2_with (go_at_call 128; refine (demand_no _ _).mono ?_; rintro e w' ⟨rfl,hw⟩; obtain rfl := hw.symm)
   exact ⟨rfl,⟨_,rfl⟩,HB.out⟩
 ·have e : stepT vars 1 val st = none := by simp [stepT,h1]
  rw [e]
  clear e
  go_enter Tryz.func139,Tryz.ntmps139
  go_wp2_with (go_at_call 128; refine (demand_no _ _).mono ?_; rintro e w' ⟨rfl,hw⟩; obtain rfl := hw.symm)
  exact ⟨rfl,⟨_,rfl⟩,HB.out⟩
set_option maxHeartbeats 400000 in
theorem lift_var (sb : Nat) (vars val : Int) (st : List Tree) (w : World) (h : Stk w sb st) : Calls Tryz.prog 139 #[.pointer (some ⟨sb,0,none⟩),.agg #[.int .i64 2,.int .i64 val],.int .i64 vars] w (LiftEnd sb w (stepT vars 2 val st)) := by
 have hlt := h.lt
 have HS := hid (h.below (below1 w (.cells #[.int .i64 2,.int .i64 val] 107)))
 have HB := hid ((below1 w (.cells #[.int .i64 2,.int .i64 val] 107)).mono (Nat.le_of_lt hlt))
 clear h
 have C := hid (within_any val vars)
 by_cases h1 : 0 ≤ val ∧ val < vars
 ·have e : stepT vars 2 val st = some (.var val,st) := by simp [stepT,h1]
  have hd : decide (0 ≤ val ∧ val < vars) = true := by simpa using h1
  rw [hd] at C
  rw [e]
  clear e hd h1
  go_enter Tryz.func139,Tryz.ntmps139
  go_wp2_with (first | (go_at_call 25; refine (C.out _).mono ?_; rintro e w' ⟨rfl,hw⟩; obtain rfl := hw.symm) | (go_at_call 128; refine (demand_yes _ _).mono ?_; rintro e w' ⟨rfl,hw⟩; obtain rfl := hw.symm))
  go_ret
  exact ⟨rfl,HS.out,HB.out⟩
 ·have e : stepT vars 2 val st = none := by simp [stepT,h1]
  have hd : decide (0 ≤ val ∧ val < vars) = false := by simpa using h1
  rw [hd] at C
  rw [e]
  clear e hd h1
  go_enter Tryz.func139,Tryz.ntmps139
  go_wp2_with (first | (go_at_call 25; refine (C.out _).mono ?_; rintro e w' ⟨rfl,hw⟩; obtain rfl := hw.symm) | (go_at_call 128; refine (demand_no _ _).mono ?_; rintro e w' ⟨rfl,hw⟩; obtain rfl := hw.symm))
  exact ⟨rfl,⟨_,rfl⟩,HB.out⟩
set_option maxHeartbeats 400000 in
theorem lift_arg (sb : Nat) (vars val : Int) (st : List Tree) (w : World) (h : Stk w sb st) : Calls Tryz.prog 139 #[.pointer (some ⟨sb,0,none⟩),.agg #[.int .i64 3,.int .i64 val],.int .i64 vars] w (LiftEnd sb w (stepT vars 3 val st)) := by
 have hlt := h.lt
 have HS := hid (h.below (below1 w (.cells #[.int .i64 3,.int .i64 val] 107)))
 have HB := hid ((below1 w (.cells #[.int .i64 3,.int .i64 val] 107)).mono (Nat.le_of_lt hlt))
 clear h
 by_cases h1 : val = 0
 ·subst h1
  have e : stepT vars 3 0 st = some (.arg,st) := by simp [stepT]
  rw [e]
  clear e
  go_enter Tryz.func139,Tryz.ntmps139
  go_wp2_with (go_at_call 128; refine (demand_yes _ _).mono ?_; rintro e w' ⟨rfl,hw⟩; obtain rfl := hw.symm)
  go_ret
  exact ⟨rfl,HS.out,HB.out⟩
 ·have e : stepT vars 3 val st = none := by simp [stepT,h1]
  have hd : (val == 0) = false := by simpa using h1
  rw [e]
  clear e h1
  go_enter Tryz.func139,Tryz.ntmps139
  go_wp2_with (go_at_call 128; refine (demand_no _ _).mono ?_; rintro e w' ⟨rfl,hw⟩; obtain rfl := hw.symm)
  exact ⟨rfl,⟨_,rfl⟩,HB.out⟩
set_option maxHeartbeats 400000 in
theorem lift_not (sb : Nat) (vars val : Int) (st : List Tree) (w : World) (hl : st.length ≤ 900) (h : Stk w sb st) : Calls Tryz.prog 139 #[.pointer (some ⟨sb,0,none⟩),.agg #[.int .i64 13,.int .i64 val],.int .i64 vars] w (LiftEnd sb w (stepT vars 13 val st)) := by
 have hlt := h.lt
 have HS := hid (h.below (below1 w (.cells #[.int .i64 13,.int .i64 val] 107)))
 have HB := hid ((below1 w (.cells #[.int .i64 13,.int .i64 val] 107)).mono (Nat.le_of_lt hlt))
 clear h
 by_cases h1 : val = 0
 ·subst h1
  match st,hl with
  | [],_ =>
   have e : stepT vars 13 0 [] = none := by simp [stepT]
   rw [e]
   clear e
   go_enter Tryz.func139,Tryz.ntmps139
   go_wp2_with (first | (go_at_call 128; refine (demand_yes _ _).mono ?_; rintro e w' ⟨rfl,hw⟩; obtain rfl := hw.symm) | (go_at_call 147; refine (pop_pan sb _ HS.out).mono ?_; rintro e w1 ⟨⟨s,rfl⟩,ha⟩; have A := hid ha; clear ha))
   exact ⟨rfl,⟨_,rfl⟩,HB.out.trans (A.out.below (by simp; omega))⟩
  | t :: st',hl =>
   have e : stepT vars 13 0 (t :: st') = some (.no t,st') := by simp [stepT]
   rw [e]
   clear e
   obtain ⟨y,x,hy⟩ := tv_form t
   have P1 := hid (pop_away sb t st')
   have e2 : tv (.no t) = .iface 284 (.agg #[.iface y x]) := by rw [← hy]; rfl
   rw [hy] at P1
   have E2 := hid e2
   clear hy e2
   go_enter Tryz.func139,Tryz.ntmps139
   go_wp2_with (first | (go_at_call 128; refine (demand_yes _ _).mono ?_; rintro e w' ⟨rfl,hw⟩; obtain rfl := hw.symm) | (go_at_call 147; refine (P1.out _ (by simp at hl; omega) HS.out).mono ?_; rintro e w1 ⟨rfl,hs,ha⟩; have S1 := hid hs; have A := hid ha; clear ha hs))
   go_ret
   exact ⟨by rw [E2.out]; rfl,S1.out,HB.out.trans (A.out.below (by simp; omega))⟩
 ·have e : stepT vars 13 val st = none := by simp [stepT,h1]
  have hd : (val == 0) = false := by simpa using h1
  rw [e]
  clear e h1
  go_enter Tryz.func139,Tryz.ntmps139
  go_wp2_with (go_at_call 128; refine (demand_no _ _).mono ?_; rintro e w' ⟨rfl,hw⟩; obtain rfl := hw.symm)
  exact ⟨rfl,⟨_,rfl⟩,HB.out⟩
end Go.Proofs.YtkdgkomnbjepdaaGreatDoor
namespace Go.Proofs.YtkdgkomnbjepdaaGreatDoor
attribute [local go_sem ↓] Go.wp_at_zero Go.wp_at_succ
open Go.RowKit Go.Sort
theorem Away.drew0 {sb : Nat} {a b : World} (h : Away sb a.drew b) : Away sb a b := ⟨h.os,h.tape,h.output,h.size,h.block⟩
theorem Stk.drew {w : World} {sb : Nat} {st : List Tree} (h : Stk w sb st) : Stk w.drew sb st := h.below (Below.refl _ _).drew
set_option maxHeartbeats 1000000 in
theorem lift_conv (sb : Nat) (vars val : Int) (st : List Tree) (w : World) (hl : st.length ≤ 900) (h : Stk w sb st) : Calls Tryz.prog 139 #[.pointer (some ⟨sb,0,none⟩),.agg #[.int .i64 19,.int .i64 val],.int .i64 vars] w (LiftEnd sb w (stepT vars 19 val st)) := by
 have hlt := h.lt
 have HS := hid (h.below (below1 w (.cells #[.int .i64 19,.int .i64 val] 107)))
 have HB := hid ((below1 w (.cells #[.int .i64 19,.int .i64 val] 107)).mono (Nat.le_of_lt hlt))
 have hb0 := hid (heap_alloc_new w (.cells #[.int .i64 19,.int .i64 val] 107))
 clear h
 have C := hid (kindOK_any val)
 by_cases h1 : 1 ≤ val ∧ val ≤ 7
 ·have hd : kOk val = true := by simp [kOk]; omega
  rw [hd] at C
  clear hd
  have CV := hid (fun w => converterOf_any val w h1.1 h1.2)
  match st,hl with
  | [],_ =>
   have e : stepT vars 19 val [] = none := by simp [stepT,h1]
   rw [e]
   clear e
   go_enter Tryz.func139,Tryz.ntmps139
   go_wp2_with (first | (go_at_call 98; refine (C.out _).mono ?_; rintro e w' ⟨rfl,hw⟩; obtain rfl := hw.symm) | (go_at_call 128; refine (demand_yes _ _).mono ?_; rintro e w' ⟨rfl,hw⟩; obtain rfl := hw.symm))
   refine wp_region_any (by kernel_rfl) ?_
   change wpAny _ _ _ _ _ _ _ (World.drew _)
   refine wpAny_take (i := 0) (v := _) rfl (by kernel_rfl) (by kernel_rfl) (by kernel_rfl) (fun _ _ _ h => h) (Or.inl ⟨by rfl,by intro w; go_simp; rfl⟩) ?_
   refine wpAny_take (i := 2) (v := _) rfl (by kernel_rfl) (by kernel_rfl) (by kernel_rfl) (fun _ _ _ h => h) (Or.inl ⟨by rfl,by intro w; go_simp; rfl⟩) ?_
   refine wpAny_ready (rs := [1,3]) (by kernel_rfl) (by simp) ?_
   refine AllReady.cons rfl (fun K hK => ?_) (AllReady.cons rfl (fun K hK => ?_) AllReady.nil)
   ·go_simp
    refine (pop_pan sb _ HS.out.drew).mono ?_
    rintro e w1 ⟨⟨s,rfl⟩,ha⟩
    exact ⟨rfl,⟨_,rfl⟩,HB.out.drew.trans (ha.below (by simp; omega))⟩
   ·go_simp
    refine hK _ _ ?_
    clear hK K
    refine wpAny_ready (rs := [1]) (by kernel_rfl) (by simp) ?_
    refine AllReady.cons rfl (fun K hK => ?_) AllReady.nil
    go_simp
    refine (pop_pan sb _ HS.out.drew).mono ?_
    rintro e w1 ⟨⟨s,rfl⟩,ha⟩
    exact ⟨rfl,⟨_,rfl⟩,HB.out.drew.trans (ha.below (by simp; omega))⟩
  | t :: st',hl =>
   have e : stepT vars 19 val (t :: st') = some (.conv val t,st') := by simp [stepT,h1]
   rw [e]
   clear e
   obtain ⟨y,x,hy⟩ := tv_form t
   have P1 := hid (pop_away sb t st')
   have e2 : tv (.conv val t) = .iface 281 (.agg #[.iface y x,.func (.func (cfn val)) #[] #[]]) := by rw [← hy]; rfl
   rw [hy] at P1
   have E2 := hid e2
   have hl' : st'.length ≤ 1000 := by simp at hl; omega
   clear hy e2
   go_enter Tryz.func139,Tryz.ntmps139
   go_wp2_with (first | (go_at_call 98; refine (C.out _).mono ?_; rintro e w' ⟨rfl,hw⟩; obtain rfl := hw.symm) | (go_at_call 128; refine (demand_yes _ _).mono ?_; rintro e w' ⟨rfl,hw⟩; obtain rfl := hw.symm))
   go_region_with (first | (go_at_call 147; refine (P1.out _ hl' (HS.out.drew.below CB.out)).mono ?_; rintro e w2 ⟨rfl,hs,ha⟩; have FS := hid hs; have FB := hid ((HB.out.drew.trans (CB.out.mono (by simp; omega))).trans (ha.below (by have := CB.out.size; simp at this; omega))); clear hs ha) | (go_at_call 147; refine (P1.out _ hl' HS.out.drew).mono ?_; rintro e w1 ⟨rfl,hs,ha⟩; have PS := hid hs; have PA := hid ha; have pc := (pair_cells (away_pair (ha.drew0) hb0.out (by omega))).2.1; clear hs ha) | (go_at_call 99; refine (CV.out _).mono ?_; rintro e w3 ⟨rfl,hb⟩; have FS := hid (PS.out.below hb); have FB := hid ((HB.out.drew.trans (PA.out.below (by simp; omega))).trans (hb.mono (by have := PA.out.size; simp at this; omega))); clear hb) | (go_at_call 99; refine (CV.out _).mono ?_; rintro e w1 ⟨rfl,hb⟩; have CB := hid hb; clear hb))
   all_goals
    go_wp2
    go_ret
    exact ⟨by rw [E2.out]; rfl,FS.out,FB.out⟩
 ·have e : stepT vars 19 val st = none := by simp [stepT,h1]
  have hd : kOk val = false := by simp [kOk]; omega
  rw [hd] at C
  rw [e]
  clear e h1 hd
  go_enter Tryz.func139,Tryz.ntmps139
  go_wp2_with (first | (go_at_call 98; refine (C.out _).mono ?_; rintro e w' ⟨rfl,hw⟩; obtain rfl := hw.symm) | (go_at_call 128; refine (demand_no _ _).mono ?_; rintro e w' ⟨rfl,hw⟩; obtain rfl := hw.symm))
  exact ⟨rfl,⟨_,rfl⟩,HB.out⟩
set_option maxHeartbeats 2000000 in
theorem lift_bin (sb : Nat) (vars op val : Int) (st : List Tree) (w : World) (hl : st.length ≤ 900) (h : Stk w sb st) (n1 : op ≠ 1) (n2 : op ≠ 2) (n3 : op ≠ 3) (n13 : op ≠ 13) (n19 : op ≠ 19) :
  Calls Tryz.prog 139 #[.pointer (some ⟨sb,0,none⟩),.agg #[.int .i64 op,.int .i64 val],.int .i64 vars] w (LiftEnd sb w (stepT vars op val st)) := by
 have hlt := h.lt
 have HS := hid (h.below (below1 w (.cells #[.int .i64 op,.int .i64 val] 107)))
 have HB := hid ((below1 w (.cells #[.int .i64 op,.int .i64 val] 107)).mono (Nat.le_of_lt hlt))
 have hb0 := hid (heap_alloc_new w (.cells #[.int .i64 op,.int .i64 val] 107))
 clear h
 have e1 : (op == 1) = false := by simpa using n1
 have e2 : (op == 2) = false := by simpa using n2
 have e3 : (op == 3) = false := by simpa using n3
 have e13 : (op == 13) = false := by simpa using n13
 have e19 : (op == 19) = false := by simpa using n19
 by_cases h1 : val = 0
 ·subst h1
  by_cases hst : st.length < 2
  ·have e : stepT vars op 0 st = none := by
    match st,hst with
    | [],_ => simp [stepT,n1,n2,n3,n13,n19]
    | [r],_ => simp [stepT,n1,n2,n3,n13,n19]
   rw [e]
   clear e n1 n2 n3 n13 n19
   go_enter Tryz.func139,Tryz.ntmps139
   go_wp2_with (go_at_call 128; refine (demand_yes _ _).mono ?_; rintro e w' ⟨rfl,hw⟩; obtain rfl := hw.symm)
   refine wp_region_any (by kernel_rfl) ?_
   change wpAny _ _ _ _ _ _ _ (World.drew _)
   refine wpAny_take (i := 0) (v := _) rfl (by kernel_rfl) (by kernel_rfl) (by kernel_rfl) (fun _ _ _ h => h) (Or.inl ⟨by rfl,by intro w; go_simp; rfl⟩) ?_
   refine wpAny_take (i := 2) (v := _) rfl (by kernel_rfl) (by kernel_rfl) (by kernel_rfl) (fun _ _ _ h => h) (Or.inl ⟨by rfl,by intro w; go_simp; rfl⟩) ?_
   refine wpAny_ready (rs := [1,3]) (by kernel_rfl) (by simp) ?_
   refine AllReady.cons rfl (fun K hK => ?_) (AllReady.cons rfl (fun K hK => ?_) AllReady.nil)
   ·go_simp
    refine hK _ _ ?_
    clear hK K
    refine wpAny_ready (rs := [3]) (by kernel_rfl) (by simp) ?_
    refine AllReady.cons rfl (fun K hK => ?_) AllReady.nil
    go_simp
    refine (popBoth_no sb st _ hst HS.out.drew).mono ?_
    rintro e w1 ⟨⟨s,rfl⟩,ha⟩
    exact ⟨rfl,⟨_,rfl⟩,HB.out.drew.trans (ha.below (by simp; omega))⟩
   ·go_simp
    refine (popBoth_no sb st _ hst HS.out.drew).mono ?_
    rintro e w1 ⟨⟨s,rfl⟩,ha⟩
    exact ⟨rfl,⟨_,rfl⟩,HB.out.drew.trans (ha.below (by simp; omega))⟩
  ·obtain ⟨r,l,st',rfl⟩ : ∃ r l st',st = r :: l :: st' := by
    match st,hst with
    | [],h => exact absurd (by simp) h
    | [r],h => exact absurd (by simp) h
    | r :: l :: st',_ => exact ⟨r,l,st',rfl⟩
   have hl' : st'.length ≤ 900 := by simp at hl; omega
   clear hl hst
   by_cases hop : binOk op
   ·have e : stepT vars op 0 (r :: l :: st') = some (.bin op l r,st') := by simp [stepT,n1,n2,n3,n13,n19,hop]
    rw [e]
    clear e n1 n2 n3 n13 n19
    obtain ⟨ly,lx,hly⟩ := tv_form l
    obtain ⟨ry,rx,hry⟩ := tv_form r
    obtain ⟨ty,tx,hty⟩ := tv_form (.bin op l r)
    have P1 := hid (popBoth_yes sb l r st')
    have P2 := hid (fun w => liftBinary_yes op l r w hop)
    rw [hly,hry] at P1 P2
    rw [hty] at P2
    have E := hid hty
    clear hly hry hty hop
    go_enter Tryz.func139,Tryz.ntmps139
    go_wp2_with (go_at_call 128; refine (demand_yes _ _).mono ?_; rintro e w' ⟨rfl,hw⟩; obtain rfl := hw.symm)
    go_region_with (first | (go_at_call 149; refine (P1.out _ hl' HS.out.drew).mono ?_; rintro e w1 ⟨rfl,hs,ha⟩; have PS := hid hs; have PA := hid ha; have pc := (pair_cells (away_pair (ha.drew0) hb0.out (by omega))).1; clear hs ha) | (go_at_call 148; refine (P2.out _).mono ?_; rintro e w3 ⟨rfl,hb⟩; have FS := hid (PS.out.below hb); have FB := hid ((HB.out.drew.trans (PA.out.below (by simp; omega))).trans (hb.mono (by have := PA.out.size; simp at this; omega))); clear hb))
    all_goals
     go_wp2
     go_ret
     exact ⟨by rw [E.out]; rfl,FS.out,FB.out⟩
   ·have e : stepT vars op 0 (r :: l :: st') = none := by simp [stepT,n1,n2,n3,n13,n19,hop]
    rw [e]
    clear e n1 n2 n3 n13 n19
    obtain ⟨ly,lx,hly⟩ := tv_form l
    obtain ⟨ry,rx,hry⟩ := tv_form r
    have P1 := hid (popBoth_yes sb l r st')
    have P2 := hid (fun w => liftBinary_no op l r w hop)
    rw [hly,hry] at P1 P2
    clear hly hry hop
    go_enter Tryz.func139,Tryz.ntmps139
    go_wp2_with (go_at_call 128; refine (demand_yes _ _).mono ?_; rintro e w' ⟨rfl,hw⟩; obtain rfl := hw.symm)
    refine wp_region_any (by kernel_rfl) ?_
    change wpAny _ _ _ _ _ _ _ (World.drew _)
    refine wpAny_take (i := 0) (v := _) rfl (by kernel_rfl) (by kernel_rfl) (by kernel_rfl) (fun _ _ _ h => h) (Or.inl ⟨by rfl,by intro w; go_simp; rfl⟩) ?_
    refine wpAny_take (i := 2) (v := _) rfl (by kernel_rfl) (by kernel_rfl) (by kernel_rfl) (fun _ _ _ h => h) (Or.inl ⟨by rfl,by intro w; go_simp; rfl⟩) ?_
    refine wpAny_ready (rs := [1,3]) (by kernel_rfl) (by simp) ?_
    refine AllReady.cons rfl (fun K hK => ?_) (AllReady.cons rfl (fun K hK => ?_) AllReady.nil)
    ·go_simp
     refine hK _ _ ?_
     clear hK K
     refine wpAny_ready (rs := [3]) (by kernel_rfl) (by simp) ?_
     refine AllReady.cons rfl (fun K hK => ?_) AllReady.nil
     go_simp
     refine (P1.out _ hl' HS.out.drew).mono ?_
     rintro e w1 ⟨rfl,hs,ha⟩
     refine hK _ _ ?_
     clear hK K
     refine wpAny_ready (rs := [4]) (by kernel_rfl) (by simp) ?_
     refine AllReady.cons rfl (fun K hK => ?_) AllReady.nil
     go_simp
     refine (P2.out _).mono ?_
     rintro e w2 ⟨⟨s,rfl⟩,hb⟩
     exact ⟨rfl,⟨_,rfl⟩,(HB.out.drew.trans (ha.below (by simp; omega))).trans (hb.mono (by have := ha.size; simp at this; omega))⟩
    ·go_simp
     refine (P1.out _ hl' HS.out.drew).mono ?_
     rintro e w1 ⟨rfl,hs,ha⟩
     have pc := (pair_cells (away_pair (ha.drew0) hb0.out (by omega))).1
     refine hK _ _ ?_
     clear hK K
     refine wpAny_ready (rs := [1]) (by kernel_rfl) (by simp) ?_
     refine AllReady.cons rfl (fun K hK => ?_) AllReady.nil
     go_simp
     refine hK _ _ ?_
     clear hK K
     refine wpAny_ready (rs := [4]) (by kernel_rfl) (by simp) ?_
     refine AllReady.cons rfl (fun K hK => ?_) AllReady.nil
     go_simp
     refine (P2.out _).mono ?_
     rintro e w2 ⟨⟨s,rfl⟩,hb⟩
     exact ⟨rfl,⟨_,rfl⟩,(HB.out.drew.trans (ha.below (by simp; omega))).trans (hb.mono (by have := ha.size; simp at this; omega))⟩
 ·have e : stepT vars op val st = none := by simp [stepT,n1,n2,n19,h1]
  have hd : (val == 0) = false := by simpa using h1
  rw [e]
  clear e h1 n1 n2 n3 n13 n19
  go_enter Tryz.func139,Tryz.ntmps139
  go_wp2_with (go_at_call 128; refine (demand_no _ _).mono ?_; rintro e w' ⟨rfl,hw⟩; obtain rfl := hw.symm)
  exact ⟨rfl,⟨_,rfl⟩,HB.out⟩
theorem lift_any (sb : Nat) (vars op val : Int) (st : List Tree) (w : World) (hl : st.length ≤ 900) (h : Stk w sb st) :
  Calls Tryz.prog 139 #[.pointer (some ⟨sb,0,none⟩),.agg #[.int .i64 op,.int .i64 val],.int .i64 vars] w (LiftEnd sb w (stepT vars op val st)) := by
 by_cases n1 : op = 1
 ·subst n1; exact lift_num sb vars val st w h
 by_cases n2 : op = 2
 ·subst n2; exact lift_var sb vars val st w h
 by_cases n3 : op = 3
 ·subst n3; exact lift_arg sb vars val st w h
 by_cases n13 : op = 13
 ·subst n13; exact lift_not sb vars val st w hl h
 by_cases n19 : op = 19
 ·subst n19; exact lift_conv sb vars val st w hl h
 exact lift_bin sb vars op val st w hl h n1 n2 n3 n13 n19
end Go.Proofs.YtkdgkomnbjepdaaGreatDoor
namespace Go.Proofs.YtkdgkomnbjepdaaGreatDoor
open Go.RowKit Go.Sort
theorem nil_nil (w : World) : (binOp BinOp.eql 20 .nilIface .nilIface).run Tryz.prog w = .ok (.bool true) w := by kernel_rfl
set_option maxRecDepth 100000 in
theorem pan_nil (s : ByteArray) (w : World) : (binOp BinOp.eql 20 (.iface 229 (.string s)) .nilIface).run Tryz.prog w = .ok (.bool false) w := by kernel_rfl
set_option maxRecDepth 100000 in
theorem pan_err (s : ByteArray) (w : World) : (Instr.typeAssert (.iface 229 (.string s)) 20 53 true).run Tryz.prog w = .ok (.tuple #[.iface 229 (.string s),.bool true]) w := by kernel_rfl
theorem catch_idle (p : Addr) (w : World) :
  CallsD Tryz.prog 127 #[.pointer (some p)] .returning w fun e u' w' => e = .returned (.tuple #[]) ∧ u' = .returning ∧ w' = w := by
 refine callsD_of_wpS Tryz.func127 rfl fun c₀ cs hu => ?_
 have h1 := nil_nil
 apply wpS_seq
 apply wpS_region
 simp [wpOpsS,go_sem,recoverD,hu,Tryz.ntmps127,Exit.thenS]
 refine wpS_of_wp ?_
 go_wp2
 cases c₀
 simp_all [bodyPostS,results,Tryz.results127]
set_option maxHeartbeats 400000 in
theorem catch_panicking (p : Addr) (x : Value) (s : ByteArray) (older : List PanicEntry) (w : World) (hc : w.cell? p = some x) (hz : w.frozen? p = false) :
  CallsD Tryz.prog 127 #[.pointer (some p)] (.panicking ({ v := .iface 229 (.string s),recovered := false } :: older)) w fun e u' w' =>
   e = .returned (.tuple #[]) ∧ u' = .panicking ({ v := .iface 229 (.string s),recovered := true } :: older) ∧ w' = w.setCell p (.iface 229 (.string s)) := by
 refine callsD_of_wpS Tryz.func127 rfl fun c₀ cs hu => ?_
 have h1 := pan_nil s
 have h2 := pan_err s
 apply wpS_seq
 apply wpS_region
 simp [wpOpsS,go_sem,recoverD,hu,Tryz.ntmps127,Exit.thenS]
 refine wpS_of_wp ?_
 have ef : (#[Value.pointer (some p)] ++ (Array.replicate 8 undef).setIfInBounds 2 (Value.iface 229 (.string s))) = #[Value.pointer (some p),undef,undef,.iface 229 (.string s),undef,undef,undef,undef,undef] := rfl
 rw [ef]
 clear ef
 go_wp2
 simp [bodyPostS,results,Tryz.results127]
theorem attempt_yes (f : Nat) (caps : Array Value) (w : World) (R : World → Prop) (hent : ∀ (args : Array Value) (w : World),(callFunc f args).run Tryz.prog w = .ok (.enter f args) w)
  (h : Calls Tryz.prog f caps (w.alloc (.cells #[.nilIface] 53)) fun e w' => e = .returned (.tuple #[]) ∧ R w' ∧ Below (w.heap.size + 1) (w.alloc (.cells #[.nilIface] 53)) w') :
  Calls Tryz.prog 105 #[.func (.func f) #[] caps] w fun e w' => e = .returned .nilIface ∧ ∃ w1,R w1 ∧ Below (w.heap.size + 1) (w.alloc (.cells #[.nilIface] 53)) w1 ∧ w' = w1.setCell ⟨w.heap.size,0,none⟩ .nilIface := by
 have hmf : ∀ (fn : Fn) (first cap : Array Value) (w : World),(Instr.makeFunc fn first cap).run Tryz.prog w = .ok (.func fn first cap) w := fun _ _ _ _ => rfl
 have H := hid h
 clear h
 go_enter_defers Tryz.func105,Tryz.ntmps105
 go_wp2_with fail
 refine H.out.mono ?_
 rintro e w1 ⟨rfl,hr,hb⟩
 have HR := hid hr
 have HB := hid hb
 have hc : w1.cell? ⟨w.heap.size,0,none⟩ = some .nilIface := (hb.cell (p := ⟨w.heap.size,0,none⟩) (by simp)).trans (by simp)
 have hf : w1.frozen? ⟨w.heap.size,0,none⟩ = false := (hb.frozen (p := ⟨w.heap.size,0,none⟩) (by simp)).trans (by simp [go_sem])
 clear hr hb
 go_wp2
 refine leaves_cons (f := 127) (args := #[.pointer (some ⟨w.heap.size,0,none⟩)]) (by simp) (by simp [go_sem]) ?_
 refine (catch_idle ⟨w.heap.size,0,none⟩ _).mono ?_
 rintro e u' w'' ⟨rfl,rfl,rfl⟩
 simp [Leaves,settle,results,Tryz.results105,go_sem,hc]
 exact ⟨w1,HR.out,HB.out,rfl⟩
theorem attempt_no (f : Nat) (caps : Array Value) (w : World) (hent : ∀ (args : Array Value) (w : World),(callFunc f args).run Tryz.prog w = .ok (.enter f args) w)
  (h : Calls Tryz.prog f caps (w.alloc (.cells #[.nilIface] 53)) fun e w' => Pan e ∧ Below (w.heap.size + 1) (w.alloc (.cells #[.nilIface] 53)) w') :
  Calls Tryz.prog 105 #[.func (.func f) #[] caps] w fun e w' => (∃ s,e = .returned (.iface 229 (.string s))) ∧ Below w.heap.size w w' := by
 have hmf : ∀ (fn : Fn) (first cap : Array Value) (w : World),(Instr.makeFunc fn first cap).run Tryz.prog w = .ok (.func fn first cap) w := fun _ _ _ _ => rfl
 have H := hid h
 clear h
 go_enter_defers Tryz.func105,Tryz.ntmps105
 go_wp2_with fail
 refine H.out.mono ?_
 rintro e w1 ⟨⟨s,rfl⟩,hb⟩
 have HB := hid hb
 have hc : w1.cell? ⟨w.heap.size,0,none⟩ = some .nilIface := (hb.cell (p := ⟨w.heap.size,0,none⟩) (by simp)).trans (by simp)
 have hf : w1.frozen? ⟨w.heap.size,0,none⟩ = false := (hb.frozen (p := ⟨w.heap.size,0,none⟩) (by simp)).trans (by simp [go_sem])
 clear hb
 go_wp2
 refine leaves_cons (f := 127) (args := #[.pointer (some ⟨w.heap.size,0,none⟩)]) (by simp) (by simp [go_sem]) ?_
 refine (catch_panicking ⟨w.heap.size,0,none⟩ .nilIface s [] _ hc hf).mono ?_
 rintro e u' w'' ⟨rfl,rfl,rfl⟩
 simp [Leaves,settle,results,Tryz.results105,go_sem,hc]
 exact ((below1 _ _).trans (HB.out.mono (by omega))).setCell (Nat.le_refl _) _
def runT (vars : Int) : List (Int × Int) → List Tree → Option (List Tree)
 | [],st => some st
 | x :: r,st => match stepT vars x.1 x.2 st with
  | some p => runT vars r (p.1 :: p.2)
  | none => none
theorem runT_append (vars : Int) (a b : List (Int × Int)) : ∀ st,runT vars (a ++ b) st = (runT vars a st).bind (runT vars b) := by
 induction a with
 | nil => intro st; rfl
 | cons x a ih =>
  intro st
  simp only [List.cons_append,runT]
  split
  ·exact ih _
  ·rfl
theorem stepT_len {vars op val : Int} {st : List Tree} {p : Tree × List Tree} (h : stepT vars op val st = some p) : p.2.length ≤ st.length := by
 unfold stepT at h
 split at h
 ·split at h <;> simp at h; rw [← h]; simp
 split at h
 ·split at h <;> simp at h; rw [← h]; simp
 split at h
 ·split at h
  ·split at h <;> simp at h; rw [← h]; simp
  ·simp at h
 split at h
 ·simp at h
 split at h
 ·simp at h; rw [← h]; simp
 split at h
 ·split at h <;> simp at h; rw [← h]; simp
 ·split at h
  ·split at h <;> simp at h; rw [← h]; simp; omega
  ·simp at h
def onlyT : Option (List Tree) → Option Tree
 | some [t] => some t
 | _ => none
def liftT (its : List (Int × Int)) (vars : Int) : Option Tree :=
 if (0 ≤ vars ∧ vars ≤ 32) ∧ (1 ≤ its.length ∧ its.length ≤ 200) then onlyT (runT vars its []) else none
def CodeEnd (w : World) (r : Option Tree) (e : Ending) (w' : World) : Prop :=
 match r with
 | some t => e = .returned (tv t) ∧ Below w.heap.size w w'
 | none => Pan e ∧ Below w.heap.size w w'
theorem split_at {its : List (Int × Int)} {k : Nat} (h : k < its.length) : its = its.take k ++ its.getD k (0,0) :: its.drop (k + 1) := by
 have e : its.getD k (0,0) = its[k] := by simp [List.getD_eq_getElem?_getD,List.getElem?_eq_getElem h]
 rw [e]
 simp
theorem take_succ_at {its : List (Int × Int)} {k : Nat} (h : k < its.length) : its.take (k + 1) = its.take k ++ [its.getD k (0,0)] := by
 have e : its.getD k (0,0) = its[k] := by simp [List.getD_eq_getElem?_getD,List.getElem?_eq_getElem h]
 rw [e,List.take_succ_eq_append_getElem h]
theorem enter_of {P : Program} {f : FuncId} {fn : Func} {c : Code} (hf : P.funcs[f]? = some fn) (hname : (fn.name == "runtime.NumGoroutine") = false) (hb : fn.body = some c) (args : Array Value) (w : World) : (callFunc f args).run P w = .ok (.enter f args) w := by
 have h1 : fn.name ≠ "runtime.NumGoroutine" := by simpa using hname
 simp [callFunc,hf,h1,hb]
end Go.Proofs.YtkdgkomnbjepdaaGreatDoor
namespace Go.Proofs.YtkdgkomnbjepdaaGreatDoor
open Go.RowKit Go.Sort
theorem Stk.new (w : World) : Stk (w.alloc (.cells #[.slice none 0 0] 264)) w.heap.size [] :=
 ⟨_,heap_alloc_new _ _,by simpa using World.ownsRow_nil _ _ _ _⟩
set_option maxHeartbeats 1000000 in
theorem liftCode_any (ao : Option Addr) (n c : Nat) (its : List (Int × Int)) (vars : Int) (w : World) (hn : n ≤ 9223372036854775807) (hs : ItemsOf w ao n its) :
  Calls Tryz.prog 131 #[.slice ao n c,.int .i64 vars] w (CodeEnd w (liftT its vars)) := by
 by_cases hv : 0 ≤ vars ∧ vars ≤ 32
 ·by_cases hl : 1 ≤ n ∧ n ≤ 200
  ·obtain ⟨hv1,hv2⟩ := hv
   obtain ⟨hl1,hl2⟩ := hl
   have HL := hid hs.1
   have ET : Hid (liftT its vars = onlyT (runT vars its [])) := hid (by unfold liftT; rw [if_pos ⟨⟨hv1,hv2⟩,by rw [hs.1]; exact ⟨hl1,hl2⟩⟩])
   have i1 : (1 : Int) ≤ (n : Int) := by omega
   have i2 : (n : Int) ≤ 200 := by omega
   go_enter Tryz.func131,Tryz.ntmps131
   go_wp2_with (go_at_call 128; refine (demand_yes _ _).mono ?_; rintro e w' ⟨rfl,hw⟩; obtain rfl := hw.symm)
   go_loopw [26] (fun i wr => ∃ k : Nat,k ≤ n ∧ i = .int .i64 k ∧ ∃ st,runT vars (its.take k) [] = some st ∧ st.length ≤ k ∧ Stk wr w.heap.size st ∧ Below w.heap.size w wr) (fun i _ => n - (intOf i).toNat)
   case atStart => exact ⟨0,Nat.zero_le _,rfl,[],rfl,Nat.le_refl _,Stk.new w,below1 _ _⟩
   case round =>
    obtain ⟨k,hk,rfl,st,hrun,hst,hS,hb⟩ := hrel
    have HS := hid hS
    have HB := hid hb
    have HR := hid hrun
    have hsz := hS.lt
    clear hrun
    by_cases hlt : k < n
    ·obtain ⟨b,off,rfl,hbl,hc⟩ := hs.2 (by omega)
     obtain ⟨x,ex⟩ : ∃ x,x = its.getD k (0,0) := ⟨_,rfl⟩
     obtain ⟨x1,x2⟩ := x
     have k1 : wr.cell? ⟨b,off + k * 2,none⟩ = some (.int .i64 x1) := (hb.cell (p := ⟨b,off + k * 2,none⟩) hbl).trans (by rw [(hc k hlt).1,← ex])
     have k2 : wr.cell? ⟨b,off + k * 2 + 1,none⟩ = some (.int .i64 x2) := (hb.cell (p := ⟨b,off + k * 2 + 1,none⟩) hbl).trans (by rw [(hc k hlt).2,← ex])
     have EX := hid ex
     have L := hid (lift_any w.heap.size vars x1 x2 st (wr.alloc (.cells #[.int .i64 x1,.int .i64 x2] 107)) (by omega) (hS.below (below1 _ _)))
     clear ex hc hs hb hS
     cases hstep : stepT vars x1 x2 st with
     | some p =>
      obtain ⟨t,st'⟩ := p
      have hlen := hid (stepT_len hstep)
      have HT := hid hstep
      rw [hstep] at L
      obtain ⟨y,z,hy⟩ := tv_form t
      have PU := hid (fun w1 h => push_any w.heap.size t st' w1 (by have := hlen.out; simp at this; omega) h)
      unfold LiftEnd at L
      simp only [hy] at L PU
      clear hstep hy
      go_wp2_with (first | (go_at_call 139; refine L.out.mono ?_; rintro e w1 ⟨rfl,hs1,hb1⟩; have S1 := hid hs1; have B1 := hid hb1; clear hs1 hb1) | (go_at_call 138; refine (PU.out _ S1.out).mono ?_; rintro e w2 ⟨rfl,hs2,hb2⟩; have S2 := hid hs2; have B2 := hid hb2; clear hs2 hb2))
      go_roundw
      case rel =>
       refine ⟨k + 1,by omega,by go_num,t :: st',?_,by have := hlen.out; simp at this ⊢; omega,S2.out,((HB.out.alloc (by omega) _).trans B1.out).trans B2.out⟩
       rw [take_succ_at (by rw [HL.out]; exact hlt),runT_append,HR.out,← EX.out]
       simp [runT,HT.out]
      case measure => simp [intOf]; omega
     | none =>
      have HT := hid hstep
      rw [hstep] at L
      have EN : Hid (liftT its vars = none) := hid (by
       rw [ET.out]
       have e : runT vars its [] = none := by
        rw [split_at (its := its) (k := k) (by rw [HL.out]; exact hlt),runT_append,HR.out,← EX.out]
        simp [runT,HT.out]
       rw [e]; rfl)
      unfold LiftEnd at L
      simp only at L
      clear hstep
      go_wp2_with (go_at_call 139; refine L.out.mono ?_; rintro e w1 ⟨⟨s,rfl⟩,hb1⟩; have B1 := hid hb1; clear hb1)
      refine ⟨rfl,?_⟩
      rw [EN.out]
      exact ⟨⟨_,rfl⟩,(HB.out.alloc (by omega) _).trans B1.out⟩
    ·have e : k = n := by omega
     subst e
     have hrun : runT vars its [] = some st := by have := HR.out; rwa [List.take_of_length_le (by rw [HL.out]; exact Nat.le_refl _)] at this
     rw [hrun] at ET
     obtain ⟨v,hv,ho⟩ := hS
     have hc0 := cell_of_one hv
     have HO := hid ho
     have HV := hid hv
     clear hs hb hrun ho hv
     by_cases h1 : st.length = 1
     ·obtain ⟨t,rfl⟩ : ∃ t,st = [t] := by
       match st,h1 with
       | [t],_ => exact ⟨t,rfl⟩
      have ho := HO.out
      obtain ⟨g,cap,rfl⟩ : ∃ g cap,v = .slice (some ⟨g,0,none⟩) 1 cap := by
       rcases ho.2 with ⟨h,h0⟩ | ⟨g,cap,cur,h,_⟩
       ·simp at h0
       ·exact ⟨_,_,h⟩
      have hcell : wr.cell? ⟨g,0,none⟩ = some (tv t) := by
       have := World.ownsRow.cellAt (n := 1) (size := 1) ho 0 (by omega)
       rw [this]; simp
      obtain ⟨y,z,hy⟩ := tv_form t
      rw [hy] at hcell
      have EY := hid hy
      clear ho hy
      go_wp2_with (go_at_call 128; refine (demand_yes _ _).mono ?_; rintro e w' ⟨rfl,hw⟩; obtain rfl := hw.symm)
      go_ret
      rw [ET.out]
      exact ⟨by rw [EY.out]; rfl,HB.out⟩
     ·obtain ⟨ao',m,cap,hm,rfl⟩ : ∃ ao' m cap,m ≠ 1 ∧ v = .slice ao' m cap := by
       rcases HO.out.2 with ⟨h,h0⟩ | ⟨g,cap,cur,h,_⟩
       ·exact ⟨none,0,0,by omega,h⟩
       ·exact ⟨_,_,_,h1,h⟩
      have hne : ((m : Int) == 1) = false := by simp; omega
      have EN : Hid (liftT its vars = none) := hid (by
       rw [ET.out]
       match st,h1 with
       | [],_ => rfl
       | [t],h => exact absurd rfl h
       | _ :: _ :: _,_ => rfl)
      go_wp2_with (go_at_call 128; refine (demand_no _ _).mono ?_; rintro e w' ⟨rfl,hw⟩; obtain rfl := hw.symm)
      refine ⟨rfl,?_⟩
      rw [EN.out]
      exact ⟨⟨_,rfl⟩,HB.out⟩
  ·have EN : Hid (liftT its vars = none) := hid (by unfold liftT; rw [if_neg (fun h => hl (by rw [hs.1] at h; exact h.2))])
   obtain ⟨hv1,hv2⟩ := hv
   clear hs
   by_cases h1 : 1 ≤ n
   ·have h2 : ¬ n ≤ 200 := fun h => hl ⟨h1,h⟩
    have i1 : (1 : Int) ≤ (n : Int) := by omega
    have i2 : decide ((n : Int) ≤ 200) = false := by simp; omega
    clear hl
    go_enter Tryz.func131,Tryz.ntmps131
    go_wp2_with (first | (go_at_call_of 128 (Value.bool true); refine (demand_yes _ _).mono ?_; rintro e w' ⟨rfl,hw⟩; obtain rfl := hw.symm) | (go_at_call_of 128 (Value.bool false); refine (demand_no _ _).mono ?_; rintro e w' ⟨rfl,hw⟩; obtain rfl := hw.symm))
    refine ⟨rfl,?_⟩
    rw [EN.out]
    exact ⟨⟨_,rfl⟩,Below.refl _ _⟩
   ·have i1 : ¬ (1 : Int) ≤ (n : Int) := by omega
    clear hl
    go_enter Tryz.func131,Tryz.ntmps131
    go_wp2_with (first | (go_at_call_of 128 (Value.bool true); refine (demand_yes _ _).mono ?_; rintro e w' ⟨rfl,hw⟩; obtain rfl := hw.symm) | (go_at_call_of 128 (Value.bool false); refine (demand_no _ _).mono ?_; rintro e w' ⟨rfl,hw⟩; obtain rfl := hw.symm))
    refine ⟨rfl,?_⟩
    rw [EN.out]
    exact ⟨⟨_,rfl⟩,Below.refl _ _⟩
 ·have EN : Hid (liftT its vars = none) := hid (by unfold liftT; rw [if_neg (fun h => hv h.1)])
  clear hs
  by_cases h1 : 0 ≤ vars
  ·have h2 : ¬ vars ≤ 32 := fun h => hv ⟨h1,h⟩
   clear hv
   go_enter Tryz.func131,Tryz.ntmps131
   go_wp2_with (go_at_call 128; refine (demand_no _ _).mono ?_; rintro e w' ⟨rfl,hw⟩; obtain rfl := hw.symm)
   refine ⟨rfl,?_⟩
   rw [EN.out]
   exact ⟨⟨_,rfl⟩,Below.refl _ _⟩
  ·clear hv
   go_enter Tryz.func131,Tryz.ntmps131
   go_wp2_with (go_at_call 128; refine (demand_no _ _).mono ?_; rintro e w' ⟨rfl,hw⟩; obtain rfl := hw.symm)
   refine ⟨rfl,?_⟩
   rw [EN.out]
   exact ⟨⟨_,rfl⟩,Below.refl _ _⟩
theorem ents29 : ∀ (args : Array Value) (w : World),(callFunc 130 args).run Tryz.prog w = .ok (.enter 130 args) w := enter_of (f := 130) Tryz.func130 (by kernel_rfl) rfl
def okT (its : List (Int × Int)) (vars : Int) : Bool := (liftT its vars).isSome
theorem nil_eq (w : World) : (binOp BinOp.eql 53 .nilIface .nilIface).run Tryz.prog w = .ok (.bool true) w := by kernel_rfl
set_option maxRecDepth 100000 in
theorem err_eq (s : ByteArray) (w : World) : (binOp BinOp.eql 53 (.iface 229 (.string s)) .nilIface).run Tryz.prog w = .ok (.bool false) w := by kernel_rfl
set_option maxHeartbeats 1000000 in
theorem implCodeOK_any (ao : Option Addr) (n c : Nat) (its : List (Int × Int)) (vars : Int) (w : World) (hn : n ≤ 9223372036854775807) (hs : ItemsOf w ao n its) :
  Calls Tryz.prog 108 #[.slice ao n c,.int .i64 vars] w fun e w' => e = .returned (.bool (okT its vars)) ∧ Below w.heap.size w w' := by
 have hmf : ∀ (fn : Fn) (first cap : Array Value) (w : World),(Instr.makeFunc fn first cap).run Tryz.prog w = .ok (.func fn first cap) w := fun _ _ _ _ => rfl
 obtain ⟨W,hW⟩ : ∃ W,W = ((w.alloc (.cells #[.slice ao n c] 73)).alloc (.cells #[.int .i64 vars] 3)) := ⟨_,rfl⟩
 have hWs : W.heap.size = w.heap.size + 1 + 1 := by rw [hW]; simp
 have bW : Below w.heap.size w W := by rw [hW]; exact below2 _ _ _
 have c0 : W.cell? ⟨w.heap.size,0,none⟩ = some (.slice ao n c) := by rw [hW]; simp [go_sem]
 have c1 : W.cell? ⟨w.heap.size + 1,0,none⟩ = some (.int .i64 vars) := by rw [hW]; simp [go_sem]
 have L : Calls Tryz.prog 130 #[.pointer (some ⟨w.heap.size,0,none⟩),.pointer (some ⟨w.heap.size + 1,0,none⟩)] (W.alloc (.cells #[.nilIface] 53)) fun e w' => (match liftT its vars with | some _ => e = .returned (.tuple #[]) | none => Pan e) ∧ Below (W.heap.size + 1) (W.alloc (.cells #[.nilIface] 53)) w' := by
  have d0 : (W.alloc (.cells #[.nilIface] 53)).cell? ⟨w.heap.size,0,none⟩ = some (.slice ao n c) := by rw [← c0]; exact (below1 _ _).cell (p := ⟨w.heap.size,0,none⟩) (by simp; omega)
  have d1 : (W.alloc (.cells #[.nilIface] 53)).cell? ⟨w.heap.size + 1,0,none⟩ = some (.int .i64 vars) := by rw [← c1]; exact (below1 _ _).cell (p := ⟨w.heap.size + 1,0,none⟩) (by simp; omega)
  have H := hid (liftCode_any ao n c its vars (W.alloc (.cells #[.nilIface] 53)) hn (hs.below (bW.trans ((below1 _ _).mono (by omega)))))
  have hz : (W.alloc (.cells #[.nilIface] 53)).heap.size = W.heap.size + 1 := by simp
  obtain ⟨V,hV⟩ : ∃ V,V = W.alloc (.cells #[.nilIface] 53) := ⟨_,rfl⟩
  rw [← hV] at d0 d1 H hz ⊢
  clear hV c0 c1 bW hW hs
  cases hlt : liftT its vars with
  | some t =>
   rw [hlt] at H
   unfold CodeEnd at H
   simp only at H ⊢
   rw [← hz]
   clear hlt hz hWs
   go_enter Tryz.func130,Tryz.ntmps130
   go_wp2_with (go_at_call 131; refine H.out.mono ?_; rintro e w1 ⟨rfl,hb⟩; have HB := hid hb; clear hb)
   go_end0
   exact ⟨rfl,HB.out⟩
  | none =>
   rw [hlt] at H
   unfold CodeEnd at H
   simp only at H ⊢
   rw [← hz]
   clear hlt hz hWs
   go_enter Tryz.func130,Tryz.ntmps130
   go_wp2_with (go_at_call 131; refine H.out.mono ?_; rintro e w1 ⟨⟨s,rfl⟩,hb⟩; have HB := hid hb; clear hb)
   exact ⟨rfl,⟨_,rfl⟩,HB.out⟩
 cases hlt : liftT its vars with
 | some t =>
  rw [hlt] at L
  have A := hid (attempt_yes 130 _ W (fun _ => True) ents29 (L.mono fun e w' ⟨h1,h2⟩ => ⟨h1,trivial,h2⟩))
  have EK : Hid (okT its vars = true) := hid (by simp [okT,hlt])
  have HW := hid hW
  have BW := hid bW
  have hq := nil_eq
  rw [hW] at A
  clear hlt L c0 c1 bW hs
  go_enter Tryz.func108,Tryz.ntmps108
  go_wp2_with (go_at_call 105; refine A.out.mono ?_; rintro e w1 ⟨rfl,w2,_,hb2,hw1⟩; have HB := hid hb2; have H1 := hid hw1; clear hb2 hw1)
  go_ret
  refine ⟨ret_bool EK.out.symm,?_⟩
  rw [H1.out]
  have hb := HB.out
  rw [← HW.out] at hb ⊢
  exact (BW.out.trans ((below1 _ _).mono (by omega))).trans (hb.mono (by omega)) |>.setCell (by simp; omega) _
 | none =>
  rw [hlt] at L
  have A := hid (attempt_no 130 _ W ents29 L)
  have EK : Hid (okT its vars = false) := hid (by simp [okT,hlt])
  have HW := hid hW
  have BW := hid bW
  have hq := err_eq
  rw [hW] at A
  clear hlt L c0 c1 bW hs
  go_enter Tryz.func108,Tryz.ntmps108
  go_wp2_with (go_at_call 105; refine A.out.mono ?_; rintro e w1 ⟨⟨s,rfl⟩,hb2⟩; have HB := hid hb2; clear hb2)
  go_ret
  refine ⟨ret_bool EK.out.symm,?_⟩
  have hb := HB.out
  rw [← HW.out] at hb
  exact BW.out.trans (hb.mono (by omega))
end Go.Proofs.YtkdgkomnbjepdaaGreatDoor
namespace Go.Proofs.YtkdgkomnbjepdaaGreatDoor
theorem stepT_some {vars op val : Int} {st : List Tree} {p : Tree × List Tree} (h : stepT vars op val st = some p) : itemB vars op val = true ∧ arity op ≤ st.length ∧ p.2 = st.drop (arity op) := by
 unfold stepT at h
 by_cases n1 : op = 1
 ·subst n1
  simp only [if_true] at h
  split at h <;> simp at h
  rename_i hv
  subst h
  exact ⟨by simp [itemB]; omega,by simp [arity],by simp [arity]⟩
 by_cases n2 : op = 2
 ·subst n2
  simp only [n1,if_false,if_true] at h
  split at h <;> simp at h
  rename_i hv
  subst h
  exact ⟨by simp [itemB]; omega,by simp [arity],by simp [arity]⟩
 by_cases n19 : op = 19
 ·subst n19
  simp only [n1,n2,if_false,if_true] at h
  split at h
  ·rename_i hv
   split at h <;> simp at h
   subst h
   exact ⟨by simp [itemB]; omega,by simp [arity],by simp [arity]⟩
  ·simp at h
 simp only [n1,n2,n19,if_false] at h
 by_cases hv : val = 0
 ·subst hv
  simp only [not_true_eq_false,if_false] at h
  by_cases n3 : op = 3
  ·subst n3
   simp at h
   subst h
   exact ⟨by simp [itemB],by simp [arity],by simp [arity]⟩
  by_cases n13 : op = 13
  ·subst n13
   simp only [n3,if_false,if_true] at h
   split at h <;> simp at h
   subst h
   exact ⟨by simp [itemB],by simp [arity],by simp [arity]⟩
  simp only [n3,n13,if_false] at h
  split at h
  ·split at h <;> simp at h
   rename_i hop
   subst h
   unfold binOk at hop
   have ha : arity op = 2 := by simp [arity,n13,n19]; omega
   exact ⟨by simp [itemB,n1,n2,n19]; omega,by rw [ha]; simp,by rw [ha]; simp⟩
  ·simp at h
 ·simp [hv] at h
theorem stepT_of {vars op val : Int} {st : List Tree} (h1 : itemB vars op val = true) (h2 : arity op ≤ st.length) : ∃ t,stepT vars op val st = some (t,st.drop (arity op)) := by
 unfold itemB at h1
 by_cases n1 : op = 1
 ·subst n1
  simp at h1
  exact ⟨_,by simp [stepT,h1,arity]; rfl⟩
 by_cases n2 : op = 2
 ·subst n2
  simp at h1
  exact ⟨.var val,by simp [stepT,arity]; omega⟩
 by_cases n19 : op = 19
 ·subst n19
  simp at h1
  match st,h2 with
  | [],h2 => simp [arity] at h2
  | t :: st',_ => exact ⟨_,by simp [stepT,h1,arity]; rfl⟩
 simp [n1,n2,n19] at h1
 obtain ⟨ha,hb,rfl⟩ := h1
 by_cases n3 : op = 3
 ·subst n3
  exact ⟨_,by simp [stepT,arity]; rfl⟩
 by_cases n13 : op = 13
 ·subst n13
  match st,h2 with
  | [],h2 => simp [arity] at h2
  | t :: st',_ => exact ⟨_,by simp [stepT,arity]; rfl⟩
 have har : arity op = 2 := by simp [arity,n13,n19]; omega
 rw [har] at h2 ⊢
 match st,h2 with
 | [],h2 => simp at h2
 | [_],h2 => simp at h2
 | r :: l :: st',_ =>
  have hop : binOk op := by unfold binOk; omega
  exact ⟨.bin op l r,by simp [stepT,n1,n2,n3,n13,n19]; exact ⟨hop.1,hop.2.1⟩⟩
def Seg (P : Nat → Tree → Prop) (its : List (Int × Int)) : Nat → List Tree → Prop
 | e,[] => e = 0
 | e,t :: st => 0 ≤ bgn its e ∧ P e t ∧ Seg P its (bgn its e).toNat st
theorem seg_step {P : Nat → Tree → Prop} {its : List (Int × Int)} {e : Nat} {st : List Tree} (h : Seg P its e st) (ha : arity (opAt its e) ≤ st.length) {t : Tree} (hP : P (e + 1) t) : Seg P its (e + 1) (t :: st.drop (arity (opAt its e))) := by
 have h3 : arity (opAt its e) = 0 ∨ arity (opAt its e) = 1 ∨ arity (opAt its e) = 2 := by have := arity_le (opAt its e); omega
 rcases h3 with h0 | h0 | h0
 ·have hb := bgn_ar0 its e h0
  rw [h0]
  exact ⟨by rw [hb]; omega,hP,by rw [hb]; simpa using h⟩
 ·have hb := bgn_ar1 its e h0
  rw [h0] at ha ⊢
  match st,ha,h with
  | [],ha,_ => simp at ha
  | s1 :: st',_,h => exact ⟨by rw [hb]; exact h.1,hP,by rw [hb]; exact h.2.2⟩
 ·have hb := bgn_ar2 its e h0
  rw [h0] at ha ⊢
  match st,ha,h with
  | [],ha,_ => simp at ha
  | [_],ha,_ => simp at ha
  | s1 :: s2 :: st',_,h =>
   rw [if_neg (by have := h.1; omega)] at hb
   exact ⟨by rw [hb]; exact h.2.2.1,hP,by rw [hb]; exact h.2.2.2.2⟩
theorem run_seg {P : Nat → Tree → Prop} {its : List (Int × Int)} {vars : Int} (hP : ∀ e st t,e < its.length → Seg P its e st → stepT vars (its.getD e (0,0)).1 (its.getD e (0,0)).2 st = some (t,st.drop (arity (opAt its e))) → P (e + 1) t) :
  ∀ e st,e ≤ its.length → runT vars (its.take e) [] = some st → Seg P its e st ∧ itemsP its vars e := by
 intro e
 induction e with
 | zero => intro st _ h; simp [runT] at h; subst h; exact ⟨rfl,fun i h => absurd h (by omega)⟩
 | succ e ih =>
  intro st he h
  rw [take_succ_at (by omega),runT_append] at h
  cases hr : runT vars (its.take e) [] with
  | none => rw [hr] at h; simp at h
  | some st0 =>
   rw [hr] at h
   simp only [Option.bind_some,runT] at h
   obtain ⟨h1,h2⟩ := ih st0 (by omega) hr
   cases hs : stepT vars (its.getD e (0,0)).1 (its.getD e (0,0)).2 st0 with
   | none => rw [hs] at h; simp at h
   | some p =>
    rw [hs] at h
    simp at h
    obtain ⟨a,b,c⟩ := stepT_some hs
    obtain ⟨t,st1⟩ := p
    simp only at c
    subst c
    rw [← h]
    refine ⟨seg_step h1 b (hP e st0 t (by omega) h1 hs),fun i hi => ?_⟩
    by_cases e1 : i = e
    ·subst e1; exact a
    ·exact h2 i (by omega)
def seg (its : List (Int × Int)) (b e : Nat) : List (Int × Int) := (its.take e).drop b
theorem seg_snoc {its : List (Int × Int)} {b e : Nat} (hb : b ≤ e) (he : e < its.length) : seg its b (e + 1) = seg its b e ++ [its.getD e (0,0)] := by
 unfold seg
 rw [take_succ_at he,List.drop_append_of_le_length (by simp; omega)]
theorem seg_join {its : List (Int × Int)} {b m e : Nat} (hb : b ≤ m) (hm : m ≤ e) : seg its b e = seg its b m ++ seg its m e := by
 unfold seg
 have h1 : its.take m = (its.take e).take m := by rw [List.take_take,Nat.min_eq_left hm]
 rw [h1]
 generalize its.take e = l at *
 have h2 : l = l.take m ++ l.drop m := by simp
 have h3 : l.drop b = (l.take m).drop b ++ l.drop m := by
  by_cases hl : m ≤ l.length
  ·conv => lhs; rw [h2]
   rw [List.drop_append_of_le_length (by simp; omega)]
  ·have e1 : l.take m = l := List.take_of_length_le (by omega)
   have e2 : l.drop m = [] := List.drop_of_length_le (by omega)
   rw [e1,e2]; simp
 exact h3
theorem run_of_bgn {its : List (Int × Int)} {vars : Int} (hi : itemsP its vars its.length) : ∀ e,e ≤ its.length → 0 ≤ bgn its e → ∀ st,∃ t,runT vars (seg its (bgn its e).toNat e) st = some (t :: st) := by
 intro e
 induction e using Nat.strongRecOn with
 | ind e ih =>
  intro he hb st
  match e with
  | 0 => rw [bgn_zero] at hb; omega
  | e + 1 =>
   have h3 : arity (opAt its e) = 0 ∨ arity (opAt its e) = 1 ∨ arity (opAt its e) = 2 := by have := arity_le (opAt its e); omega
   have hit := hi e (by omega)
   rcases h3 with h0 | h0 | h0
   ·rw [bgn_ar0 its e h0] at hb ⊢
    obtain ⟨t,ht⟩ := stepT_of (st := st) hit (by show arity (opAt its e) ≤ _; rw [h0]; omega)
    rw [show arity (its.getD e (0,0)).1 = 0 from h0] at ht
    refine ⟨t,?_⟩
    have e1 : ((e : Int)).toNat = e := by omega
    rw [e1,seg_snoc (Nat.le_refl _) (by omega),runT_append]
    have e2 : seg its e e = [] := by unfold seg; apply List.drop_of_length_le; simp; omega
    rw [e2]
    simp at ht
    simp [runT,ht]
   ·have hbb := bgn_ar1 its e h0
    rw [hbb] at hb ⊢
    have hbd := bgn_bd its e
    obtain ⟨t1,h1⟩ := ih e (by omega) (by omega) hb st
    obtain ⟨t,ht⟩ := stepT_of (st := t1 :: st) hit (by show arity (opAt its e) ≤ _; rw [h0]; simp)
    rw [show arity (its.getD e (0,0)).1 = 1 from h0] at ht
    refine ⟨t,?_⟩
    rw [seg_snoc (by omega) (by omega),runT_append,h1]
    simp at ht
    simp [runT,ht]
   ·have hbb := bgn_ar2 its e h0
    have hbd := bgn_bd its e
    by_cases hneg : bgn its e < 0
    ·rw [if_pos hneg] at hbb; omega
    ·rw [if_neg hneg] at hbb
     rw [hbb] at hb ⊢
     have hbd2 := bgn_bd its (bgn its e).toNat
     obtain ⟨t2,h2⟩ := ih (bgn its e).toNat (by omega) (by omega) hb st
     obtain ⟨t1,h1⟩ := ih e (by omega) (by omega) (by omega) (t2 :: st)
     obtain ⟨t,ht⟩ := stepT_of (st := t1 :: t2 :: st) hit (by show arity (opAt its e) ≤ _; rw [h0]; simp)
     rw [show arity (its.getD e (0,0)).1 = 2 from h0] at ht
     refine ⟨t,?_⟩
     rw [seg_snoc (by omega) (by omega),seg_join (m := (bgn its e).toNat) (by omega) (by omega),runT_append,runT_append,h2]
     simp only [Option.bind_some]
     rw [h1]
     simp at ht
     simp [runT,ht]
theorem liftT_some {its : List (Int × Int)} {vars : Int} {t : Tree} (h : liftT its vars = some t) : (0 ≤ vars ∧ vars ≤ 32) ∧ (1 ≤ its.length ∧ its.length ≤ 200) ∧ runT vars its [] = some [t] := by
 unfold liftT at h
 split at h
 ·rename_i hb
  refine ⟨hb.1,hb.2,?_⟩
  cases hr : runT vars its [] with
  | none => rw [hr] at h; simp [onlyT] at h
  | some l =>
   rw [hr] at h
   match l,h with
   | [s],h => simp [onlyT] at h; rw [h]
   | [],h => simp [onlyT] at h
   | _ :: _ :: _,h => simp [onlyT] at h
 ·simp at h
theorem okT_codeB (its : List (Int × Int)) (vars : Int) : (liftT its vars).isSome = codeB its vars := by
 rw [Bool.eq_iff_iff]
 unfold codeB
 rw [decide_eq_true_iff,Option.isSome_iff_exists]
 constructor
 ·rintro ⟨t,h⟩
  obtain ⟨h1,h2,h3⟩ := liftT_some h
  have e : its.take its.length = its := List.take_length
  obtain ⟨hs,hi⟩ := run_seg (P := fun _ _ => True) (its := its) (vars := vars) (fun _ _ _ _ _ _ => trivial) its.length [t] (Nat.le_refl _) (by rw [e]; exact h3)
  refine ⟨h1,h2,hi,?_⟩
  have a := hs.1
  have b : (bgn its its.length).toNat = 0 := hs.2.2
  omega
 ·rintro ⟨h1,h2,h3,h4⟩
  obtain ⟨t,ht⟩ := run_of_bgn h3 its.length (Nat.le_refl _) (by omega) []
  rw [h4] at ht
  have e : seg its (0 : Int).toNat its.length = its := by simp [seg]
  rw [e] at ht
  refine ⟨t,?_⟩
  unfold liftT
  rw [if_pos ⟨h1,h2⟩,ht]
  rfl
end Go.Proofs.YtkdgkomnbjepdaaGreatDoor
