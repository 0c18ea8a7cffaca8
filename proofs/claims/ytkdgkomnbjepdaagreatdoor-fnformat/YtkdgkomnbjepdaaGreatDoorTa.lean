import Derived.Test.YtkdgkomnbjepdaaGreatDoorP2
import Derived.Test.YtkdgkomnbjepdaaGreatDoorSa
import Derived.Deep.DeepCutAuto
import Derived.OwnWalk
namespace Go.Proofs.YtkdgkomnbjepdaaGreatDoor
open Go.RowKit Go.Sort
set_option linter.unusedVariables false
attribute [local go_sem ↓] Go.wp_at_zero Go.wp_at_succ
theorem checkOf_code (ss : List StD) (ts : List TrD) (l : LimD) : 0 ≤ (checkOf ss ts l).1 ∧ (checkOf ss ts l).1 ≤ 6 := by
 unfold checkOf
 split
 ·split
  ·exact ⟨by simp,by simp⟩
  ·split <;> exact ⟨by simp,by simp⟩
 ·unfold faultOf
  split
  ·split
   ·exact ⟨by simp,by simp⟩
   ·split
    ·exact ⟨by simp,by simp⟩
    ·split <;> exact ⟨by simp,by simp⟩
  ·exact ⟨by simp,by simp⟩
def objOK (x : ObD) : Bool := betB x.prio 1 1000 && (betB x.qcap 1 1000 && (betB x.dcap 0 1000 && bankB x.kinds x.vals))
def samePr (os : List ObD) (i j : Nat) : Bool := decide ((os.getD j ob0).prio = (os.getD i ob0).prio)
def dupB (os : List ObD) (i : Nat) : Bool := (firstB (samePr os i) i).isSome
def sameSub (us : List Int) (k j : Nat) : Bool := decide (us.getD j 0 = us.getD k 0)
def badSub (sg : Int) (us : List Int) (k : Nat) : Bool := !(betB (us.getD k 0) 0 (sg - 1)) || (firstB (sameSub us k) k).isSome
def limOf (sg : Int) (os : List ObD) (nt i : Nat) : LimD := ⟨(os.length : Int),sg,(nt : Int),((os.getD i ob0).vals.length : Int)⟩
def objFault (sg : Int) (os : List ObD) (nt i : Nat) : Int × Int :=
 if objOK (os.getD i ob0) = true ∧ dupB os i = false then
  match firstB (badSub sg (os.getD i ob0).subs) (os.getD i ob0).subs.length with
  | some k => (3,(k : Int))
  | none => if (checkOf (os.getD i ob0).sts (os.getD i ob0).trs (limOf sg os nt i)).1 = 0 then (0,0)
   else (10 + (checkOf (os.getD i ob0).sts (os.getD i ob0).trs (limOf sg os nt i)).1,(checkOf (os.getD i ob0).sts (os.getD i ob0).trs (limOf sg os nt i)).2)
 else (2,0)
theorem dup_no {os : List ObD} {i : Nat} (h : ∀ j,j < i → samePr os i j = false) : dupB os i = false := by
 unfold dupB
 rw [firstB_none h]
 rfl
theorem obf_two {sg : Int} {os : List ObD} {nt i : Nat} (h : ¬ (objOK (os.getD i ob0) = true ∧ dupB os i = false)) : objFault sg os nt i = (2,0) := if_neg h
theorem obf_three {sg : Int} {os : List ObD} {nt i k : Nat} (h : objOK (os.getD i ob0) = true ∧ dupB os i = false) (hk : k < (os.getD i ob0).subs.length) (h1 : badSub sg (os.getD i ob0).subs k = true) (h2 : ∀ j,j < k → badSub sg (os.getD i ob0).subs j = false) : objFault sg os nt i = (3,(k : Int)) := by
 unfold objFault
 rw [if_pos h,firstB_some hk h1 h2]
theorem obf_chart {sg : Int} {os : List ObD} {nt i : Nat} (h : objOK (os.getD i ob0) = true ∧ dupB os i = false) (h2 : ∀ j,j < (os.getD i ob0).subs.length → badSub sg (os.getD i ob0).subs j = false) :
  objFault sg os nt i = if (checkOf (os.getD i ob0).sts (os.getD i ob0).trs (limOf sg os nt i)).1 = 0 then (0,0)
   else (10 + (checkOf (os.getD i ob0).sts (os.getD i ob0).trs (limOf sg os nt i)).1,(checkOf (os.getD i ob0).sts (os.getD i ob0).trs (limOf sg os nt i)).2) := by
 unfold objFault
 rw [if_pos h,firstB_none h2]
theorem badSub_no {sg : Int} {us : List Int} {k : Nat} (h : betB (us.getD k 0) 0 (sg - 1) = true) (h2 : ∀ j,j < k → sameSub us k j = false) : badSub sg us k = false := by
 unfold badSub; rw [h,firstB_none h2]; rfl
structure OE (w wr : World) (s o : Array Value) : Prop where
 bel : Below w.heap.size w wr
 sy : wr.heap[w.heap.size]? = some (.cells s 26 (0,0))
 ob : wr.heap[w.heap.size + 1]? = some (.cells o 66 (0,0))
theorem OE.below {w wr w1 : World} {s o : Array Value} (h : OE w wr s o) (hb : Below wr.heap.size wr w1) : OE w w1 s o := ⟨h.bel.trans (hb.mono h.bel.size),block_below h.sy hb,block_below h.ob hb⟩
theorem oe_start (w : World) (s o : Array Value) : OE w ((w.alloc (.cells s 26)).alloc (.cells o 66)) s o :=
 ⟨below2 _ _ _,block_below (heap_alloc_new w _) (below1 _ _),by simpa using heap_alloc_new (w.alloc (.cells s 26)) (.cells o 66)⟩
end Go.Proofs.YtkdgkomnbjepdaaGreatDoor
namespace Go.Proofs.YtkdgkomnbjepdaaGreatDoor
open Go.RowKit Go.Sort
set_option linter.unusedVariables false
attribute [local go_sem ↓] Go.wp_at_zero Go.wp_at_succ
end Go.Proofs.YtkdgkomnbjepdaaGreatDoor
namespace Go.Proofs.YtkdgkomnbjepdaaGreatDoor
open Go.RowKit Go.Sort
set_option linter.unusedVariables false
attribute [local go_sem ↓] Go.wp_at_zero Go.wp_at_succ
def badTm (sg : Int) (n : Nat) (ts : List (Int × Int)) (k : Nat) : Bool := !(betB (ts.getD k (0,0)).1 0 ((n : Int) - 1)) || !(betB (ts.getD k (0,0)).2 0 (sg - 1))
def badOb (sg : Int) (os : List ObD) (nt k : Nat) : Bool := decide (¬ (objFault sg os nt k).1 = 0)
abbrev cntP (sg : Int) (n t : Nat) : Prop := (1 ≤ sg ∧ sg ≤ 64) ∧ (1 ≤ n ∧ n ≤ 64) ∧ t ≤ 200
def sysFault (sg : Int) (os : List ObD) (ts : List (Int × Int)) : Int × Int × Int :=
 if cntP sg os.length ts.length then
  match firstB (badOb sg os ts.length) os.length with
  | some k => ((objFault sg os ts.length k).1,(k : Int),(objFault sg os ts.length k).2)
  | none => match firstB (badTm sg os.length ts) ts.length with
   | some k => (4,0,(k : Int))
   | none => (0,0,0)
 else (1,0,0)
theorem sys_count {sg : Int} {os : List ObD} {ts : List (Int × Int)} (h : ¬ cntP sg os.length ts.length) : sysFault sg os ts = (1,0,0) := if_neg h
theorem sys_object {sg : Int} {os : List ObD} {ts : List (Int × Int)} (h : cntP sg os.length ts.length) {k : Nat} (hk : k < os.length) (h1 : ¬ (objFault sg os ts.length k).1 = 0) (h2 : ∀ j,j < k → (objFault sg os ts.length j).1 = 0) : sysFault sg os ts = ((objFault sg os ts.length k).1,(k : Int),(objFault sg os ts.length k).2) := by
 unfold sysFault
 rw [if_pos h,firstB_some hk (by unfold badOb; simpa using h1) (fun j hj => by unfold badOb; simpa using h2 j hj)]
theorem sys_timer {sg : Int} {os : List ObD} {ts : List (Int × Int)} (h : cntP sg os.length ts.length) (ho : ∀ j,j < os.length → (objFault sg os ts.length j).1 = 0) {k : Nat} (hk : k < ts.length) (h1 : badTm sg os.length ts k = true) (h2 : ∀ j,j < k → badTm sg os.length ts j = false) : sysFault sg os ts = (4,0,(k : Int)) := by
 unfold sysFault
 rw [if_pos h,firstB_none (fun j hj => by unfold badOb; simpa using ho j hj),firstB_some hk h1 h2]
theorem sys_ok {sg : Int} {os : List ObD} {ts : List (Int × Int)} (h : cntP sg os.length ts.length) (ho : ∀ j,j < os.length → (objFault sg os ts.length j).1 = 0) (h2 : ∀ j,j < ts.length → badTm sg os.length ts j = false) : sysFault sg os ts = (0,0,0) := by
 unfold sysFault
 rw [if_pos h,firstB_none (fun j hj => by unfold badOb; simpa using ho j hj),firstB_none h2]
structure SE (w wr : World) (s : Array Value) : Prop where
 bel : Below w.heap.size w wr
 sy : wr.heap[w.heap.size]? = some (.cells s 26 (0,0))
theorem SE.below {w wr w1 : World} {s : Array Value} (h : SE w wr s) (hb : Below wr.heap.size wr w1) : SE w w1 s := ⟨h.bel.trans (hb.mono h.bel.size),block_below h.sy hb⟩
theorem SE.alloc {w wr : World} {s : Array Value} (h : SE w wr s) (x : Obj) : SE w (wr.alloc x) s := h.below (below1 _ _)
theorem se_start (w : World) (s : Array Value) : SE w (w.alloc (.cells s 26)) s := ⟨below1 _ _,heap_alloc_new w _⟩
theorem betB_yes {x lo hi : Int} (h : lo ≤ x ∧ x ≤ hi) : true = betB x lo hi := by unfold betB; simpa using h
theorem betB_not {x lo hi : Int} (h : ¬ (lo ≤ x ∧ x ≤ hi)) : false = betB x lo hi := by unfold betB; simpa using h
end Go.Proofs.YtkdgkomnbjepdaaGreatDoor
namespace Go.Proofs.YtkdgkomnbjepdaaGreatDoor
open Go.RowKit Go.Sort
set_option linter.unusedVariables false
attribute [local go_sem ↓] Go.wp_at_zero Go.wp_at_succ
set_option maxHeartbeats 400000 in
theorem between_any (x lo hi : Int) (w : World) : Calls Tryz.prog 23 #[.int .i64 x,.int .i64 lo,.int .i64 hi] w fun e w' => e = .returned (.bool (betB x lo hi)) ∧ w' = w := by
 by_cases h1 : lo ≤ x <;> by_cases h7 : x ≤ hi
 all_goals
  go_enter Tryz.func23,Tryz.ntmps23
  go_wp2
  go_ret
  exact ⟨ret_bool (by simp [betB]; omega),rfl⟩
theorem between_of (x lo hi : Int) (b : Bool) (h : b = betB x lo hi) (w : World) : Calls Tryz.prog 23 #[.int .i64 x,.int .i64 lo,.int .i64 hi] w fun e w' => e = .returned (.bool b) ∧ w' = w := by
 rw [h]; exact between_any x lo hi w
def hitB (P : Nat → Bool) (n : Nat) : Int := match firstB P n with | some j => (j : Int) | none => -1
theorem hit_some {P : Nat → Bool} {n k : Nat} (hk : k < n) (h : P k = true) (hb : ∀ j,j < k → P j = false) : hitB P n = (k : Int) := by unfold hitB; rw [firstB_some hk h hb]
theorem hit_none {P : Nat → Bool} {n : Nat} (hb : ∀ j,j < n → P j = false) : hitB P n = -1 := by unfold hitB; rw [firstB_none hb]
theorem hit_is (P : Nat → Bool) (n : Nat) : (firstB P n).isSome = decide (0 ≤ hitB P n) := by
 unfold hitB
 cases firstB P n with
 | some j => simp
 | none => simp
set_option maxHeartbeats 800000 in
theorem index_any (b off n c : Nat) (v : Int) (zs : List Int) (w : World) (hn : n ≤ 9223372036854775807) (hc : ∀ j,j < n → w.cell? ⟨b,off + j,none⟩ = some (.int .i64 (zs.getD j 0))) :
  Calls Tryz.prog 72 #[.slice (some ⟨b,off,none⟩) n c,.int .i64 v] w fun e w' => e = .returned (.int .i64 (hitB (fun j => decide (zs.getD j 0 = v)) n)) ∧ w' = w := by
 have HC := hid hc
 clear hc
 go_enter Tryz.func72,Tryz.ntmps72
 go_wp2
 go_loopw [8] (fun i wr => ∃ k : Nat,k ≤ n ∧ i = .int .i64 k ∧ Hid (∀ j,j < k → decide (zs.getD j 0 = v) = false) ∧ wr = w) (fun i _ => n - (intOf i).toNat)
 case atStart => exact ⟨0,Nat.zero_le _,rfl,hid (fun j h => absurd h (by omega)),rfl⟩
 case round =>
  obtain ⟨k,hk,rfl,HP,rfl⟩ := hrel
  by_cases hlt : k < n
  ·have hck := HC.out k hlt
   obtain ⟨x,ex⟩ : ∃ x,x = zs.getD k 0 := ⟨_,rfl⟩
   rw [← ex] at hck
   have kn : (k : Int) < (n : Int) := by omega
   by_cases hx : x = v
   ·have E : Hid (hitB (fun j => decide (zs.getD j 0 = v)) n = (k : Int)) := hid (hit_some hlt (by show decide (zs.getD k 0 = v) = true; rw [← ex]; simpa using hx) HP.out)
    have hxb : (v == x) = true := by simpa using hx.symm
    clear ex
    go_wp2
    go_ret
    exact ⟨ret_int E.out.symm,rfl⟩
   ·have hxb : (v == x) = false := by simpa using fun h => hx h.symm
    have EX : Hid (decide (zs.getD k 0 = v) = false) := hid (by rw [← ex]; simpa using hx)
    have hxv : ¬ v = x := fun h => hx h.symm
    clear ex
    go_wp2
    go_roundw
    case rel =>
     refine ⟨k + 1,by omega,by go_num,hid (fun j hj => ?_),by first | rfl | trivial⟩
     by_cases e : j = k
     ·subst e; exact EX.out
     ·exact HP.out j (by omega)
    case measure => simp [intOf]; omega
  ·have e : k = n := by omega
   subst e
   have E : Hid (hitB (fun j => decide (zs.getD j 0 = v)) k = -1) := hid (hit_none HP.out)
   go_wp2
   go_ret
   exact ⟨ret_int E.out.symm,rfl⟩
set_option maxHeartbeats 400000 in
theorem contains_any (b off n c : Nat) (v : Int) (zs : List Int) (w : World) (hn : n ≤ 9223372036854775807) (hc : ∀ j,j < n → w.cell? ⟨b,off + j,none⟩ = some (.int .i64 (zs.getD j 0))) :
  Calls Tryz.prog 39 #[.slice (some ⟨b,off,none⟩) n c,.int .i64 v] w fun e w' => e = .returned (.bool (firstB (fun j => decide (zs.getD j 0 = v)) n).isSome) ∧ w' = w := by
 have C := hid (index_any b off n c v zs w hn hc)
 rw [hit_is]
 obtain ⟨r,hr⟩ : ∃ r,r = hitB (fun j => decide (zs.getD j 0 = v)) n := ⟨_,rfl⟩
 rw [← hr] at C ⊢
 clear hc hr
 by_cases h0 : 0 ≤ r
 all_goals
  go_enter Tryz.func39,Tryz.ntmps39
  go_wp2_with (go_at_call 72; refine C.out.mono ?_; rintro e w1 ⟨rfl,hw⟩; obtain rfl := hw.symm)
  go_ret
  exact ⟨ret_bool (by simp; try omega),rfl⟩
theorem ents68 : ∀ (args : Array Value) (w : World),(callFunc 71 args).run Tryz.prog w = .ok (.enter 71 args) w := enter_of (f := 71) Tryz.func71 (by kernel_rfl) rfl
set_option maxRecDepth 100000 in
set_option maxHeartbeats 800000 in
theorem prioIs_any (p q d v : Int) (h : ObS) (P : Nat) (w : World) (hP : w.cell? ⟨P,0,none⟩ = some (.int .i64 v)) (hl : P < w.heap.size) :
  Calls Tryz.prog 71 #[obV p q d h,.pointer (some ⟨P,0,none⟩)] w fun e w' => e = .returned (.bool (decide (p = v))) ∧ Below w.heap.size w w' := by
 obtain ⟨ko,kn,kc,vo,vn,vc,uo,un,uc,so,sn,sc,tt,tn,tc⟩ := h
 unfold obV
 dsimp only
 by_cases hp : p = v
 ·have hpb : (p == v) = true := by simpa using hp
  go_enter Tryz.func71,Tryz.ntmps71
  go_wp2
  go_ret
  exact ⟨ret_bool (by simpa using hp),below1 _ _⟩
 ·have hpb : (p == v) = false := by simpa using hp
  go_enter Tryz.func71,Tryz.ntmps71
  go_wp2
  go_ret
  exact ⟨ret_bool (by simpa using hp),below1 _ _⟩
set_option maxRecDepth 100000 in
set_option maxHeartbeats 1600000 in
theorem indexFunc_any (b off n c P : Nat) (v : Int) (os : List ObD) (w : World) (hn : n ≤ 9223372036854775807) (hbl : b < w.heap.size) (hc : ∀ j,j < n → ObAt w b (off + j * 8) (os.getD j ob0)) (hP : w.cell? ⟨P,0,none⟩ = some (.int .i64 v)) (hl : P < w.heap.size) :
  Calls Tryz.prog 100 #[.slice (some ⟨b,off,none⟩) n c,.func (.func 71) #[] #[.pointer (some ⟨P,0,none⟩)]] w fun e w' => e = .returned (.int .i64 (hitB (fun j => decide ((os.getD j ob0).prio = v)) n)) ∧ Below w.heap.size w w' := by
 have HC := hid hc
 have hent := ents68
 clear hc
 go_enter Tryz.func100,Tryz.ntmps100
 go_wp2
 go_loopw [8] (fun i wr => ∃ k : Nat,k ≤ n ∧ i = .int .i64 k ∧ Hid (∀ j,j < k → decide ((os.getD j ob0).prio = v) = false) ∧ Below w.heap.size w wr) (fun i _ => n - (intOf i).toNat)
 case atStart => exact ⟨0,Nat.zero_le _,rfl,hid (fun j h => absurd h (by omega)),Below.refl _ _⟩
 case round =>
  obtain ⟨k,hk,rfl,HP,hb⟩ := hrel
  have HB := hid hb
  by_cases hlt : k < n
  ·obtain ⟨g,hcs,hmx,hof⟩ := HC.out k hlt
   obtain ⟨k0,k1,k2,k3,k4,k5,k6,k7⟩ := hcs.below hbl hb
   obtain ⟨pj,hpj⟩ : ∃ pj,pj = (os.getD k ob0).prio := ⟨_,rfl⟩
   obtain ⟨qj,hqj⟩ : ∃ qj,qj = (os.getD k ob0).qcap := ⟨_,rfl⟩
   obtain ⟨dj,hdj⟩ : ∃ dj,dj = (os.getD k ob0).dcap := ⟨_,rfl⟩
   rw [← hpj] at k0
   rw [← hqj] at k1
   rw [← hdj] at k2
   have hz := hb.size
   have C := hid (prioIs_any pj qj dj v g P wr ((hb.cell (p := ⟨P,0,none⟩) hl).trans hP) (by omega))
   obtain ⟨ko2,kn2,kc2,vo2,vn2,vc2,uo2,un2,uc2,so2,sn2,sc2,tt2,tn2,tc2⟩ := g
   unfold obV at C
   dsimp only at k3 k4 k5 k6 k7 C
   have kn' : (k : Int) < (n : Int) := by omega
   clear hcs hmx hof hb hqj hdj hP
   by_cases hp : pj = v
   ·have hd : decide (pj = v) = true := by simpa using hp
    rw [hd] at C
    have E : Hid (hitB (fun j => decide ((os.getD j ob0).prio = v)) n = (k : Int)) := hid (hit_some hlt (by show decide ((os.getD k ob0).prio = v) = true; rw [← hpj]; exact hd) HP.out)
    clear hp hd hpj
    go_wp2_with (go_at_call 71; refine C.out.mono ?_; rintro e w1 ⟨rfl,hb1⟩; have B1 := hid (HB.out.trans (hb1.mono HB.out.size)); clear hb1)
    go_ret
    exact ⟨ret_int E.out.symm,B1.out⟩
   ·have hd : decide (pj = v) = false := by simpa using hp
    rw [hd] at C
    have E : Hid (decide ((os.getD k ob0).prio = v) = false) := hid (by rw [← hpj]; exact hd)
    clear hp hd hpj
    go_wp2_with (go_at_call 71; refine C.out.mono ?_; rintro e w1 ⟨rfl,hb1⟩; have B1 := hid (HB.out.trans (hb1.mono HB.out.size)); clear hb1)
    go_roundw
    case rel =>
     refine ⟨k + 1,by omega,by go_num,hid (fun j hj => ?_),B1.out⟩
     by_cases e : j = k
     ·subst e; exact E.out
     ·exact HP.out j (by omega)
    case measure => simp [intOf]; omega
  ·have e : k = n := by omega
   subst e
   have E : Hid (hitB (fun j => decide ((os.getD j ob0).prio = v)) k = -1) := hid (hit_none HP.out)
   clear hb
   go_wp2
   go_ret
   exact ⟨ret_int E.out.symm,HB.out⟩
set_option maxHeartbeats 400000 in
theorem containsFunc_any (b off n c P : Nat) (v : Int) (os : List ObD) (w : World) (hn : n ≤ 9223372036854775807) (hbl : b < w.heap.size) (hc : ∀ j,j < n → ObAt w b (off + j * 8) (os.getD j ob0)) (hP : w.cell? ⟨P,0,none⟩ = some (.int .i64 v)) (hl : P < w.heap.size) :
  Calls Tryz.prog 70 #[.slice (some ⟨b,off,none⟩) n c,.func (.func 71) #[] #[.pointer (some ⟨P,0,none⟩)]] w fun e w' => e = .returned (.bool (firstB (fun j => decide ((os.getD j ob0).prio = v)) n).isSome) ∧ Below w.heap.size w w' := by
 have C := hid (indexFunc_any b off n c P v os w hn hbl hc hP hl)
 rw [hit_is]
 obtain ⟨r,hr⟩ : ∃ r,r = hitB (fun j => decide ((os.getD j ob0).prio = v)) n := ⟨_,rfl⟩
 rw [← hr] at C ⊢
 clear hc hr hP
 by_cases h0 : 0 ≤ r
 all_goals
  go_enter Tryz.func70,Tryz.ntmps70
  go_wp2_with (go_at_call 100; refine C.out.mono ?_; rintro e w1 ⟨rfl,hb1⟩; have B1 := hid hb1; clear hb1)
  go_ret
  exact ⟨ret_bool (by simp; try omega),B1.out⟩
set_option maxHeartbeats 400000 in
theorem hasPrio_any (b off n c : Nat) (v : Int) (os : List ObD) (w : World) (hn : n ≤ 9223372036854775807) (hbl : b < w.heap.size) (hc : ∀ j,j < n → ObAt w b (off + j * 8) (os.getD j ob0)) :
  Calls Tryz.prog 38 #[.slice (some ⟨b,off,none⟩) n c,.int .i64 v] w fun e w' => e = .returned (.bool (firstB (fun j => decide ((os.getD j ob0).prio = v)) n).isSome) ∧ Below w.heap.size w w' := by
 have hmf : ∀ (fn : Fn) (first cap : Array Value) (w : World),(Instr.makeFunc fn first cap).run Tryz.prog w = .ok (.func fn first cap) w := fun _ _ _ _ => rfl
 have C := hid (containsFunc_any b off n c w.heap.size v os (w.alloc (.cells #[.int .i64 v] 3)) hn (by simp; omega) (fun j hj => (hc j hj).below hbl (below1 _ _)) (by simp) (by simp))
 clear hc
 go_enter Tryz.func38,Tryz.ntmps38
 go_wp2_with (go_at_call 70; refine C.out.mono ?_; rintro e w1 ⟨rfl,hb1⟩; have B1 := hid ((below1 _ _).trans (hb1.mono (by simp))); clear hb1)
 go_ret
 exact ⟨rfl,B1.out⟩
set_option maxRecDepth 100000 in
set_option maxHeartbeats 1600000 in
theorem objectOK_any (h : ObS) (x : ObD) (w : World) (hm : ObMax h) (ho : ObOf w h x) :
  Calls Tryz.prog 37 #[obV x.prio x.qcap x.dcap h] w fun e w' => e = .returned (.bool (objOK x)) ∧ Below w.heap.size w w' := by
 obtain ⟨ko,kn,kc,vo,vn,vc,uo,un,uc,so,sn,sc,tt,tn,tc⟩ := h
 obtain ⟨mk,mv,mu,ms,mt,mc⟩ := hm
 have HS : Hid (∀ w',Below w.heap.size w w' → SliceOf w' ko kn x.kinds ∧ SliceOf w' vo vn x.vals) := fun w' h => ⟨ho.hk.below h,ho.hv.below h⟩
 obtain ⟨pv,hpv⟩ : ∃ pv,pv = x.prio := ⟨_,rfl⟩
 obtain ⟨qv,hqv⟩ : ∃ qv,qv = x.qcap := ⟨_,rfl⟩
 obtain ⟨dv,hdv⟩ : ∃ dv,dv = x.dcap := ⟨_,rfl⟩
 obtain ⟨b1,h1⟩ : ∃ b,b = betB pv 1 1000 := ⟨_,rfl⟩
 obtain ⟨b2,h2⟩ : ∃ b,b = betB qv 1 1000 := ⟨_,rfl⟩
 obtain ⟨b3,h3⟩ : ∃ b,b = betB dv 0 1000 := ⟨_,rfl⟩
 obtain ⟨b4,h4⟩ : ∃ b,b = bankB x.kinds x.vals := ⟨_,rfl⟩
 have C1 := hid (between_of pv 1 1000 b1 h1)
 have C2 := hid (between_of qv 1 1000 b2 h2)
 have C3 := hid (between_of dv 0 1000 b3 h3)
 have C4 := hid (fun w a b => implBankOK_any ko vo kn vn kc vc x.kinds x.vals w mk mv a b)
 rw [← h4] at C4
 have EOK : Hid (objOK x = (b1 && (b2 && (b3 && b4)))) := hid (by unfold objOK; rw [← hpv,← hqv,← hdv,h1,h2,h3,h4])
 rw [EOK.out]
 unfold obV
 dsimp only
 rw [← hpv,← hqv,← hdv]
 have B0 := hid (below1 w (.cells #[.int .i64 pv,.int .i64 qv,.int .i64 dv,.slice ko kn kc,.slice vo vn vc,.slice uo un uc,.slice so sn sc,.slice tt tn tc] 66))
 clear ho hpv hqv hdv h1 h2 h3 h4 mk mv mu ms mt mc
 cases b1 <;> (try cases b2) <;> (try cases b3) <;> (try cases b4)
 all_goals
  go_enter Tryz.func37,Tryz.ntmps37
  go_wp2_with (first
   | (go_at_call_of 23 (Value.int .i64 pv); refine (C1.out _).mono ?_; rintro e wa ⟨rfl,hw⟩; obtain rfl := hw.symm)
   | (go_at_call_of 23 (Value.int .i64 qv); refine (C2.out _).mono ?_; rintro e wa ⟨rfl,hw⟩; obtain rfl := hw.symm)
   | (go_at_call_of 23 (Value.int .i64 dv); refine (C3.out _).mono ?_; rintro e wa ⟨rfl,hw⟩; obtain rfl := hw.symm)
   | (go_at_call 69; refine (C4.out _ (HS.out _ B0.out).1 (HS.out _ B0.out).2).mono ?_; rintro e w1 ⟨rfl,hb1⟩; have B0 := hid (B0.out.trans (hb1.mono B0.out.size)); clear hb1))
  go_ret
  exact ⟨rfl,B0.out⟩
end Go.Proofs.YtkdgkomnbjepdaaGreatDoor
namespace Go.Proofs.YtkdgkomnbjepdaaGreatDoor
open Go.RowKit Go.Sort
set_option linter.unusedVariables false
attribute [local go_sem ↓] Go.wp_at_zero Go.wp_at_succ
set_option maxRecDepth 100000 in
set_option maxHeartbeats 1600000 in
theorem limitsOf_any (sg : Int) (eo xo : Option Addr) (en ec xn xc : Nat) (os : List ObD) (i : Nat) (w : World) (hi : i < en) (hen : en ≤ 64) (hxn : xn ≤ 200) (he : ObsOf w eo en os) :
  Calls Tryz.prog 41 #[.agg #[.int .i64 sg,.slice eo en ec,.slice xo xn xc],.int .i64 (i : Int)] w fun e w' => e = .returned (.agg #[.int .i64 (en : Int),.int .i64 sg,.int .i64 (xn : Int),.int .i64 ((os.getD i ob0).vals.length : Int)]) ∧ Below w.heap.size w w' := by
 obtain ⟨b,off,rfl,hbl,hc⟩ := he.2 (by omega)
 obtain ⟨h,hcs,hmx,hof⟩ := hc i hi
 have ev := hof.hv.1
 obtain ⟨k0,k1,k2,k3,k4,k5,k6,k7⟩ := hcs.below hbl (below2 w (.cells #[.int .i64 sg,.slice (some ⟨b,off,none⟩) en ec,.slice xo xn xc] 26) (.cells #[.int .i64 0,.int .i64 0,.int .i64 0,.int .i64 0] 81))
 obtain ⟨ko,kn,kc,vo,vn,vc,uo,un,uc,so,sn,sc,tt,tn,tc⟩ := h
 have mv : vn ≤ 9223372036854775807 := hmx.hv
 have ii : (i : Int) < (en : Int) := by omega
 dsimp only at k4 ev
 rw [ev]
 clear he hc hcs hmx hof ev k0 k1 k2 k3 k5 k6 k7
 go_enter Tryz.func41,Tryz.ntmps41
 go_wp2
 go_region
 all_goals
  go_wp2
  refine bodyPost_ret (v := .agg #[.int .i64 (en : Int),.int .i64 sg,.int .i64 (xn : Int),.int .i64 (vn : Int)]) (by simp [results,Tryz.results41,go_sem]) rfl ⟨rfl,?_⟩
  first | exact (below2 _ _ _) | exact (below2 _ _ _).drew
set_option maxRecDepth 100000 in
set_option maxHeartbeats 6400000 in
theorem checkObject_any (sg : Int) (eo xo : Option Addr) (en ec xn xc : Nat) (os : List ObD) (i : Nat) (w : World) (hi : i < en) (hen : en ≤ 64) (hec : en ≤ ec) (hxn : xn ≤ 200) (hs1 : 1 ≤ sg) (hs2 : sg ≤ 64) (he : ObsOf w eo en os) :
  Calls Tryz.prog 24 #[.agg #[.int .i64 sg,.slice eo en ec,.slice xo xn xc],.int .i64 (i : Int)] w fun e w' => e = .returned (.tuple #[.int .i64 (objFault sg os xn i).1,.int .i64 (objFault sg os xn i).2]) ∧ Below w.heap.size w w' := by
 have HL := hid he.1
 have LL := hid (fun w he => limitsOf_any sg eo xo en ec xn xc os i w hi hen hxn he)
 have HE : Hid (∀ w',Below w.heap.size w w' → ObsOf w' eo en os) := fun w' h => he.below h
 obtain ⟨b,off,rfl,hbl,hc⟩ := he.2 (by omega)
 have HC : Hid (∀ j,j < en → ObAt w b (off + j * 8) (os.getD j ob0)) := hid hc
 obtain ⟨x,ex⟩ : ∃ x,x = os.getD i ob0 := ⟨_,rfl⟩
 obtain ⟨h,hcs,hmx,hof⟩ := hc i hi
 rw [← ex] at hcs hof
 have EX := hid ex
 have OO := hid (fun w ho => objectOK_any h x w hmx ho)
 obtain ⟨k0,k1,k2,k3,k4,k5,k6,k7⟩ := hcs.below hbl (below1 w (.cells #[.int .i64 sg,.slice (some ⟨b,off,none⟩) en ec,.slice xo xn xc] 26))
 obtain ⟨ko,kn,kc,vo,vn,vc,uo,un,uc,so,sn,sc,tt,tn,tc⟩ := h
 obtain ⟨mk,mv,mu,ms,mt,mc⟩ := hmx
 unfold obV at OO
 dsimp only at k3 k4 k5 k6 k7 mk mv mu ms mt mc OO
 have HO : Hid (∀ w',Below w.heap.size w w' → ObOf w' ⟨ko,kn,kc,vo,vn,vc,uo,un,uc,so,sn,sc,tt,tn,tc⟩ x) := fun w' h => hof.below h
 have EU : Hid (x.subs.length = un) := hid hof.hu.1
 have EVV : Hid (x.vals.length = vn) := hid hof.hv.1
 have HPR := hid (fun w' (h : Below w.heap.size w w') => hasPrio_any b off i ec x.prio os w' (by omega) (Nat.lt_of_lt_of_le hbl h.size) (fun j hj => (hc j (by omega)).below hbl h))
 have ED : Hid ((firstB (fun j => decide ((os.getD j ob0).prio = x.prio)) i).isSome = dupB os i) := hid (by rw [ex]; rfl)
 obtain ⟨pv,hpv⟩ : ∃ pv,pv = x.prio := ⟨_,rfl⟩
 obtain ⟨qv,hqv⟩ : ∃ qv,qv = x.qcap := ⟨_,rfl⟩
 obtain ⟨dv,hdv⟩ : ∃ dv,dv = x.dcap := ⟨_,rfl⟩
 obtain ⟨ok,hok⟩ : ∃ ok,ok = objOK x := ⟨_,rfl⟩
 obtain ⟨du,hdu⟩ : ∃ du,du = dupB os i := ⟨_,rfl⟩
 rw [ED.out,← hdu,← hpv] at HPR
 rw [← hpv] at k0
 rw [← hqv] at k1
 rw [← hdv] at k2
 rw [← hpv,← hqv,← hdv,← hok] at OO
 have EOK := hid hok
 have EDU := hid hdu
 have OE0 := hid (oe_start w #[.int .i64 sg,.slice (some ⟨b,off,none⟩) en ec,.slice xo xn xc] #[.int .i64 pv,.int .i64 qv,.int .i64 dv,.slice ko kn kc,.slice vo vn vc,.slice uo un uc,.slice so sn sc,.slice tt tn tc])
 rw [← ex,EVV.out] at LL
 have CK := hid (fun w a c => implCheck_any so tt sn sc tn tc x.sts x.trs (en : Int) sg (xn : Int) (vn : Int) w ms mt a c)
 have ii : (i : Int) < (en : Int) := by omega
 have ic : (i : Int) ≤ (ec : Int) := by omega
 obtain ⟨W,hW⟩ : ∃ W,W = (w.alloc (.cells #[.int .i64 sg,.slice (some ⟨b,off,none⟩) en ec,.slice xo xn xc] 26)).alloc (.cells #[.int .i64 pv,.int .i64 qv,.int .i64 dv,.slice ko kn kc,.slice vo vn vc,.slice uo un uc,.slice so sn sc,.slice tt tn tc] 66) := ⟨_,rfl⟩
 have OE1 := OE0
 rw [← hW] at OE1
 obtain ⟨y0,y1,y2⟩ := three_cells OE1.out.sy
 obtain ⟨z0,z1,z2,z3,z4,z5,z6,z7⟩ := eight_cells OE1.out.ob
 have y0 := cell_regrown y0
 have y1 := cell_regrown y1
 have y2 := cell_regrown y2
 have z0 := cell_regrown z0
 have z1 := cell_regrown z1
 have z2 := cell_regrown z2
 have z3 := cell_regrown z3
 have z4 := cell_regrown z4
 have z5 := cell_regrown z5
 have z6 := cell_regrown z6
 have z7 := cell_regrown z7
 have cO : ∀ d os',Calls Tryz.prog 37 #[.agg #[.int .i64 pv,.int .i64 qv,.int .i64 dv,.slice ko kn kc,.slice vo vn vc,.slice uo un uc,.slice so sn sc,.slice tt tn tc]] (grow (redrawn W d) os') fun e w'' => e = .returned (.bool ok) ∧ ∃ p : Regrown,w'' = grow (redrawn W p.d) p.os :=
  fun d os' => Calls.regrown_of (OO.out _ (HO.out _ (OE1.out.bel.trans ((below_regrown W d os').mono OE1.out.bel.size))))
 have cP : ∀ d os',Calls Tryz.prog 38 #[.slice (some ⟨b,off,none⟩) i ec,.int .i64 pv] (grow (redrawn W d) os') fun e w'' => e = .returned (.bool du) ∧ ∃ p : Regrown,w'' = grow (redrawn W p.d) p.os :=
  fun d os' => Calls.regrown_of (HPR.out _ (OE1.out.bel.trans ((below_regrown W d os').mono OE1.out.bel.size)))
 clear he hc hcs hof ex hpv hqv hdv ms mt mk mv hok hdu
 go_enter Tryz.func24,Tryz.ntmps24
 go_upto_region 2 with fail
 rw [← hW]
 go_cut [27] (fun c wx => c = .bool (!ok || du) ∧ OE w wx #[.int .i64 sg,.slice (some ⟨b,off,none⟩) en ec,.slice xo xn xc] #[.int .i64 pv,.int .i64 qv,.int .i64 dv,.slice ko kn kc,.slice vo vn vc,.slice uo un uc,.slice so sn sc,.slice tt tn tc])
 case first =>
  clear k0 k1 k2 k3 k4 k5 k6 k7 OE0 hW
  cases ok
  all_goals
   refine wp_region_quiet_below (by kernel_rfl) (by kernel_rfl) ?_
   repeat (any_goals (first | go_big_quiet_step (first | exact cO _ _ | exact cP _ _) | quiet_step (first | exact cO _ _ | exact cP _ _)))
   refine wpQuiet_nil ?_
   intro _ hw'
   obtain ⟨⟨dq,osq⟩,hw''⟩ := hw'
   subst hw''
   go_wp2
   go_meet
   exact ⟨rfl,OE1.out.below (below_regrown W dq osq)⟩
 case rest =>
  obtain ⟨rfl,hoe⟩ := hcut
  have E0 := hid hoe
  obtain ⟨u0,u1,u2⟩ := three_cells hoe.sy
  obtain ⟨v0,v1,v2,v3,v4,v5,v6,v7⟩ := eight_cells hoe.ob
  clear hoe k0 k1 k2 k3 k4 k5 k6 k7 y0 y1 y2 z0 z1 z2 z3 z4 z5 z6 z7 cO cP OE0 OE1 hW OO HPR
  by_cases hbad : (!ok || du) = true
  ·have E2 : Hid (objFault sg os xn i = (2,0)) := hid (obf_two (fun h => by
    rw [← EX.out,← EOK.out,← EDU.out] at h
    rw [h.1,h.2] at hbad
    cases hbad))
   rw [hbad]
   clear hbad
   go_wp2_with fail
   go_ret2
   rw [E2.out]
   exact ⟨rfl,E0.out.bel⟩
  ·have hbad' : (!ok || du) = false := by simpa using hbad
   have OKK : Hid (objOK (os.getD i ob0) = true ∧ dupB os i = false) := hid (by
    rw [← EX.out,← EOK.out,← EDU.out]
    cases ok <;> cases du <;> simp_all)
   have EX2 := EX
   rw [hbad']
   clear hbad hbad'
   go_wp2_with fail
   go_loopg [31] un (fun mm i wr => ∃ q : Nat,q ≤ un ∧ mm = un - q ∧ i = .int .i64 q ∧ Hid (∀ j,j < q → badSub sg x.subs j = false) ∧ OE w wr #[.int .i64 sg,.slice (some ⟨b,off,none⟩) en ec,.slice xo xn xc] #[.int .i64 pv,.int .i64 qv,.int .i64 dv,.slice ko kn kc,.slice vo vn vc,.slice uo un uc,.slice so sn sc,.slice tt tn tc])
   case atStart => exact ⟨0,Nat.zero_le _,by omega,rfl,hid (fun j h => absurd h (by omega)),E0.out⟩
   case round =>
    obtain ⟨q,hq,rfl,rfl,HP,hE⟩ := hrel
    have E := hid hE
    obtain ⟨y0,y1,y2⟩ := three_cells hE.sy
    obtain ⟨z0,z1,z2,z3,z4,z5,z6,z7⟩ := eight_cells hE.ob
    have hzl : w.heap.size + 1 < wr.heap.size := lt_of_block hE.ob
    have hzl0 : w.heap.size < wr.heap.size := by omega
    have hb := hE.bel
    clear hE
    by_cases hlt2 : q < un
    ·obtain ⟨bu,offu,hue,hbul,hcu⟩ := (HO.out w (Below.refl _ _)).hu.2 (show 0 < un by omega)
     dsimp only at hue
     subst hue
     obtain ⟨xv,hxv⟩ : ∃ xv,xv = x.subs.getD q 0 := ⟨_,rfl⟩
     have kq := (hb.cell (p := ⟨bu,offu + q,none⟩) hbul).trans (hcu q hlt2)
     rw [← hxv] at kq
     obtain ⟨bb,hbb⟩ : ∃ bb,bb = decide (0 ≤ xv ∧ xv < sg) := ⟨_,rfl⟩
     have CB := hid (within_of' xv sg bb hbb)
     have EB : Hid (betB (x.subs.getD q 0) 0 (sg - 1) = bb) := hid (by rw [← hxv,betB_within,hbb])
     obtain ⟨cc,hcc⟩ : ∃ cc,cc = (firstB (fun j => decide (x.subs.getD j 0 = xv)) q).isSome := ⟨_,rfl⟩
     have CN := hid (contains_any bu offu q uc xv x.subs wr (by omega) (fun j hj => (hb.cell (p := ⟨bu,offu + j,none⟩) hbul).trans (hcu j (Nat.lt_trans hj hlt2))))
     rw [← hcc] at CN
     have EC : Hid ((firstB (sameSub x.subs q) q).isSome = cc) := hid (by rw [hcc,hxv]; rfl)
     have qn : (q : Int) < (un : Int) := by omega
     have qc : (q : Int) ≤ (uc : Int) := by omega
     clear hcu hb hxv hbb hcc
     by_cases hbc : bb = true ∧ cc = false
     ·obtain ⟨rfl,rfl⟩ := hbc
      have BS : Hid (badSub sg x.subs q = false) := hid (by unfold badSub; rw [EB.out,EC.out]; rfl)
      go_wp2_with (first
       | (go_at_call 25; refine (CB.out _).mono ?_; rintro e wa ⟨rfl,hw⟩; obtain rfl := hw.symm)
       | (go_at_call 39; refine CN.out.mono ?_; rintro e wa ⟨rfl,hw⟩; obtain rfl := hw.symm))
      go_roundg (un - (q + 1))
      case measure => omega
      case rel =>
       refine ⟨q + 1,by omega,rfl,by go_num,hid (fun j hj => ?_),E.out⟩
       by_cases e : j = q
       ·subst e; exact BS.out
       ·exact HP.out j (by omega)
     ·have BS : Hid (badSub sg x.subs q = true) := hid (by unfold badSub; rw [EB.out,EC.out]; cases bb <;> cases cc <;> simp_all)
      have E3 : Hid (objFault sg os xn i = (3,(q : Int))) := hid (obf_three OKK.out (by rw [← EX2.out,EU.out]; exact hlt2) (by rw [← EX2.out]; exact BS.out) (by rw [← EX2.out]; exact HP.out))
      cases bb with
      | false =>
       go_wp2_with (go_at_call 25; refine (CB.out _).mono ?_; rintro e wa ⟨rfl,hw⟩; obtain rfl := hw.symm)
       go_ret2
       rw [E3.out]
       exact ⟨rfl,E.out.bel⟩
      | true =>
       cases cc with
       | false => exact absurd ⟨rfl,rfl⟩ hbc
       | true =>
        clear hbc
        go_wp2_with (first
         | (go_at_call 25; refine (CB.out _).mono ?_; rintro e wa ⟨rfl,hw⟩; obtain rfl := hw.symm)
         | (go_at_call 39; refine CN.out.mono ?_; rintro e wa ⟨rfl,hw⟩; obtain rfl := hw.symm))
        go_ret2
        rw [E3.out]
        exact ⟨rfl,E.out.bel⟩
    ·have e : q = un := by omega
     subst e
     have HP' : Hid (∀ j,j < (os.getD i ob0).subs.length → badSub sg (os.getD i ob0).subs j = false) := hid (by rw [← EX2.out,EU.out]; exact HP.out)
     clear hb HP
     obtain ⟨fc,hfc⟩ : ∃ fc,fc = (checkOf x.sts x.trs ⟨(en : Int),sg,(xn : Int),(vn : Int)⟩).1 := ⟨_,rfl⟩
     obtain ⟨fp,hfp⟩ : ∃ fp,fp = (checkOf x.sts x.trs ⟨(en : Int),sg,(xn : Int),(vn : Int)⟩).2 := ⟨_,rfl⟩
     have rng := checkOf_code x.sts x.trs ⟨(en : Int),sg,(xn : Int),(vn : Int)⟩
     have EF : Hid (objFault sg os xn i = if fc = 0 then (0,0) else (10 + fc,fp)) := hid (by
      rw [obf_chart OKK.out HP'.out,← EX2.out]
      have : limOf sg os xn i = ⟨(en : Int),sg,(xn : Int),(vn : Int)⟩ := by unfold limOf; rw [← EX2.out,HL.out,EVV.out]
      rw [this,← hfc,← hfp])
     rw [← hfc,← hfp] at CK
     rw [← hfc] at rng
     obtain ⟨rg0,rg6⟩ := rng
     have D := hid (E.out.below ((Below.refl _ _).drew))
     clear hfc hfp
     by_cases h0 : fc = 0
     ·subst h0
      go_wp2_with fail
      go_region_with (first
       | (go_at_call 41; refine (LL.out _ (HE.out _ D.out.bel)).mono ?_; rintro e w1 ⟨rfl,hb1⟩; have V1 := hid (D.out.below hb1); obtain ⟨a0,a1,a2,a3,a4,a5,a6,a7⟩ := eight_cells V1.out.ob; clear hb1)
       | (go_at_call 40; refine (CK.out _ (HO.out _ V1.out.bel).hs (HO.out _ V1.out.bel).ht).mono ?_; rintro e w2 ⟨rfl,hb2⟩; have V2 := hid (V1.out.below hb2); clear hb2))
      all_goals
       go_wp2_with fail
       go_ret2
       rw [EF.out]
       exact ⟨rfl,V2.out.bel⟩
     ·have h0' : (fc != 0) = true := by simpa using h0
      have EF2 : Hid (objFault sg os xn i = (10 + fc,fp)) := hid (by rw [EF.out,if_neg h0])
      go_wp2_with fail
      go_region_with (first
       | (go_at_call 41; refine (LL.out _ (HE.out _ D.out.bel)).mono ?_; rintro e w1 ⟨rfl,hb1⟩; have V1 := hid (D.out.below hb1); obtain ⟨a0,a1,a2,a3,a4,a5,a6,a7⟩ := eight_cells V1.out.ob; clear hb1)
       | (go_at_call 40; refine (CK.out _ (HO.out _ V1.out.bel).hs (HO.out _ V1.out.bel).ht).mono ?_; rintro e w2 ⟨rfl,hb2⟩; have V2 := hid (V1.out.below hb2); clear hb2))
      all_goals
       go_wp2_with fail
       go_ret2
       rw [EF2.out]
       exact ⟨rfl,V2.out.bel⟩
end Go.Proofs.YtkdgkomnbjepdaaGreatDoor
namespace Go.Proofs.YtkdgkomnbjepdaaGreatDoor
open Go.RowKit Go.Sort
set_option linter.unusedVariables false
attribute [local go_sem ↓] Go.wp_at_zero Go.wp_at_succ
set_option maxRecDepth 100000 in
set_option maxHeartbeats 6400000 in
theorem implSystem_any (sg : Int) (eo xo : Option Addr) (en ec xn xc : Nat) (os : List ObD) (ts : List (Int × Int)) (w : World) (hen : en ≤ 9223372036854775807) (hec : en ≤ ec) (hxn : xn ≤ 9223372036854775807) (he : ObsOf w eo en os) (hx : ItemsOf w xo xn ts) :
  Calls Tryz.prog 10 #[.agg #[.int .i64 sg,.slice eo en ec,.slice xo xn xc]] w fun e w' => e = .returned (.tuple #[.int .i64 (sysFault sg os ts).1,.int .i64 (sysFault sg os ts).2.1,.int .i64 (sysFault sg os ts).2.2]) ∧ Below w.heap.size w w' := by
 have HL := hid he.1
 have HT := hid hx.1
 have EN := hid (se_start w #[.int .i64 sg,.slice eo en ec,.slice xo xn xc])
 by_cases a1 : 1 ≤ sg ∧ sg ≤ 64
 case neg =>
  have C := hid (between_of sg 1 64 false (betB_not a1))
  have E1 : Hid (sysFault sg os ts = (1,0,0)) := hid (sys_count (fun h => a1 h.1))
  rw [E1.out]
  clear he hx a1
  go_enter Tryz.func10,Tryz.ntmps10
  go_wp2_with (go_at_call_of 23 (Value.int .i64 sg); refine (C.out _).mono ?_; rintro e wa ⟨rfl,hw⟩; obtain rfl := hw.symm)
  go_ret3
  exact ⟨rfl,EN.out.bel⟩
 have C1 := hid (between_of sg 1 64 true (betB_yes a1))
 by_cases a2 : 1 ≤ en ∧ en ≤ 64
 case neg =>
  have C2 := hid (between_of (en : Int) 1 64 false (betB_not (by omega)))
  have E1 : Hid (sysFault sg os ts = (1,0,0)) := hid (sys_count (fun h => a2 (by have := h.2.1; rw [HL.out] at this; exact this)))
  rw [E1.out]
  clear he hx a2 a1
  go_enter Tryz.func10,Tryz.ntmps10
  go_wp2_with (first
   | (go_at_call_of 23 (Value.int .i64 sg); refine (C1.out _).mono ?_; rintro e wa ⟨rfl,hw⟩; obtain rfl := hw.symm)
   | (go_at_call_of 23 (Value.int .i64 (en : Int)); refine (C2.out _).mono ?_; rintro e wa ⟨rfl,hw⟩; obtain rfl := hw.symm))
  go_ret3
  exact ⟨rfl,EN.out.bel⟩
 have C2 := hid (between_of (en : Int) 1 64 true (betB_yes (by omega)))
 by_cases a3 : xn ≤ 200
 case neg =>
  have E1 : Hid (sysFault sg os ts = (1,0,0)) := hid (sys_count (fun h => a3 (by have := h.2.2; rw [HT.out] at this; exact this)))
  have a3' : (200 : Int) < (xn : Int) := by omega
  rw [E1.out]
  clear he hx a2 a1 a3
  go_enter Tryz.func10,Tryz.ntmps10
  go_wp2_with (first
   | (go_at_call_of 23 (Value.int .i64 sg); refine (C1.out _).mono ?_; rintro e wa ⟨rfl,hw⟩; obtain rfl := hw.symm)
   | (go_at_call_of 23 (Value.int .i64 (en : Int)); refine (C2.out _).mono ?_; rintro e wa ⟨rfl,hw⟩; obtain rfl := hw.symm))
  go_ret3
  exact ⟨rfl,EN.out.bel⟩
 obtain ⟨s1,s2⟩ := a1
 obtain ⟨n1,n2⟩ := a2
 have CNT : Hid (cntP sg os.length ts.length) := hid ⟨⟨s1,s2⟩,⟨by rw [HL.out]; exact n1,by rw [HL.out]; exact n2⟩,by rw [HT.out]; exact a3⟩
 have HE : Hid (∀ w',Below w.heap.size w w' → ObsOf w' eo en os ∧ ItemsOf w' xo xn ts) := fun w' h => ⟨he.below h,hx.below h⟩
 have OF := hid (fun i w hi he => checkObject_any sg eo xo en ec xn xc os i w hi n2 hec a3 s1 s2 he)
 have a3' : ¬ (200 : Int) < (xn : Int) := by omega
 clear he hx
 go_enter Tryz.func10,Tryz.ntmps10
 go_wp2_with (first
  | (go_at_call_of 23 (Value.int .i64 sg); refine (C1.out _).mono ?_; rintro e wa ⟨rfl,hw⟩; obtain rfl := hw.symm)
  | (go_at_call_of 23 (Value.int .i64 (en : Int)); refine (C2.out _).mono ?_; rintro e wa ⟨rfl,hw⟩; obtain rfl := hw.symm))
 go_loopg [30] en (fun mm i wr => ∃ k : Nat,k ≤ en ∧ mm = en - k ∧ i = .int .i64 k ∧ Hid (∀ j,j < k → (objFault sg os ts.length j).1 = 0) ∧ SE w wr #[.int .i64 sg,.slice eo en ec,.slice xo xn xc])
 case atStart => exact ⟨0,Nat.zero_le _,by omega,rfl,hid (fun j h => absurd h (by omega)),EN.out⟩
 case round =>
  obtain ⟨k,hk,rfl,rfl,HP,hE⟩ := hrel
  have E := hid hE
  obtain ⟨y0,y1,y2⟩ := three_cells hE.sy
  have hzl0 : w.heap.size < wr.heap.size := lt_of_block hE.sy
  clear hE
  by_cases hlt : k < en
  ·have O := hid (OF.out k wr hlt (HE.out _ E.out.bel).1)
   obtain ⟨fc,hfc⟩ : ∃ fc,fc = (objFault sg os xn k).1 := ⟨_,rfl⟩
   obtain ⟨fp,hfp⟩ : ∃ fp,fp = (objFault sg os xn k).2 := ⟨_,rfl⟩
   rw [← hfc,← hfp] at O
   have kn : (k : Int) < (en : Int) := by omega
   by_cases h0 : fc = 0
   ·subst h0
    have ER : Hid ((objFault sg os ts.length k).1 = 0) := hid (by rw [HT.out,← hfc])
    clear hfc hfp
    go_wp2_with (go_at_call 24; refine O.out.mono ?_; rintro e w1 ⟨rfl,hb1⟩; have V1 := hid (E.out.below hb1); clear hb1)
    go_roundg (en - (k + 1))
    case measure => omega
    case rel =>
     refine ⟨k + 1,by omega,rfl,by go_num,hid (fun j hj => ?_),V1.out⟩
     by_cases e : j = k
     ·subst e; exact ER.out
     ·exact HP.out j (by omega)
   ·have E5 : Hid (sysFault sg os ts = (fc,(k : Int),fp)) := hid (by
     rw [sys_object CNT.out (by rw [HL.out]; exact hlt) (by rw [HT.out,← hfc]; exact h0) HP.out,HT.out,← hfc,← hfp])
    have h0' : (fc != 0) = true := by simpa using h0
    clear hfc hfp
    go_wp2_with (go_at_call 24; refine O.out.mono ?_; rintro e w1 ⟨rfl,hb1⟩; have V1 := hid (E.out.below hb1); clear hb1)
    go_ret3
    rw [E5.out]
    exact ⟨rfl,V1.out.bel⟩
  ·have e : k = en := by omega
   subst e
   have HP' : Hid (∀ j,j < os.length → (objFault sg os ts.length j).1 = 0) := hid (by rw [HL.out]; exact HP.out)
   clear HP
   go_wp2_with fail
   go_loopg [48] xn (fun mm i wr => ∃ q : Nat,q ≤ xn ∧ mm = xn - q ∧ i = .int .i64 q ∧ Hid (∀ j,j < q → badTm sg os.length ts j = false) ∧ SE w wr #[.int .i64 sg,.slice eo k ec,.slice xo xn xc])
   case atStart => exact ⟨0,Nat.zero_le _,by omega,rfl,hid (fun j h => absurd h (by omega)),E.out⟩
   case round =>
    obtain ⟨q,hq,rfl,rfl,HP,hE⟩ := hrel
    have E := hid hE
    obtain ⟨y0,y1,y2⟩ := three_cells hE.sy
    have hzl0 : w.heap.size < wr.heap.size := lt_of_block hE.sy
    have hb := hE.bel
    clear hE
    by_cases hlt : q < xn
    ·obtain ⟨bt,offt,rfl,hbtl,hct⟩ := (HE.out w (Below.refl _ _)).2.2 (by omega)
     have t1 := (hb.cell (p := ⟨bt,offt + q * 2,none⟩) hbtl).trans (hct q hlt).1
     have t2 := (hb.cell (p := ⟨bt,offt + q * 2 + 1,none⟩) hbtl).trans (hct q hlt).2
     obtain ⟨ov,hov⟩ : ∃ ov,ov = (ts.getD q (0,0)).1 := ⟨_,rfl⟩
     obtain ⟨sv,hsv⟩ : ∃ sv,sv = (ts.getD q (0,0)).2 := ⟨_,rfl⟩
     rw [← hov] at t1
     rw [← hsv] at t2
     obtain ⟨bo,hbo⟩ : ∃ bo,bo = decide (0 ≤ ov ∧ ov < (k : Int)) := ⟨_,rfl⟩
     obtain ⟨bs,hbs⟩ : ∃ bs,bs = decide (0 ≤ sv ∧ sv < sg) := ⟨_,rfl⟩
     have CO := hid (within_of' ov (k : Int) bo hbo)
     have CS := hid (within_of' sv sg bs hbs)
     have BT : Hid (badTm sg os.length ts q = (!bo || !bs)) := hid (by unfold badTm; rw [HL.out,← hov,← hsv,betB_within,betB_within,hbo,hbs])
     have qn : (q : Int) < (xn : Int) := by omega
     clear hct hb hov hsv hbo hbs
     cases bo with
     | false =>
      have E5 : Hid (sysFault sg os ts = (4,0,(q : Int))) := hid (sys_timer CNT.out HP'.out (by rw [HT.out]; exact hlt) (by rw [BT.out]; rfl) HP.out)
      go_wp2_with (go_at_call_of 25 (Value.int .i64 ov); refine (CO.out _).mono ?_; rintro e wa ⟨rfl,hw⟩; obtain rfl := hw.symm)
      go_ret3
      rw [E5.out]
      exact ⟨rfl,(E.out.alloc _).bel⟩
     | true =>
      cases bs with
      | false =>
       have E5 : Hid (sysFault sg os ts = (4,0,(q : Int))) := hid (sys_timer CNT.out HP'.out (by rw [HT.out]; exact hlt) (by rw [BT.out]; rfl) HP.out)
       go_wp2_with (first
        | (go_at_call_of 25 (Value.int .i64 ov); refine (CO.out _).mono ?_; rintro e wa ⟨rfl,hw⟩; obtain rfl := hw.symm)
        | (go_at_call_of 25 (Value.int .i64 sv); refine (CS.out _).mono ?_; rintro e wa ⟨rfl,hw⟩; obtain rfl := hw.symm))
       go_ret3
       rw [E5.out]
       exact ⟨rfl,(E.out.alloc _).bel⟩
      | true =>
       go_wp2_with (first
        | (go_at_call_of 25 (Value.int .i64 ov); refine (CO.out _).mono ?_; rintro e wa ⟨rfl,hw⟩; obtain rfl := hw.symm)
        | (go_at_call_of 25 (Value.int .i64 sv); refine (CS.out _).mono ?_; rintro e wa ⟨rfl,hw⟩; obtain rfl := hw.symm))
       go_roundg (xn - (q + 1))
       case measure => omega
       case rel =>
        refine ⟨q + 1,by omega,rfl,by go_num,hid (fun j hj => ?_),E.out.alloc _⟩
        by_cases e : j = q
        ·subst e; rw [BT.out]; rfl
        ·exact HP.out j (by omega)
    ·have e : q = xn := by omega
     subst e
     have E5 : Hid (sysFault sg os ts = (0,0,0)) := hid (sys_ok CNT.out HP'.out (by rw [HT.out]; exact HP.out))
     clear hb
     go_wp2_with fail
     go_ret3
     rw [E5.out]
     exact ⟨rfl,E.out.bel⟩
end Go.Proofs.YtkdgkomnbjepdaaGreatDoor
namespace Go.Proofs.YtkdgkomnbjepdaaGreatDoor
open Go.RowKit Go.Sort
set_option linter.unusedVariables false
attribute [local go_sem ↓] Go.wp_at_zero Go.wp_at_succ
end Go.Proofs.YtkdgkomnbjepdaaGreatDoor
