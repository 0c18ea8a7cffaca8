import Derived.Test.YtkdgkomnbjepdaaGreatDoorLc
import Derived.BigQuiet
import Derived.Test.YtkdgkomnbjepdaaGreatDoorLb
import Derived.Test.YtkdgkomnbjepdaaGreatDoorLa
namespace Go.Proofs.YtkdgkomnbjepdaaGreatDoor
open Go.RowKit Go.Sort
set_option linter.unusedVariables false
set_option linter.unusedSimpArgs false
attribute [local go_sem ↓] Go.wp_at_zero Go.wp_at_succ
end Go.Proofs.YtkdgkomnbjepdaaGreatDoor
namespace Go.Proofs.YtkdgkomnbjepdaaGreatDoor
open Go.RowKit Go.Sort
set_option linter.unusedVariables false
set_option linter.unusedSimpArgs false
attribute [local go_sem ↓] Go.wp_at_zero Go.wp_at_succ
end Go.Proofs.YtkdgkomnbjepdaaGreatDoor
namespace Go.Proofs.YtkdgkomnbjepdaaGreatDoor
open Go.RowKit Go.Sort
set_option linter.unusedVariables false
set_option linter.unusedSimpArgs false
attribute [local go_sem ↓] Go.wp_at_zero Go.wp_at_succ
end Go.Proofs.YtkdgkomnbjepdaaGreatDoor
namespace Go.Proofs.YtkdgkomnbjepdaaGreatDoor
open Go.RowKit Go.Sort
set_option linter.unusedVariables false
set_option linter.unusedSimpArgs false
attribute [local go_sem ↓] Go.wp_at_zero Go.wp_at_succ
end Go.Proofs.YtkdgkomnbjepdaaGreatDoor
namespace Go.Proofs.YtkdgkomnbjepdaaGreatDoor
open Go.RowKit Go.Sort
set_option linter.unusedVariables false
set_option linter.unusedSimpArgs false
attribute [local go_sem ↓] Go.wp_at_zero Go.wp_at_succ
end Go.Proofs.YtkdgkomnbjepdaaGreatDoor
namespace Go.Proofs.YtkdgkomnbjepdaaGreatDoor
open Go.RowKit Go.Sort
set_option linter.unusedVariables false
set_option linter.unusedSimpArgs false
attribute [local go_sem ↓] Go.wp_at_zero Go.wp_at_succ
end Go.Proofs.YtkdgkomnbjepdaaGreatDoor
namespace Go.Proofs.YtkdgkomnbjepdaaGreatDoor
open Go.RowKit Go.Sort
set_option linter.unusedVariables false
set_option linter.unusedSimpArgs false
attribute [local go_sem ↓] Go.wp_at_zero Go.wp_at_succ
end Go.Proofs.YtkdgkomnbjepdaaGreatDoor
namespace Go.Proofs.YtkdgkomnbjepdaaGreatDoor
open Go.RowKit Go.Sort
set_option linter.unusedVariables false
set_option linter.unusedSimpArgs false
attribute [local go_sem ↓] Go.wp_at_zero Go.wp_at_succ
end Go.Proofs.YtkdgkomnbjepdaaGreatDoor
namespace Go.Proofs.YtkdgkomnbjepdaaGreatDoor
open Go.RowKit Go.Sort
set_option linter.unusedVariables false
set_option linter.unusedSimpArgs false
attribute [local go_sem ↓] Go.wp_at_zero Go.wp_at_succ
end Go.Proofs.YtkdgkomnbjepdaaGreatDoor
namespace Go.Proofs.YtkdgkomnbjepdaaGreatDoor
open Go.RowKit Go.Sort
set_option linter.unusedVariables false
set_option linter.unusedSimpArgs false
attribute [local go_sem ↓] Go.wp_at_zero Go.wp_at_succ
end Go.Proofs.YtkdgkomnbjepdaaGreatDoor
namespace Go.Proofs.YtkdgkomnbjepdaaGreatDoor
open Go.RowKit Go.Sort
set_option linter.unusedVariables false
set_option linter.unusedSimpArgs false
attribute [local go_sem ↓] Go.wp_at_zero Go.wp_at_succ
end Go.Proofs.YtkdgkomnbjepdaaGreatDoor
namespace Go.Proofs.YtkdgkomnbjepdaaGreatDoor
open Go.RowKit Go.Sort
set_option linter.unusedVariables false
set_option linter.unusedSimpArgs false
attribute [local go_sem ↓] Go.wp_at_zero Go.wp_at_succ
end Go.Proofs.YtkdgkomnbjepdaaGreatDoor
namespace Go.Proofs.YtkdgkomnbjepdaaGreatDoor
open Go.RowKit Go.Sort
set_option linter.unusedVariables false
set_option linter.unusedSimpArgs false
attribute [local go_sem ↓] Go.wp_at_zero Go.wp_at_succ
end Go.Proofs.YtkdgkomnbjepdaaGreatDoor
namespace Go.Proofs.YtkdgkomnbjepdaaGreatDoor
open Go.RowKit Go.Sort
set_option linter.unusedVariables false
set_option linter.unusedSimpArgs false
attribute [local go_sem ↓] Go.wp_at_zero Go.wp_at_succ
end Go.Proofs.YtkdgkomnbjepdaaGreatDoor
namespace Go.Proofs.YtkdgkomnbjepdaaGreatDoor
open Go.RowKit Go.Sort
set_option linter.unusedVariables false
end Go.Proofs.YtkdgkomnbjepdaaGreatDoor
namespace Go.Proofs.YtkdgkomnbjepdaaGreatDoor
open Go.RowKit Go.Sort
set_option linter.unusedVariables false
theorem SmO.mono {o : ObD} {N M : Nat} (h : SmO o N) (hm : N ≤ M) : SmO o M :=
 ⟨Nat.le_trans h.k hm,Nat.le_trans h.v hm,Nat.le_trans h.u hm,Nat.le_trans h.s hm,Nat.le_trans h.t hm,fun x hx => ⟨Nat.le_trans (h.e x hx).1 hm,Nat.le_trans (h.e x hx).2 hm⟩,fun x hx => Nat.le_trans (h.a x hx) hm⟩
theorem SmD.mono {s : SyD} {N M : Nat} (h : SmD s N) (hm : N ≤ M) : SmD s M :=
 ⟨Nat.le_trans h.o hm,Nat.le_trans h.t hm,fun o ho => (h.a o ho).mono hm⟩
theorem sm_zero (N : Nat) : SmD sy0 N := ⟨by simp [sy0],by simp [sy0],by simp [sy0]⟩
theorem oneOb_sm {s s' : SyD} {f : ObD → ObD} {N : Nat} (h : SmD s N) (he : oneOb s f = some s') (hf : ∀ o,SmO o N → SmO (f o) (N + 1)) : SmD s' (N + 1) := by
 unfold oneOb at he
 split at he
 ·cases he
 ·injection he with he
  subst he
  refine ⟨by rw [turnL_len]; exact Nat.le_succ_of_le h.o,Nat.le_succ_of_le h.t,fun o ho => ?_⟩
  rename_i hne
  rcases List.eq_nil_or_concat s.obs with e | ⟨l,x,e⟩
  ·exact absurd e hne
  ·simp only [e,List.concat_eq_append,turnL_snoc,List.mem_append,List.mem_singleton] at ho
   rcases ho with ho | rfl
   ·exact (h.a o (by rw [e,List.concat_eq_append]; simp [ho])).mono (Nat.le_succ _)
   ·exact hf _ (h.a x (by rw [e,List.concat_eq_append]; simp))
theorem turnL_mem {α : Type} {l : List α} {f : α → α} {y : α} (h : y ∈ turnL l f) : y ∈ l ∨ ∃ x ∈ l,y = f x := by
 rcases List.eq_nil_or_concat l with rfl | ⟨r,x,rfl⟩
 ·exact absurd h (by simp [turnL])
 ·rw [List.concat_eq_append,turnL_snoc] at h
  simp only [List.mem_append,List.mem_singleton] at h
  rcases h with h | h
  ·left; simp [h]
  ·right; exact ⟨x,by simp,h⟩
theorem lineW_sm {s s' : SyD} {key : List UInt8} {r : List (List UInt8)} {bg : Bool} {N : Nat} (h : SmD s N) (e : lineW s key r bg = some s') : SmD s' (N + 1) := by
 have ho := h.o
 have ht := h.t
 by_cases q0 : key = kSig
 ·subst q0
  rw [lineW_sig] at e
  split at e
  ·split at e
   ·cases e
   ·injection e with e; subst e
    exact ⟨by simp only; omega,by simp only; omega,fun o ho => (h.a o ho).mono (Nat.le_succ _)⟩
  ·cases e
 cases bg with
 | false => rw [lineW_un s r q0] at e; cases e
 | true =>
 by_cases q2 : key = kObj
 ·subst q2
  rw [lineW_obj] at e
  split at e
  ·injection e with e; subst e
   refine ⟨by simp only [List.length_append,List.length_singleton]; omega,by simp only; omega,fun o ho => ?_⟩
   simp only [List.mem_append,List.mem_singleton] at ho
   rcases ho with ho | rfl
   ·exact (h.a o ho).mono (Nat.le_succ _)
   ·exact ⟨by simp,by simp,by simp,by simp,by simp,by simp,by simp⟩
  ·cases e
 by_cases q3 : key = kTim
 ·subst q3
  rw [lineW_tim] at e
  split at e
  ·injection e with e; subst e
   exact ⟨by simp only; omega,by simp only [List.length_append,List.length_singleton]; omega,fun o ho => (h.a o ho).mono (Nat.le_succ _)⟩
  ·cases e
 by_cases q4 : key = kVar
 ·subst q4
  rw [lineW_var] at e
  split at e
  ·split at e
   ·cases e
   ·split at e
    ·refine oneOb_sm h e (fun o q => ?_)
     have q' := q.mono (Nat.le_succ N)
     exact ⟨by have := q.k; simp only [List.length_append,List.length_singleton]; omega,by have := q.v; simp only [List.length_append,List.length_singleton]; omega,q'.u,q'.s,q'.t,q'.e,q'.a⟩
    ·cases e
  ·cases e
 by_cases q5 : key = kSub
 ·subst q5
  rw [lineW_sub] at e
  split at e
  ·refine oneOb_sm h e (fun o q => ?_)
   have q' := q.mono (Nat.le_succ N)
   exact ⟨q'.k,q'.v,by have := q.u; simp only [List.length_append,List.length_singleton]; omega,q'.s,q'.t,q'.e,q'.a⟩
  ·cases e
 by_cases q6 : key = kSta
 ·subst q6
  rw [lineW_sta] at e
  split at e
  ·refine oneOb_sm h e (fun o q => ?_)
   have q' := q.mono (Nat.le_succ N)
   refine ⟨q'.k,q'.v,q'.u,by have := q.s; simp only [List.length_append,List.length_singleton]; omega,q'.t,fun x hx => ?_,q'.a⟩
   simp only [List.mem_append,List.mem_singleton] at hx
   rcases hx with hx | rfl
   ·exact q'.e x hx
   ·exact ⟨by simp,by simp⟩
  ·cases e
 by_cases q7 : key = kOn
 ·subst q7
  rw [lineW_on] at e
  split at e
  ·refine oneOb_sm h e (fun o q => ?_)
   have q' := q.mono (Nat.le_succ N)
   refine ⟨q'.k,q'.v,q'.u,q'.s,by have := q.t; simp only [List.length_append,List.length_singleton]; omega,q'.e,fun x hx => ?_⟩
   simp only [List.mem_append,List.mem_singleton] at hx
   rcases hx with hx | rfl
   ·exact q'.a x hx
   ·simp
  ·cases e
 by_cases q8 : key = kEnt
 ·subst q8
  rw [lineW_ent] at e
  split at e
  ·split at e
   ·cases e
   ·refine oneOb_sm h e (fun o q => ?_)
    have q' := q.mono (Nat.le_succ N)
    refine ⟨q'.k,q'.v,q'.u,by rw [turnL_len]; exact q'.s,q'.t,fun x hx => ?_,q'.a⟩
    rcases turnL_mem hx with hx | ⟨y,hy,rfl⟩
    ·exact q'.e x hx
    ·have := q.e y hy
     exact ⟨by simp only [List.length_append,List.length_singleton]; omega,(q'.e y hy).2⟩
  ·cases e
 by_cases q9 : key = kExi
 ·subst q9
  rw [lineW_exi] at e
  split at e
  ·split at e
   ·cases e
   ·refine oneOb_sm h e (fun o q => ?_)
    have q' := q.mono (Nat.le_succ N)
    refine ⟨q'.k,q'.v,q'.u,by rw [turnL_len]; exact q'.s,q'.t,fun x hx => ?_,q'.a⟩
    rcases turnL_mem hx with hx | ⟨y,hy,rfl⟩
    ·exact q'.e x hx
    ·have := q.e y hy
     exact ⟨(q'.e y hy).1,by simp only [List.length_append,List.length_singleton]; omega⟩
  ·cases e
 by_cases q10 : key = kDo
 ·subst q10
  rw [lineW_do] at e
  split at e
  ·split at e
   ·cases e
   ·refine oneOb_sm h e (fun o q => ?_)
    have q' := q.mono (Nat.le_succ N)
    refine ⟨q'.k,q'.v,q'.u,q'.s,by rw [turnL_len]; exact q'.t,q'.e,fun x hx => ?_⟩
    rcases turnL_mem hx with hx | ⟨y,hy,rfl⟩
    ·exact q'.a x hx
    ·have := q.a y hy
     simp only [List.length_append,List.length_singleton]; omega
  ·cases e
 ·rw [lineW_else s r q0 q2 q3 q4 q5 q6 q7 q8 q9 q10] at e; cases e
/-! What a text gives,line by line. -/
theorem sysW_skip {ls : List (List UInt8)} {k : Nat} {s : SyD} {b : Bool} (h : k < ls.length) (hs : skipB (ls.getD k []) = true) : sysW (ls.drop k) k s b = sysW (ls.drop (k + 1)) (k + 1) s b := by
 rw [drop_getD_cons h,sysW,if_pos hs]
theorem sysW_line {ls : List (List UInt8)} {k : Nat} {s s' : SyD} {b : Bool} (h : k < ls.length) (hs : skipB (ls.getD k []) = false) (hi : lineW s ((cut 32 (ls.getD k [])).getD 0 []) (cut 32 (ls.getD k [])).tail b = some s') : sysW (ls.drop k) k s b = sysW (ls.drop (k + 1)) (k + 1) s' true := by
 rw [drop_getD_cons h,sysW,if_neg (by rw [hs]; decide),hi]
theorem sysW_wrong {ls : List (List UInt8)} {k : Nat} {s : SyD} {b : Bool} (h : k < ls.length) (hs : skipB (ls.getD k []) = false) (hi : lineW s ((cut 32 (ls.getD k [])).getD 0 []) (cut 32 (ls.getD k [])).tail b = none) : sysW (ls.drop k) k s b = (sy0,(k : Int) + 1) := by
 rw [drop_getD_cons h,sysW,if_neg (by rw [hs]; decide),hi]
end Go.Proofs.YtkdgkomnbjepdaaGreatDoor
