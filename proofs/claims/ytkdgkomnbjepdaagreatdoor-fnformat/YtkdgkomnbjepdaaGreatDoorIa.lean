import Derived.Test.YtkdgkomnbjepdaaGreatDoorSa
import Derived.Deep.LoopGhost
import Derived.LaidEqlPtr
import Derived.WalkMore
import Derived.Test.YtkdgkomnbjepdaaGreatDoorKa
import Derived.OneCell
namespace Go.Proofs.YtkdgkomnbjepdaaGreatDoor
open Go.RowKit Go.Sort
attribute [local go_sem ↓] Go.wp_at_zero Go.wp_at_succ
def ptrs (N : Nat → Nat) (l : List Nat) : List Value := l.map fun (k : Nat) => .pointer (some ⟨N k,0,none⟩)
theorem Tryz.info202 : (Tryz.prog.info? 202).map (fun i => (i.zero,i.size,i.bytes)) = some (some (.pointer none),1,8) := by kernel_rfl
def OwnP (w w' : World) (v : Value) (N : Nat → Nat) (l : List Nat) : Prop := w'.ownsRow w.heap.size 202 1 v l.length (ptrs N l)
def parV (N : Nat → Nat) (ss : List StD) (k : Nat) : Value := if k = 0 then .pointer none else .pointer (some ⟨N (par ss k).toNat,0,none⟩)
def iniV (N : Nat → Nat) (ss : List StD) (k : Nat) : Value := if ini ss k < 0 then .pointer none else .pointer (some ⟨N (ini ss k).toNat,0,none⟩)
def Nodes (w : World) (N : Nat → Nat) (ss : List StD) (n : Nat) : Prop :=
 ∀ k,k < n → N k < w.heap.size ∧ w.cell? ⟨N k,0,none⟩ = some (.int .i64 (k : Int)) ∧ w.cell? ⟨N k,1,none⟩ = some (parV N ss k)
def NodesI (w : World) (N : Nat → Nat) (ss : List StD) (n : Nat) : Prop := Nodes w N ss n ∧ ∀ k,k < n → w.cell? ⟨N k,2,none⟩ = some (iniV N ss k)
theorem Nodes.below {w w' : World} {N : Nat → Nat} {ss : List StD} {n : Nat} (h : Nodes w N ss n) (hb : Below w.heap.size w w') : Nodes w' N ss n := fun k hk => by
 obtain ⟨h1,h2,h3⟩ := h k hk
 exact ⟨Nat.lt_of_lt_of_le h1 hb.size,(hb.cell (p := ⟨N k,0,none⟩) h1).trans h2,(hb.cell (p := ⟨N k,1,none⟩) h1).trans h3⟩
theorem Nodes.inj {w : World} {N : Nat → Nat} {ss : List StD} {n : Nat} (h : Nodes w N ss n) {i j : Nat} (hi : i < n) (hj : j < n) (e : N i = N j) : i = j := by
 have h1 := (h i hi).2.1
 have h2 := (h j hj).2.1
 rw [e,h2] at h1
 simp at h1
 omega
theorem slice_of {w : World} {base : Nat} {e : TypeId} {size : Nat} {v : Value} {n : Nat} {xs : List Value} (h : w.ownsRow base e size v n xs) : ∃ ao cap,v = .slice ao n cap := by
 rcases h.2 with ⟨h,h0⟩ | ⟨g,cap,cur,h,_⟩
 ·exact ⟨none,0,by rw [h,h0]⟩
 ·exact ⟨_,_,h⟩
theorem news_one (w : World) (x : Value) (t : TypeId) : ∀ j u,[x][j]? = some u → (w.alloc (.cells #[x] t)).cell? ((⟨w.heap.size,0,none⟩ : Addr).add j) = some u := cell_one_new w x t
set_option maxHeartbeats 1600000 in
theorem path_any (N : Nat → Nat) (ss : List StD) (T : TreeOK ss) (h200 : ss.length ≤ 200) (k : Nat) (hk : k < ss.length) (w : World) (hN : Nodes w N ss ss.length) :
  Calls Tryz.prog 126 #[.pointer (some ⟨N k,0,none⟩)] w fun e w' => ∃ g cap,e = .returned (.slice (some ⟨g,0,none⟩) (up ss k).length cap) ∧ OwnP w w' (.slice (some ⟨g,0,none⟩) (up ss k).length cap) N (up ss k) ∧ Below w.heap.size w w' := by
 obtain ⟨i0,hi,hz0,hz1,hz2⟩ := info_parts Tryz.info202
 have HN := hid hN
 clear hN
 have HU := hid (up_len T k hk)
 go_enter Tryz.func126,Tryz.ntmps126
 go_wp2
 go_loopg [3,4] (k + 1) (fun m l p wr => Below w.heap.size w wr ∧ ∃ pre : List Nat,wr.ownsRow w.heap.size 202 1 l pre.length (ptrs N pre) ∧ ((m = 0 ∧ p = .pointer none ∧ pre = up ss k) ∨ ∃ j,j < ss.length ∧ m = j + 1 ∧ p = .pointer (some ⟨N j,0,none⟩) ∧ up ss k = pre ++ up ss j))
 case atStart => exact ⟨Below.refl _ _,[],World.ownsRow_nil _ _ _ _,.inr ⟨k,hk,rfl,rfl,rfl⟩⟩
 case round =>
  obtain ⟨hb,pre,ho,hcase⟩ := hrel
  have HB := hid hb
  have HO := hid ho
  obtain ⟨ao,cap,hv⟩ := slice_of ho
  subst hv
  clear hb ho
  rcases hcase with ⟨rfl,rfl,rfl⟩ | ⟨j,hj,rfl,rfl,hpre⟩
  ·go_wp2
   go_ret
   have hpos : 0 < (up ss k).length := by rw [up_form T hk]; simp
   obtain ⟨g,cap',e,_,_⟩ := World.ownsRow.form HO.out hpos
   exact ⟨g,cap',by rw [← e]; rfl,by rw [← e]; exact HO.out,HB.out⟩
  ·obtain ⟨n1,n2,n3⟩ := HN.out j hj
   have hlen : pre.length + 1 ≤ 300 := by
    have := HU.out
    rw [hpre,List.length_append,up_form T hj,List.length_cons] at this
    omega
   have HP := hid hpre
   by_cases h0 : j = 0
   ·subst h0
    have n3' : w.cell? ⟨N 0,1,none⟩ = some (.pointer none) := by rw [n3]; rfl
    clear n2 n3 hpre
    go_wp2_with (at_builtin; refine wpList_append_lies _ rfl (.tmp 12) (.tmp 14) 151 rfl w.heap.size 202 i0 _ 1 8 Tryz.underlying151 hi hz0 hz1 hz2 rfl (by decide) _ _ _ rfl (HO.out.alloc _) ⟨wr.heap.size,0,none⟩ 1 1 [.pointer (some ⟨N 0,0,none⟩)] rfl rfl (news_one _ _ _) (by intro u hu; simp at hu; subst hu; rfl) (by omega) (by unfold maxLen; omega) (by omega) (by have := HB.out.size; simp; omega) (wr.heap.size + 1) (by simp) ?_)
    intro g cap' w2 hown hgrow _ _
    have B2 : Hid (Below w.heap.size w w2) := hid ((HB.out.alloc HB.out.size _).grown hgrow (by have := HB.out.size; simp; omega) (fun kk e => (HO.out.lt kk e).1))
    have c1 := (B2.out.cell (p := ⟨N 0,1,none⟩) n1).trans n3'
    have O2 := hid hown
    clear hown hgrow
    go_wp2
    go_roundg 0
    case measure => omega
    case rel => exact ⟨B2.out,up ss k,by rw [HP.out,up_zero]; simpa [ptrs] using O2.out,.inl ⟨rfl,rfl,rfl⟩⟩
   ·have ht := T.2 j (by omega) hj
    obtain ⟨p,hp⟩ : ∃ p : Nat,par ss j = p := ⟨(par ss j).toNat,by omega⟩
    have n3' : w.cell? ⟨N j,1,none⟩ = some (.pointer (some ⟨N p,0,none⟩)) := by rw [n3,parV,if_neg h0,hp,Int.toNat_natCast]
    have HQ : Hid (up ss k = (pre ++ [j]) ++ up ss p) := hid (by rw [hpre,up_pos T (by omega) hj,hp,Int.toNat_natCast]; simp)
    have hpj : p < j := by omega
    clear n2 n3 hpre ht hp
    go_wp2_with (at_builtin; refine wpList_append_lies _ rfl (.tmp 12) (.tmp 14) 151 rfl w.heap.size 202 i0 _ 1 8 Tryz.underlying151 hi hz0 hz1 hz2 rfl (by decide) _ _ _ rfl (HO.out.alloc _) ⟨wr.heap.size,0,none⟩ 1 1 [.pointer (some ⟨N j,0,none⟩)] rfl rfl (news_one _ _ _) (by intro u hu; simp at hu; subst hu; rfl) (by omega) (by unfold maxLen; omega) (by omega) (by have := HB.out.size; simp; omega) (wr.heap.size + 1) (by simp) ?_)
    intro g cap' w2 hown hgrow _ _
    have B2 : Hid (Below w.heap.size w w2) := hid ((HB.out.alloc HB.out.size _).grown hgrow (by have := HB.out.size; simp; omega) (fun kk e => (HO.out.lt kk e).1))
    have c1 := (B2.out.cell (p := ⟨N j,1,none⟩) n1).trans n3'
    have O2 := hid hown
    clear hown hgrow
    go_wp2
    go_roundg (p + 1)
    case measure => omega
    case rel => exact ⟨B2.out,pre ++ [j],by simpa [ptrs] using O2.out,.inr ⟨p,by omega,rfl,rfl,HQ.out⟩⟩
end Go.Proofs.YtkdgkomnbjepdaaGreatDoor
namespace Go.Proofs.YtkdgkomnbjepdaaGreatDoor
open Go.RowKit Go.Sort
attribute [local go_sem ↓] Go.wp_at_zero Go.wp_at_succ
set_option maxHeartbeats 400000 in
theorem depth_any (N : Nat → Nat) (ss : List StD) (T : TreeOK ss) (h200 : ss.length ≤ 200) (k : Nat) (hk : k < ss.length) (w : World) (hN : Nodes w N ss ss.length) :
  Calls Tryz.prog 103 #[.pointer (some ⟨N k,0,none⟩)] w fun e w' => e = .returned (.int .i64 (((up ss k).length : Int) - 1)) ∧ Below w.heap.size w w' := by
 have C := hid (path_any N ss T h200 k hk w hN)
 have hu := up_len T k hk
 have hu1 : (up ss k).length ≤ 300 := by omega
 clear hN hu
 go_enter Tryz.func103,Tryz.ntmps103
 go_wp2_with (go_at_call 126; refine C.out.mono ?_; rintro e w1 ⟨g,cap,rfl,_,hb1⟩; have B1 := hid hb1; clear hb1)
 go_ret
 exact ⟨rfl,B1.out⟩
def NodeB (w : World) (N : Nat → Nat) (n : Nat) : Prop := ∀ k,k < n → ∃ cs,w.heap[N k]? = some (.cells cs 204 (0,0))
end Go.Proofs.YtkdgkomnbjepdaaGreatDoor
namespace Go.Proofs.YtkdgkomnbjepdaaGreatDoor
open Go.RowKit Go.Sort
attribute [local go_sem ↓] Go.wp_at_zero Go.wp_at_succ
theorem getD_mem {l : List Nat} {k : Nat} (h : k < l.length) : l.getD k 0 ∈ l := by
 rw [List.getD_eq_getElem?_getD,List.getElem?_eq_getElem h]
 exact List.getElem_mem _
theorem mem_getD {l : List Nat} {x : Nat} (h : x ∈ l) : ∃ k,k < l.length ∧ l.getD k 0 = x := by
 obtain ⟨k,hk,e⟩ := List.getElem_of_mem h
 exact ⟨k,hk,by rw [List.getD_eq_getElem?_getD,List.getElem?_eq_getElem hk]; exact e⟩
end Go.Proofs.YtkdgkomnbjepdaaGreatDoor
namespace Go.Proofs.YtkdgkomnbjepdaaGreatDoor
open Go.RowKit Go.Sort
attribute [local go_sem ↓] Go.wp_at_zero Go.wp_at_succ
structure Kept (X : Nat → Prop) (w w' : World) : Prop where
 os : w'.os = w.os
 tape : w'.tape = w.tape
 output : w'.output = w.output
 size : w.heap.size ≤ w'.heap.size
 block : ∀ q,q < w.heap.size → ¬ X q → w'.heap[q]? = w.heap[q]?
theorem Kept.below {X : Nat → Prop} {w w' : World} (h : Kept X w w') {B : Nat} (hB : B ≤ w.heap.size) (hX : ∀ q,X q → B ≤ q) : Below B w w' :=
 ⟨h.os,h.tape,h.output,h.size,fun q hq => h.block q (by omega) (fun hx => by have := hX q hx; omega)⟩
theorem quad_free {w : World} {H : Nat} {cs : Array Value} {t : TypeId} (h : w.heap[H]? = some (.cells cs t (0,0))) (o : Nat) : w.frozen? ⟨H,o,none⟩ = false := frozen_of_row w H o cs t h
theorem row_node {w : World} {B : Nat} {v : Value} {n : Nat} {xs : List Value} (h : w.ownsRow B 202 1 v n xs) {H : Nat} {cs : Array Value} (hH : w.heap[H]? = some (.cells cs 204 (0,0))) : v.ownBlock ≠ some H := by
 intro e
 rcases h.2 with ⟨h0,_⟩ | ⟨g,cap,cur,h1,h2,h3,h4⟩
 ·rw [h0] at e; cases e
 ·rw [h1] at e
  simp [Value.ownBlock] at e
  subst e
  rw [hH] at h3
  simp at h3
set_option maxHeartbeats 800000 in
theorem addChild_any (P H B : Nat) (a0 a1 a2 cv c0 c2 c3 : Value) (kn : Nat) (xs : List Value) (w : World) (hP : w.heap[P]? = some (.cells #[a0,a1,a2,cv] 204 (0,0))) (hH : w.heap[H]? = some (.cells #[c0,.pointer none,c2,c3] 204 (0,0)))
  (hne : P ≠ H) (ho : w.ownsRow B 202 1 cv kn xs) (hk : kn ≤ 300) (hB : B ≤ w.heap.size) :
  Calls Tryz.prog 102 #[.pointer (some ⟨P,0,none⟩),.pointer (some ⟨H,0,none⟩)] w fun e w' => e = .returned (.tuple #[]) ∧ ∃ cv',w'.heap[P]? = some (.cells #[a0,a1,a2,cv'] 204 (0,0)) ∧
   w'.heap[H]? = some (.cells #[c0,.pointer (some ⟨P,0,none⟩),c2,c3] 204 (0,0)) ∧ w'.ownsRow B 202 1 cv' (kn + 1) (xs ++ [.pointer (some ⟨H,0,none⟩)]) ∧
   (cv'.ownBlock = cv.ownBlock ∨ ∃ b,cv'.ownBlock = some b ∧ w.heap.size ≤ b) ∧ Kept (fun q => q = P ∨ q = H ∨ cv.ownBlock = some q) w w' := by
 obtain ⟨i0,hi,hz0,hz1,hz2⟩ := info_parts Tryz.info202
 obtain ⟨ao,c,rfl⟩ := slice_of ho
 have rP := row_node ho hP
 have rH := row_node ho hH
 obtain ⟨h0,h1,h2,h3⟩ := quad_cells hH
 obtain ⟨p0,p1,p2,p3⟩ := quad_cells hP
 have f1 := quad_free hH 1
 have lP := lt_of_block hP
 have lH := lt_of_block hH
 have hne' : H ≠ P := Ne.symm hne
 have HP := hid hP
 have HH := hid hH
 have O1 := hid (ownsRow_setCell_other ho (a := ⟨H,1,none⟩) rH (.pointer (some ⟨P,0,none⟩)))
 clear ho hP hH h0 h2 h3 p0 p1 p2
 go_enter Tryz.func102,Tryz.ntmps102
 go_wp2_with (at_builtin; refine wpList_append_lies _ rfl (.tmp 12) (.tmp 14) 151 rfl B 202 i0 _ 1 8 Tryz.underlying151 hi hz0 hz1 hz2 rfl (by decide) _ _ _ rfl (O1.out.alloc _) ⟨w.heap.size,0,none⟩ 1 1 [.pointer (some ⟨H,0,none⟩)] rfl rfl (by simpa using news_one (w.setCell ⟨H,1,none⟩ (.pointer (some ⟨P,0,none⟩))) (.pointer (some ⟨H,0,none⟩)) 202) (by intro u hu; simp at hu; subst hu; rfl) (by omega) (by unfold maxLen; omega) (by omega) (by simp; omega) (w.heap.size + 1) (by simp) ?_)
 intro g cap' w2 hown hgrow hat hlt
 have bP : w2.heap[P]? = some (.cells #[a0,a1,a2,.slice ao kn c] 204 (0,0)) := by
  rw [grown_block hgrow (by simp; omega) rP,heap_alloc_old _ _ (by simpa using lP),heap_setCell_other _ _ _ _ (by simpa using hne)]
  exact HP.out
 have bH : w2.heap[H]? = some (.cells #[c0,.pointer (some ⟨P,0,none⟩),c2,c3] 204 (0,0)) := by
  rw [grown_block hgrow (by simp; omega) rH,heap_alloc_old _ _ (by simpa using lH),heap_setCell_same w H 1 _ _ _ HH.out]
  simp
 obtain ⟨_,_,_,q3⟩ := quad_cells bP
 have f3 := quad_free bP 3
 have rg : (Value.slice (some ⟨g,0,none⟩) (kn + 1) cap').ownBlock ≠ some P := row_node hown bP
 have O2 := hid (ownsRow_setCell_other hown (a := ⟨P,3,none⟩) rg (.slice (some ⟨g,0,none⟩) (kn + 1) cap'))
 have BP := hid bP
 have BH := hid bH
 have G := hid hgrow
 have AT := hid hat
 clear hown hgrow bP bH hat rg
 go_wp2
 go_end0
 refine ⟨rfl,.slice (some ⟨g,0,none⟩) (kn + 1) cap',?_,?_,O2.out,?_,?_⟩
 ·rw [heap_setCell_same _ P 3 _ _ _ BP.out]; simp
 ·rw [heap_setCell_other _ _ _ _ (by simpa using hne')]; exact BH.out
 ·rcases AT.out with h | h
  ·exact .inl h.symm
  ·exact .inr ⟨g,rfl,by omega⟩
 ·have hsz := G.out.size
  simp at hsz
  refine ⟨G.out.os,G.out.tape,G.out.output,by simp; omega,fun q hq hx => ?_⟩
  have x1 : q ≠ P := fun e => hx (.inl e)
  have x2 : q ≠ H := fun e => hx (.inr (.inl e))
  have x3 : (Value.slice ao kn c).ownBlock ≠ some q := fun e => hx (.inr (.inr e))
  rw [heap_setCell_other _ _ _ _ (by simpa using x1),grown_block G.out (by simp; omega) x3,heap_alloc_old _ _ (by simpa using hq),heap_setCell_other _ _ _ _ (by simpa using x2)]
set_option maxHeartbeats 800000 in
theorem setInitial_any (N : Nat → Nat) (l : List Nat) (P B : Nat) (a0 a1 a2 cv : Value) (iv : Int) (w : World) (hP : w.heap[P]? = some (.cells #[a0,a1,a2,cv] 204 (0,0))) (ho : w.ownsRow B 202 1 cv l.length (ptrs N l)) (hk : l.length ≤ 300)
  (hx : ∀ x,x ∈ l → w.cell? ⟨N x,0,none⟩ = some (.int .i64 (x : Int))) (ha2 : ∃ p,a2 = .pointer p) :
  Calls Tryz.prog 104 #[.pointer (some ⟨P,0,none⟩),.int .i64 iv] w fun e w' =>
   (∃ x,x ∈ l ∧ (x : Int) = iv ∧ e = .returned (.bool true) ∧ w' = w.setCell ⟨P,2,none⟩ (.pointer (some ⟨N x,0,none⟩))) ∨
   ((∀ x,x ∈ l → ¬ (x : Int) = iv) ∧ e = .returned (.bool (decide (l = []) && decide (iv = -1))) ∧ w' = w) := by
 obtain ⟨ao,c,rfl⟩ := slice_of ho
 obtain ⟨p2,rfl⟩ := ha2
 obtain ⟨p0,p1,p2',p3⟩ := quad_cells hP
 have f2 := quad_free hP 2
 have HC : Hid (∀ k,k < l.length → ∃ g,ao = some ⟨g,0,none⟩ ∧ w.cell? ⟨g,k,none⟩ = some (.pointer (some ⟨N (l.getD k 0),0,none⟩))) := hid (by
  intro k hk
  obtain ⟨g,cap,e,_,h3⟩ := World.ownsRow.form ho (by omega)
  simp at e
  obtain ⟨rfl,rfl⟩ := e
  refine ⟨g,rfl,?_⟩
  rw [World.ownsRow.cellAt ho k (by omega)]
  simp [ptrs,List.getD_eq_getElem?_getD,hk])
 have HX := hid hx
 obtain ⟨m,hm⟩ : ∃ m,m = l.length := ⟨_,rfl⟩
 have HM := hid hm
 rw [← hm] at p3 hk
 clear ho hx hP p0 p1
 go_enter Tryz.func104,Tryz.ntmps104
 go_wp2
 go_loopw [12] (fun i wr => wr = w ∧ ∃ a : Nat,a ≤ m ∧ i = .int .i64 a ∧ Hid (∀ q,q < a → ¬ ((l.getD q 0 : Nat) : Int) = iv)) (fun i _ => m - (intOf i).toNat)
 case atStart => exact ⟨rfl,0,Nat.zero_le _,rfl,hid (fun q h => absurd h (by omega))⟩
 case round =>
  obtain ⟨rfl,a,ha,rfl,HP⟩ := hrel
  by_cases hlt : a < m
  ·obtain ⟨g,rfl,hc⟩ := HC.out a (by rw [← HM.out]; exact hlt)
   obtain ⟨x,ex⟩ : ∃ x,x = l.getD a 0 := ⟨_,rfl⟩
   have hxm : x ∈ l := by rw [ex]; exact getD_mem (by rw [← HM.out]; exact hlt)
   have cx := HX.out x hxm
   rw [← ex] at hc
   have EX := hid ex
   have HXM := hid hxm
   have an : (a : Int) < (m : Int) := by omega
   clear ex hxm
   by_cases e : (x : Int) = iv
   ·subst e
    go_wp2
    go_ret
    exact .inl ⟨x,HXM.out,rfl,rfl,rfl⟩
   ·have e' : ((x : Int) == iv) = false := by simpa using e
    go_wp2
    go_roundw
    case rel =>
     refine ⟨by first | rfl | trivial,a + 1,by omega,by go_num,hid (fun q hq => ?_)⟩
     by_cases eq : q = a
     ·subst eq; rw [← EX.out]; exact e
     ·exact HP.out q (by omega)
    case measure => simp [intOf]; omega
  ·have e : a = m := by omega
   subst e
   have NO : Hid (∀ x,x ∈ l → ¬ (x : Int) = iv) := hid (by
    intro x hx
    obtain ⟨q,hq,eq⟩ := mem_getD hx
    rw [← eq]
    exact HP.out q (by rw [HM.out]; exact hq))
   by_cases h0 : a = 0
   ·have EL : Hid (l = []) := hid (List.eq_nil_of_length_eq_zero (by rw [← HM.out]; exact h0))
    have h0' : ((a : Int) == 0) = true := by simp [h0]
    clear h0
    by_cases h1 : iv = -1
    ·have h1' : (iv == -1) = true := by simp [h1]
     have H1 := hid h1
     clear h1
     go_wp2
     go_ret
     exact .inr ⟨NO.out,ret_bool (by rw [EL.out,H1.out]; rfl),rfl⟩
    ·have h1' : (iv == -1) = false := by simpa using h1
     go_wp2
     go_ret
     exact .inr ⟨NO.out,ret_bool (by simp [h1]),rfl⟩
   ·have h0' : ((a : Int) == 0) = false := by simpa using h0
    have EL : Hid (¬ l = []) := hid (fun e => h0 (by rw [HM.out,e]; rfl))
    go_wp2
    go_ret
    exact .inr ⟨NO.out,ret_bool (by simp [EL.out]),rfl⟩
def cntB (n tn : Nat) (lim : Bool) : Bool := decide (1 ≤ n ∧ n ≤ 200 ∧ tn ≤ 500 ∧ lim = true)
set_option maxHeartbeats 800000 in
theorem countsOK_any (so to : Option Addr) (n sc tn tc : Nat) (o s t v : Int) (w : World) (hn : n ≤ 9223372036854775807) (htn : tn ≤ 9223372036854775807) :
  Calls Tryz.prog 101 #[.agg #[.slice so n sc,.slice to tn tc],.agg #[.int .i64 o,.int .i64 s,.int .i64 t,.int .i64 v]] w fun e w' => e = .returned (.bool (cntB n tn (limB ⟨o,s,t,v⟩))) ∧ Below w.heap.size w w' := by
 obtain ⟨lb,hlb⟩ : ∃ lb,lb = limB ⟨o,s,t,v⟩ := ⟨_,rfl⟩
 have CL : Hid (∀ w,Calls Tryz.prog 125 #[.agg #[.int .i64 o,.int .i64 s,.int .i64 t,.int .i64 v]] w fun e w' => e = .returned (.bool lb) ∧ Below w.heap.size w w') := hid (by rw [hlb]; exact limitsOK_any o s t v)
 rw [← hlb]
 clear hlb
 by_cases h1 : 1 ≤ n
 case neg =>
  have E : Hid (cntB n tn lb = false) := hid (by unfold cntB; rw [decide_eq_false_iff_not]; omega)
  have d : decide ((1 : Int) ≤ (n : Int)) = false := by simp; omega
  rw [E.out]
  go_enter Tryz.func101,Tryz.ntmps101
  go_wp2
  go_ret
  exact ⟨rfl,below2 _ _ _⟩
 have i1 : (1 : Int) ≤ (n : Int) := by omega
 by_cases h2 : n ≤ 200
 case neg =>
  have E : Hid (cntB n tn lb = false) := hid (by unfold cntB; rw [decide_eq_false_iff_not]; omega)
  have d : decide ((n : Int) ≤ 200) = false := by simp; omega
  rw [E.out]
  go_enter Tryz.func101,Tryz.ntmps101
  go_wp2
  go_ret
  exact ⟨rfl,below2 _ _ _⟩
 have i2 : (n : Int) ≤ 200 := by omega
 by_cases h3 : tn ≤ 500
 case neg =>
  have E : Hid (cntB n tn lb = false) := hid (by unfold cntB; rw [decide_eq_false_iff_not]; omega)
  have d : decide ((tn : Int) ≤ 500) = false := by simp; omega
  rw [E.out]
  go_enter Tryz.func101,Tryz.ntmps101
  go_wp2
  go_ret
  exact ⟨rfl,below2 _ _ _⟩
 have i3 : (tn : Int) ≤ 500 := by omega
 have E : Hid (cntB n tn lb = lb) := hid (by unfold cntB; rw [Bool.eq_iff_iff]; simp [h1,h2,h3])
 rw [E.out]
 go_enter Tryz.func101,Tryz.ntmps101
 go_wp2_with (go_at_call 125; refine (CL.out _).mono ?_; rintro e w1 ⟨rfl,hb1⟩; have B1 := hid hb1; clear hb1)
 go_ret
 exact ⟨rfl,(below2 _ _ _).trans (B1.out.mono (by simp; omega))⟩
end Go.Proofs.YtkdgkomnbjepdaaGreatDoor
namespace Go.Proofs.YtkdgkomnbjepdaaGreatDoor
open Go.RowKit Go.Sort
theorem ownsRow_of {w w' : World} {B : Nat} {e : TypeId} {size : Nat} {v : Value} {n : Nat} {xs : List Value} (h : w.ownsRow B e size v n xs) (hb : ∀ b,v.ownBlock = some b → w'.heap[b]? = w.heap[b]?) : w'.ownsRow B e size v n xs := by
 refine ⟨h.1,?_⟩
 rcases h.2 with h0 | ⟨g,cap,cur,h1,h2,h3,h4⟩
 ·exact .inl h0
 ·exact .inr ⟨g,cap,cur,h1,h2,(hb g (by rw [h1]; rfl)).trans h3,h4⟩
structure Forest (w : World) (B : Nat) (N : Nat → Nat) (V I : Nat → Value) (ss : List StD) (m : Nat) : Prop where
 node : ∀ k,k < m → B ≤ N k ∧ w.heap[N k]? = some (.cells #[.int .i64 (k : Int),parV N ss k,I k,V k] 204 (0,0))
 kid : ∀ k,k < m → w.ownsRow B 202 1 (V k) (kids ss m k).length (ptrs N (kids ss m k))
 apart : ∀ k j b,k < m → j < m → (V k).ownBlock = some b → (V j).ownBlock = some b → k = j
structure TreeRow (w : World) (B : Nat) (N : Nat → Nat) (V : Nat → Value) (tv : Value) (m : Nat) : Prop where
 row : w.ownsRow B 202 1 tv m (ptrs N (List.range m))
 apart : ∀ k b,k < m → (V k).ownBlock = some b → tv.ownBlock ≠ some b
theorem Forest.lt {w : World} {B : Nat} {N : Nat → Nat} {V I : Nat → Value} {ss : List StD} {m : Nat} (h : Forest w B N V I ss m) {k : Nat} (hk : k < m) : N k < w.heap.size := lt_of_block (h.node k hk).2
theorem Forest.nodes {w : World} {B : Nat} {N : Nat → Nat} {V I : Nat → Value} {ss : List StD} {m : Nat} (h : Forest w B N V I ss m) : Nodes w N ss m := fun k hk => by
 obtain ⟨c0,c1,_,_⟩ := quad_cells (h.node k hk).2
 exact ⟨h.lt hk,c0,c1⟩
theorem Forest.nodeB {w : World} {B : Nat} {N : Nat → Nat} {V I : Nat → Value} {ss : List StD} {m : Nat} (h : Forest w B N V I ss m) : NodeB w N m := fun k hk => ⟨_,(h.node k hk).2⟩
theorem Forest.inj {w : World} {B : Nat} {N : Nat → Nat} {V I : Nat → Value} {ss : List StD} {m : Nat} (h : Forest w B N V I ss m) {i j : Nat} (hi : i < m) (hj : j < m) (e : N i = N j) : i = j := h.nodes.inj hi hj e
theorem Forest.keep {w w' : World} {B : Nat} {N : Nat → Nat} {V I : Nat → Value} {ss : List StD} {m : Nat} (h : Forest w B N V I ss m) (hk : ∀ k,k < m → w'.heap[N k]? = w.heap[N k]?) (hv : ∀ k b,k < m → (V k).ownBlock = some b → w'.heap[b]? = w.heap[b]?) : Forest w' B N V I ss m :=
 ⟨fun k hk' => ⟨(h.node k hk').1,(hk k hk').trans (h.node k hk').2⟩,fun k hk' => ownsRow_of (h.kid k hk') (fun b e => hv k b hk' e),h.apart⟩
theorem Forest.below {w w' : World} {B : Nat} {N : Nat → Nat} {V I : Nat → Value} {ss : List StD} {m : Nat} (h : Forest w B N V I ss m) (hb : Below w.heap.size w w') : Forest w' B N V I ss m :=
 h.keep (fun _ hk => hb.block _ (h.lt hk)) (fun k b hk e => hb.block _ ((h.kid k hk).lt b e).2)
theorem TreeRow.below {w w' : World} {B : Nat} {N : Nat → Nat} {V : Nat → Value} {tv : Value} {m : Nat} (h : TreeRow w B N V tv m) (hb : Below w.heap.size w w') : TreeRow w' B N V tv m := ⟨ownsRow_below h.row hb,h.apart⟩
theorem row_away {w : World} {B : Nat} {v : Value} {n : Nat} {xs : List Value} (h : w.ownsRow B 202 1 v n xs) {H : Nat} {cs : Array Value} {t : TypeId} (ht : t ≠ 202) (hH : w.heap[H]? = some (.cells cs t (0,0))) : v.ownBlock ≠ some H := by
 intro e
 rcases h.2 with ⟨h0,_⟩ | ⟨g,cap,cur,h1,h2,h3,h4⟩
 ·rw [h0] at e; cases e
 ·rw [h1] at e
  simp [Value.ownBlock] at e
  subst e
  rw [hH] at h3
  simp at h3
  exact ht h3.2
def upN (N : Nat → Nat) (m H : Nat) : Nat → Nat := fun k => if k = m then H else N k
theorem upN_lt {N : Nat → Nat} {m H k : Nat} (h : k < m) : upN N m H k = N k := if_neg (by omega)
theorem upN_at (N : Nat → Nat) (m H : Nat) : upN N m H m = H := if_pos rfl
theorem ptrs_upN {N : Nat → Nat} {m H : Nat} {l : List Nat} (h : ∀ x,x ∈ l → x < m) : ptrs (upN N m H) l = ptrs N l := by
 unfold ptrs
 apply List.map_congr_left
 intro x hx
 rw [upN_lt (h x hx)]
theorem kids_lt {ss : List StD} {m k x : Nat} (h : x ∈ kids ss m k) : x < m := (mem_kids.1 h).1
theorem range_upN {N : Nat → Nat} {m H : Nat} : ptrs (upN N m H) (List.range (m + 1)) = ptrs N (List.range m) ++ [.pointer (some ⟨H,0,none⟩)] := by
 rw [List.range_succ]
 have h : ptrs (upN N m H) (List.range m) = ptrs N (List.range m) := ptrs_upN (fun x hx => List.mem_range.1 hx)
 unfold ptrs at h ⊢
 rw [List.map_append,h]
 simp [upN_at]
theorem forest_first {w : World} {B H : Nat} {ss : List StD} {N : Nat → Nat} {V : Nat → Value} (hB : B ≤ H) (h0 : par ss 0 = -1) (hH : w.heap[H]? = some (.cells #[.int .i64 0,.pointer none,.pointer none,.slice none 0 0] 204 (0,0))) :
  Forest w B (upN N 0 H) (fun k => if k = 0 then .slice none 0 0 else V k) (fun _ => .pointer none) ss 1 := by
 have hk : kids ss 1 0 = [] := by
  rw [List.eq_nil_iff_forall_not_mem]
  intro x hx
  obtain ⟨h1,h2⟩ := mem_kids.1 hx
  have : x = 0 := by omega
  subst this
  rw [h0] at h2
  omega
 refine ⟨fun k hk' => ?_,fun k hk' => ?_,fun k j b h1 h2 _ _ => by omega⟩
 ·have : k = 0 := by omega
  subst this
  exact ⟨by rw [upN_at]; exact hB,by rw [upN_at]; exact hH⟩
 ·have : k = 0 := by omega
  subst this
  rw [hk]
  exact World.ownsRow_nil _ _ _ _
theorem forest_next {w w2 : World} {B H p m : Nat} {ss : List StD} {N : Nat → Nat} {V : Nat → Value} {cv' : Value} (h : Forest w B N V (fun _ => .pointer none) ss m) (hT : ∀ i,0 < i → i < m → 0 ≤ par ss i ∧ par ss i < i) (h0 : par ss 0 = -1) (hm : 0 < m) (hp : par ss m = p) (hpm : p < m) (hBH : B ≤ H)
  (hHn : ∀ k,k < m → N k ≠ H)
  (hP2 : w2.heap[N p]? = some (.cells #[.int .i64 (p : Int),parV N ss p,.pointer none,cv'] 204 (0,0)))
  (hH2 : w2.heap[H]? = some (.cells #[.int .i64 (m : Int),.pointer (some ⟨N p,0,none⟩),.pointer none,.slice none 0 0] 204 (0,0)))
  (ho : w2.ownsRow B 202 1 cv' ((kids ss m p).length + 1) (ptrs N (kids ss m p) ++ [.pointer (some ⟨H,0,none⟩)]))
  (hcv : cv'.ownBlock = (V p).ownBlock ∨ ∃ b,cv'.ownBlock = some b ∧ w.heap.size ≤ b)
  (hH1 : w.heap[H]? = some (.cells #[.int .i64 (m : Int),.pointer none,.pointer none,.slice none 0 0] 204 (0,0)))
  (hk : Kept (fun q => q = N p ∨ q = H ∨ (V p).ownBlock = some q) w w2) :
  Forest w2 B (upN N m H) (fun k => if k = m then .slice none 0 0 else if k = p then cv' else V k) (fun _ => .pointer none) ss (m + 1) := by
 have hpar : ∀ k,k < m → parV (upN N m H) ss k = parV N ss k := by
  intro k hk'
  unfold parV
  by_cases e : k = 0
  ·rw [if_pos e,if_pos e]
  ·have := hT k (by omega) hk'
   rw [if_neg e,if_neg e,upN_lt (by omega)]
 have hold : ∀ k,k < m → k ≠ p → w2.heap[N k]? = w.heap[N k]? := by
  intro k hk' hne
  refine hk.block _ (h.lt hk') ?_
  rintro (e | e | e)
  ·exact hne (h.inj hk' hpm e)
  ·exact hHn k hk' e
  ·exact row_node (h.kid p hpm) (h.node k hk').2 e
 refine ⟨fun k hk' => ?_,fun k hk' => ?_,fun k j b h1 h2 e1 e2 => ?_⟩
 ·by_cases e : k = m
  ·subst e
   refine ⟨by rw [upN_at]; exact hBH,?_⟩
   rw [upN_at,hH2,if_pos rfl]
   have : parV (upN N k H) ss k = .pointer (some ⟨N p,0,none⟩) := by
    unfold parV
    rw [if_neg (by omega),hp,Int.toNat_natCast,upN_lt hpm]
   rw [this]
  ·have hkm : k < m := by omega
   refine ⟨by rw [upN_lt hkm]; exact (h.node k hkm).1,?_⟩
   rw [upN_lt hkm,hpar k hkm,if_neg e]
   by_cases e2 : k = p
   ·subst e2; rw [if_pos rfl]; exact hP2
   ·rw [if_neg e2,hold k hkm e2]; exact (h.node k hkm).2
 ·by_cases e : k = m
  ·subst e
   have hk0 : kids ss (k + 1) k = [] := by
    rw [List.eq_nil_iff_forall_not_mem]
    intro x hx
    obtain ⟨h1,h2⟩ := mem_kids.1 hx
    by_cases x0 : x = 0
    ·subst x0; rw [h0] at h2; omega
    ·by_cases xm : x = k
     ·subst xm; omega
     ·have := hT x (by omega) (by omega); omega
   rw [hk0,if_pos rfl]
   exact World.ownsRow_nil _ _ _ _
  ·have hkm : k < m := by omega
   rw [if_neg e,kids_succ,hp]
   by_cases e2 : k = p
   ·subst e2
    rw [if_pos rfl,if_pos rfl]
    have e3 : ptrs (upN N m H) (kids ss m k ++ [m]) = ptrs N (kids ss m k) ++ [.pointer (some ⟨H,0,none⟩)] := by
     have h1 : ptrs (upN N m H) (kids ss m k) = ptrs N (kids ss m k) := ptrs_upN (fun x hx => kids_lt hx)
     unfold ptrs at h1 ⊢
     rw [List.map_append,h1]
     simp [upN_at]
    rw [e3,List.length_append]
    exact ho
   ·rw [if_neg e2,if_neg (by omega),ptrs_upN (fun x hx => kids_lt hx)]
    refine ownsRow_of (h.kid k hkm) (fun b eb => hk.block b ((h.kid k hkm).lt b eb).2 ?_)
    rintro (e4 | e4 | e4)
    ·subst e4; exact row_node (h.kid k hkm) (h.node p hpm).2 eb
    ·subst e4; exact row_node (h.kid k hkm) hH1 eb
    ·exact e2 (h.apart k p b hkm hpm eb e4)
 ·by_cases ek : k = m
  ·simp [ek,Value.ownBlock] at e1
  ·by_cases ej : j = m
   ·simp [ej,Value.ownBlock] at e2
   ·have hkm : k < m := by omega
    have hjm : j < m := by omega
    simp only [ek,ej,if_false] at e1 e2
    by_cases ekp : k = p
    ·by_cases ejp : j = p
     ·rw [ekp,ejp]
     ·simp only [ekp,ejp,if_true,if_false] at e1 e2
      rcases hcv with h5 | ⟨b',h5,h6⟩
      ·rw [h5] at e1
       exact (ejp (h.apart j p b hjm hpm e2 e1)).elim
      ·rw [h5] at e1
       have := ((h.kid j hjm).lt b e2).2
       simp at e1
       omega
    ·by_cases ejp : j = p
     ·simp only [ekp,ejp,if_true,if_false] at e1 e2
      rcases hcv with h5 | ⟨b',h5,h6⟩
      ·rw [h5] at e2
       exact (ekp (h.apart k p b hkm hpm e1 e2)).elim
      ·rw [h5] at e2
       have := ((h.kid k hkm).lt b e1).2
       simp at e2
       omega
     ·simp only [ekp,ejp,if_false] at e1 e2
      exact h.apart k j b hkm hjm e1 e2
theorem tree_next {w w3 : World} {B H g cap m : Nat} {ss : List StD} {N : Nat → Nat} {V : Nat → Value} {tv : Value} {lit : Obj} (h : Forest w B (upN N m H) V (fun _ => .pointer none) ss (m + 1))
  (ht : w.ownsRow B 202 1 tv m (ptrs N (List.range m))) (ha : ∀ k b,k < m + 1 → (V k).ownBlock = some b → tv.ownBlock ≠ some b)
  (hown : w3.ownsRow B 202 1 (.slice (some ⟨g,0,none⟩) (m + 1) cap) (m + 1) (ptrs N (List.range m) ++ [.pointer (some ⟨H,0,none⟩)])) (hgrow : (w.alloc lit).grownBy w3 tv.ownBlock)
  (hat : tv.ownBlock = some g ∨ g = w.heap.size + 1) :
  Forest w3 B (upN N m H) V (fun _ => .pointer none) ss (m + 1) ∧ TreeRow w3 B (upN N m H) V (.slice (some ⟨g,0,none⟩) (m + 1) cap) (m + 1) := by
 have same : ∀ q,q < w.heap.size → tv.ownBlock ≠ some q → w3.heap[q]? = w.heap[q]? := fun q hq hne => by
  rw [grown_block hgrow (by simp; omega) hne,heap_alloc_old _ _ hq]
 refine ⟨h.keep (fun k hk => same _ (h.lt hk) ?_) (fun k b hk e => same b ((h.kid k hk).lt b e).2 (ha k b hk e)),⟨by rw [range_upN]; exact hown,fun k b hk e => ?_⟩⟩
 ·exact row_node ht (h.node k hk).2
 ·intro e2
  simp [Value.ownBlock] at e2
  subst e2
  rcases hat with h1 | h1
  ·exact ha k g hk e h1
  ·have := ((h.kid k hk).lt g e).2
   omega
theorem forest_initial {w : World} {B i x : Nat} {ss : List StD} {N : Nat → Nat} {V I : Nat → Value} {m : Nat} (h : Forest w B N V I ss m) (hi : i < m) :
  Forest (w.setCell ⟨N i,2,none⟩ (.pointer (some ⟨N x,0,none⟩))) B N V (fun k => if k = i then .pointer (some ⟨N x,0,none⟩) else I k) ss m := by
 refine ⟨fun k hk => ⟨(h.node k hk).1,?_⟩,fun k hk => ownsRow_of (h.kid k hk) (fun b e => heap_setCell_other _ _ _ _ ?_),h.apart⟩
 ·by_cases e : k = i
  ·subst e
   rw [heap_setCell_same w _ 2 _ _ _ (h.node k hk).2]
   simp
  ·rw [heap_setCell_other _ _ _ _ (by simpa using fun e2 => e (h.inj hk hi e2)),(h.node k hk).2]
   simp [e]
 ·rintro rfl
  exact row_node (h.kid k hk) (h.node i hi).2 e
theorem Forest.congrI {w : World} {B : Nat} {N : Nat → Nat} {V I J : Nat → Value} {ss : List StD} {m : Nat} (h : Forest w B N V I ss m) (e : ∀ k,k < m → I k = J k) : Forest w B N V J ss m :=
 ⟨fun k hk => by rw [← e k hk]; exact h.node k hk,h.kid,h.apart⟩
end Go.Proofs.YtkdgkomnbjepdaaGreatDoor
namespace Go.Proofs.YtkdgkomnbjepdaaGreatDoor
open Go.RowKit Go.Sort
attribute [local go_sem ↓] Go.wp_at_zero Go.wp_at_succ
def TreeAt (w w' : World) (tv : Value) (N : Nat → Nat) (ss : List StD) : Prop := NodesI w' N ss ss.length ∧ NodeB w' N ss.length ∧ w'.ownsRow w.heap.size 202 1 tv ss.length (ptrs N (List.range ss.length))
def LiftRes (w : World) (ss : List StD) (f : Int × Int) (e : Ending) (w' : World) : Prop :=
 Below w.heap.size w w' ∧ ((¬ f.1 = 0 ∧ e = .returned (.tuple #[.slice none 0 0,.int .i64 f.1,.int .i64 f.2])) ∨ (f = (0,0) ∧ ∃ N tv,e = .returned (.tuple #[tv,.int .i64 0,.int .i64 0]) ∧ TreeAt w w' tv N ss))
theorem forest_new {w : World} {st nd : Obj} {B : Nat} {N : Nat → Nat} {V I : Nat → Value} {ss : List StD} {m : Nat} (h : Forest w B N V I ss m) : Forest ((w.alloc st).alloc nd) B N V I ss m := h.below (below2 _ _ _)
structure Inv1 (w wr : World) (cs : Array Value) (N : Nat → Nat) (V : Nat → Value) (tv : Value) (ss : List StD) (m : Nat) : Prop where
 forest : Forest wr w.heap.size N V (fun _ => .pointer none) ss m
 tree : TreeRow wr w.heap.size N V tv m
 box : wr.heap[w.heap.size]? = some (.cells cs 64 (0,0))
 below : Below w.heap.size w wr
 good : ∀ j,j < m → badP ss j = false
structure Inv3 (w wr : World) (cs : Array Value) (N : Nat → Nat) (V : Nat → Value) (tv : Value) (ss : List StD) (p : Nat) : Prop where
 forest : Forest wr w.heap.size N V (fun k => if k < p then iniV N ss k else .pointer none) ss ss.length
 tree : TreeRow wr w.heap.size N V tv ss.length
 box : wr.heap[w.heap.size]? = some (.cells cs 64 (0,0))
 below : Below w.heap.size w wr
 good : ∀ j,j < p → badI ss j = false
theorem inv3_same {w wr : World} {cs : Array Value} {N : Nat → Nat} {V : Nat → Value} {tv : Value} {ss : List StD} {p : Nat} (h : Inv3 w wr cs N V tv ss p) (hneg : ini ss p = -1) (hg : badI ss p = false) : Inv3 w wr cs N V tv ss (p + 1) := by
 refine ⟨h.forest.congrI (fun k _ => ?_),h.tree,h.box,h.below,fun j hj => ?_⟩
 ·by_cases e : k = p
  ·subst e
   rw [if_neg (by omega),if_pos (by omega),iniV,if_pos (by omega)]
  ·by_cases e2 : k < p
   ·rw [if_pos e2,if_pos (by omega)]
   ·rw [if_neg e2,if_neg (by omega)]
 ·by_cases e : j = p
  ·subst e; exact hg
  ·exact h.good j (by omega)
theorem inv3_set {w wr : World} {cs : Array Value} {N : Nat → Nat} {V : Nat → Value} {tv : Value} {ss : List StD} {p x : Nat} (h : Inv3 w wr cs N V tv ss p) (hp : p < ss.length) (hx : (x : Int) = ini ss p) (hg : badI ss p = false) : Inv3 w (wr.setCell ⟨N p,2,none⟩ (.pointer (some ⟨N x,0,none⟩))) cs N V tv ss (p + 1) := by
 have hb := (h.forest.node p hp).1
 refine ⟨(forest_initial (x := x) h.forest hp).congrI (fun k _ => ?_),⟨ownsRow_of h.tree.row (fun q e => heap_setCell_other _ _ _ _ ?_),h.tree.apart⟩,?_,h.below.setCell hb _,fun j hj => ?_⟩
 ·by_cases e : k = p
  ·subst e
   rw [if_pos rfl,if_pos (by omega),iniV,if_neg (by omega),← hx,Int.toNat_natCast]
  ·rw [if_neg e]
   by_cases e2 : k < p
   ·rw [if_pos e2,if_pos (by omega)]
   ·rw [if_neg e2,if_neg (by omega)]
 ·rintro rfl
  exact row_node h.tree.row (h.forest.node p hp).2 e
 ·rw [heap_setCell_other _ _ _ _ ?_]
  ·exact h.box
  ·intro e
   have h7 := (h.forest.node p hp).2
   rw [← show w.heap.size = N p from e,h.box] at h7
   simp at h7
 ·by_cases e : j = p
  ·subst e; exact hg
  ·exact h.good j (by omega)
theorem inv_tail {w w2 w3 : World} {lit : Obj} {cs : Array Value} {N : Nat → Nat} {V : Nat → Value} {tv : Value} {ss : List StD} {m H g cap : Nat} (F : Forest w2 w.heap.size (upN N m H) V (fun _ => .pointer none) ss (m + 1))
  (ht : w2.ownsRow w.heap.size 202 1 tv m (ptrs N (List.range m))) (ha : ∀ k b,k < m + 1 → (V k).ownBlock = some b → tv.ownBlock ≠ some b)
  (box : w2.heap[w.heap.size]? = some (.cells cs 64 (0,0))) (below : Below w.heap.size w w2) (good : ∀ j,j < m + 1 → badP ss j = false)
  (hown : w3.ownsRow w.heap.size 202 1 (.slice (some ⟨g,0,none⟩) (m + 1) cap) (m + 1) (ptrs N (List.range m) ++ [.pointer (some ⟨H,0,none⟩)])) (hgrow : (w2.alloc lit).grownBy w3 tv.ownBlock) (hat : tv.ownBlock = some g ∨ g = w2.heap.size + 1) :
  Inv1 w w3 cs (upN N m H) V (.slice (some ⟨g,0,none⟩) (m + 1) cap) ss (m + 1) := by
 obtain ⟨h1,h2⟩ := tree_next F ht ha hown hgrow hat
 refine ⟨h1,h2,?_,(below.alloc below.size lit).grown hgrow (by have := below.size; simp; omega) (fun kk e => (ht.lt kk e).1),good⟩
 have hl := lt_of_block box
 rw [grown_block hgrow (by simp; omega) (row_away ht (by decide) box),heap_alloc_old _ _ hl]
 exact box
theorem inv_first {w wr w3 : World} {st lit : Obj} {cs : Array Value} {N : Nat → Nat} {V : Nat → Value} {tv : Value} {ss : List StD} {g cap : Nat} (h : Inv1 w wr cs N V tv ss 0) (h0 : par ss 0 = -1)
  (hown : w3.ownsRow w.heap.size 202 1 (.slice (some ⟨g,0,none⟩) (0 + 1) cap) (0 + 1) (ptrs N (List.range 0) ++ [.pointer (some ⟨wr.heap.size + 1,0,none⟩)]))
  (hgrow : (((wr.alloc st).alloc (.cells #[.int .i64 0,.pointer none,.pointer none,.slice none 0 0] 204)).alloc lit).grownBy w3 tv.ownBlock) (hat : tv.ownBlock = some g ∨ g = wr.heap.size + 1 + 1 + 1) :
  Inv1 w w3 cs (upN N 0 (wr.heap.size + 1)) (fun k => if k = 0 then .slice none 0 0 else V k) (.slice (some ⟨g,0,none⟩) (0 + 1) cap) ss (0 + 1) := by
 have hsz := h.below.size
 have hl := lt_of_block h.box
 refine inv_tail (w2 := (wr.alloc st).alloc (.cells #[.int .i64 0,.pointer none,.pointer none,.slice none 0 0] 204)) ?_ (ownsRow_below h.tree.row (below2 _ _ _)) ?_ (block_below h.box (below2 _ _ _)) (h.below.trans ((below2 _ _ _).mono hsz)) ?_ hown hgrow (by simpa using hat)
 ·exact forest_first (by omega) h0 (by have := heap_alloc_new (wr.alloc st) (.cells #[.int .i64 0,.pointer none,.pointer none,.slice none 0 0] 204); simpa using this)
 ·intro k b hk e
  have : k = 0 := by omega
  subst this
  simp [Value.ownBlock] at e
 ·intro j hj
  have : j = 0 := by omega
  subst this
  simp [badP,h0]
theorem inv_next {w wr w2 w3 : World} {st lit : Obj} {cs : Array Value} {N : Nat → Nat} {V : Nat → Value} {tv cv' : Value} {ss : List StD} {m p g cap : Nat} (h : Inv1 w wr cs N V tv ss m) (hm : 0 < m) (hp : par ss m = p) (hpm : p < m)
  (hP2 : w2.heap[N p]? = some (.cells #[.int .i64 (p : Int),parV N ss p,.pointer none,cv'] 204 (0,0)))
  (hH2 : w2.heap[wr.heap.size + 1]? = some (.cells #[.int .i64 (m : Int),.pointer (some ⟨N p,0,none⟩),.pointer none,.slice none 0 0] 204 (0,0)))
  (ho : w2.ownsRow w.heap.size 202 1 cv' ((kids ss m p).length + 1) (ptrs N (kids ss m p) ++ [.pointer (some ⟨wr.heap.size + 1,0,none⟩)]))
  (hcv : cv'.ownBlock = (V p).ownBlock ∨ ∃ b,cv'.ownBlock = some b ∧ ((wr.alloc st).alloc (.cells #[.int .i64 (m : Int),.pointer none,.pointer none,.slice none 0 0] 204)).heap.size ≤ b)
  (hk : Kept (fun q => q = N p ∨ q = wr.heap.size + 1 ∨ (V p).ownBlock = some q) ((wr.alloc st).alloc (.cells #[.int .i64 (m : Int),.pointer none,.pointer none,.slice none 0 0] 204)) w2)
  (hown : w3.ownsRow w.heap.size 202 1 (.slice (some ⟨g,0,none⟩) (m + 1) cap) (m + 1) (ptrs N (List.range m) ++ [.pointer (some ⟨wr.heap.size + 1,0,none⟩)]))
  (hgrow : (w2.alloc lit).grownBy w3 tv.ownBlock) (hat : tv.ownBlock = some g ∨ g = w2.heap.size + 1) :
  Inv1 w w3 cs (upN N m (wr.heap.size + 1)) (fun k => if k = m then .slice none 0 0 else if k = p then cv' else V k) (.slice (some ⟨g,0,none⟩) (m + 1) cap) ss (m + 1) := by
 have hsz := h.below.size
 have hl := lt_of_block h.box
 have hg := h.good
 have h00 : par ss 0 = -1 := by have := hg 0 hm; simpa [badP] using this
 have hT : ∀ i,0 < i → i < m → 0 ≤ par ss i ∧ par ss i < i := by
  intro i hi hl
  have := hg i hl
  rw [badP,if_neg (by omega)] at this
  simpa using this
 have hbox1 := block_below h.box (below2 wr st (.cells #[.int .i64 (m : Int),.pointer none,.pointer none,.slice none 0 0] 204))
 have hF1 : Forest ((wr.alloc st).alloc (.cells #[.int .i64 (m : Int),.pointer none,.pointer none,.slice none 0 0] 204)) w.heap.size N V (fun _ => .pointer none) ss m := forest_new h.forest
 have hrow1 := ownsRow_below h.tree.row (below2 wr st (.cells #[.int .i64 (m : Int),.pointer none,.pointer none,.slice none 0 0] 204))
 have F := forest_next (H := wr.heap.size + 1) hF1 hT h00 hm hp hpm (by omega) (fun k hk' e => by have := h.forest.lt hk'; omega) hP2 hH2 ho hcv (by have := heap_alloc_new (wr.alloc st) (.cells #[.int .i64 (m : Int),.pointer none,.pointer none,.slice none 0 0] 204); simpa using this) hk
 refine inv_tail F ?_ ?_ ?_ (Below.trans (h.below.trans ((below2 _ _ _).mono hsz)) (hk.below (by simp; omega) ?_)) ?_ hown hgrow hat
 ·refine ownsRow_of hrow1 (fun b e => hk.block b (hrow1.lt b e).2 ?_)
  rintro (e4 | e4 | e4)
  ·subst e4; exact row_node hrow1 (hF1.node p hpm).2 e
  ·have := (h.tree.row.lt b e).2; omega
  ·exact h.tree.apart p b hpm e4 e
 ·intro k b hk' e
  by_cases ek : k = m
  ·simp [ek,Value.ownBlock] at e
  ·simp only [ek,if_false] at e
   by_cases ep : k = p
   ·simp only [ep,if_true] at e
    rcases hcv with h5 | ⟨b',h5,h6⟩
    ·rw [h5] at e; exact h.tree.apart p b hpm e
    ·rw [h5] at e
     simp at e h6
     intro e6
     have := (h.tree.row.lt b e6).2
     omega
   ·simp only [ep,if_false] at e
    exact h.tree.apart k b (by omega) e
 ·rw [hk.block _ (lt_of_block hbox1) ?_]
  ·exact hbox1
  ·rintro (e4 | e4 | e4)
   ·have h7 := (hF1.node p hpm).2
    rw [← e4,hbox1] at h7
    simp at h7
   ·omega
   ·exact row_away (hF1.kid p hpm) (by decide) hbox1 e4
 ·rintro q (e4 | e4 | e4)
  ·rw [e4]; exact (h.forest.node p hpm).1
  ·omega
  ·exact ((h.forest.kid p hpm).lt q e4).1
 ·intro j hj
  by_cases ej : j = m
  ·subst ej
   rw [badP,if_neg (by omega),hp]
   simp
   omega
  ·exact hg j (by omega)
set_option maxRecDepth 100000 in
set_option maxHeartbeats 6400000 in
theorem liftTree_any (so to : Option Addr) (n sc tn tc : Nat) (ss : List StD) (o s t v : Int) (w : World) (hn : n ≤ 9223372036854775807) (htn : tn ≤ 9223372036854775807) (hs : StatesOf w so n ss) :
  Calls Tryz.prog 73 #[.agg #[.slice so n sc,.slice to tn tc],.agg #[.int .i64 o,.int .i64 s,.int .i64 t,.int .i64 v]] w (LiftRes w ss (faultOf ss tn (limB ⟨o,s,t,v⟩))) := by
 have HL := hid hs.1
 have CC := hid (countsOK_any so to n sc tn tc o s t v ((w.alloc (.cells #[.slice so n sc,.slice to tn tc] 64)).alloc (.cells #[.int .i64 o,.int .i64 s,.int .i64 t,.int .i64 v] 81)) hn htn)
 obtain ⟨lb,hlb⟩ : ∃ lb,lb = limB ⟨o,s,t,v⟩ := ⟨_,rfl⟩
 rw [← hlb] at CC ⊢
 obtain ⟨cb,hcb⟩ : ∃ cb,cb = cntB n tn lb := ⟨_,rfl⟩
 rw [← hcb] at CC
 have HCB := hid hcb
 clear hlb hcb
 cases cb with
 | false =>
  have E : Hid (faultOf ss tn lb = (1,0)) := hid (fault_count (by
   have := HCB.out
   unfold cntB at this
   have := of_decide_eq_false this.symm
   rw [HL.out]
   exact this))
  clear hs
  go_enter Tryz.func73,Tryz.ntmps73
  go_wp2_with (go_at_call 101; refine CC.out.mono ?_; rintro e w1 ⟨rfl,hb1⟩; have B1 := hid hb1; clear hb1)
  go_ret3
  rw [E.out]
  exact ⟨(below2 _ _ _).trans (B1.out.mono (by simp; omega)),.inl ⟨by simp,rfl⟩⟩
 | true =>
  obtain ⟨n1,n2,h500,hlb⟩ : 1 ≤ n ∧ n ≤ 200 ∧ tn ≤ 500 ∧ lb = true := by have := HCB.out; unfold cntB at this; exact of_decide_eq_true this.symm
  subst hlb
  have HC : Hid (CntOK ss tn true) := hid (by unfold CntOK; rw [HL.out]; exact ⟨n1,n2,h500,rfl⟩)
  obtain ⟨b,off,rfl,hbl,hc⟩ := hs.2 (by omega)
  have HA := hid hc
  obtain ⟨i0,hi,hz0,hz1,hz2⟩ := info_parts Tryz.info202
  obtain ⟨cs,hcs⟩ : ∃ cs : Array Value,cs = #[.slice (some ⟨b,off,none⟩) n sc,.slice to tn tc] := ⟨_,rfl⟩
  have HCS := hid hcs
  clear hs hc hcs
  go_enter Tryz.func73,Tryz.ntmps73
  go_wp2_with (go_at_call 101; refine CC.out.mono ?_; rintro e w1 ⟨rfl,hb1⟩; have Q0 := hid (block_below (block_below (heap_alloc_new w _) (below1 _ _)) hb1); have B0 := hid ((below2 _ _ _).trans (hb1.mono (by simp; omega))); obtain ⟨q0,q1⟩ := two_cells Q0.out; clear hb1)
  -- the nodes are made
  go_loopw [7,22] (fun tv i wr => ∃ m : Nat,m ≤ n ∧ i = .int .i64 m ∧ ∃ N V,Inv1 w wr cs N V tv ss m) (fun _ i _ => n - (intOf i).toNat)
  case atStart => exact ⟨0,Nat.zero_le _,rfl,fun _ => 0,fun _ => .slice none 0 0,⟨fun k h => absurd h (by omega),fun k h => absurd h (by omega),fun k j b h => absurd h (by omega)⟩,⟨World.ownsRow_nil _ _ _ _,fun k b h => absurd h (by omega)⟩,by rw [HCS.out]; exact Q0.out,B0.out,fun j h => absurd h (by omega)⟩
  case round =>
   obtain ⟨m,hm,rfl,N,V,hI⟩ := hrel
   have HI := hid hI
   obtain ⟨ao,tcap,htv⟩ := slice_of hI.tree.row
   subst htv
   obtain ⟨r0,r1⟩ := two_cells (show wr.heap[w.heap.size]? = some (.cells #[.slice (some ⟨b,off,none⟩) n sc,.slice to tn tc] 64 (0,0)) by rw [← HCS.out]; exact hI.box)
   have hb := hI.below
   have hz : w.heap.size ≤ wr.heap.size := hb.size
   have hzl : w.heap.size < wr.heap.size := lt_of_block hI.box
   clear hI
   by_cases hlt : m < n
   ·obtain ⟨k1,k2,⟨co,cn,cc,k3,_,_⟩,⟨do_,dn,dc,k4,_,_⟩⟩ := HA.out m hlt
    have k1 : wr.cell? ⟨b,off + m * 4,none⟩ = some (.int .i64 (par ss m)) := (hb.cell (p := ⟨b,off + m * 4,none⟩) hbl).trans k1
    have k2 : wr.cell? ⟨b,off + m * 4 + 1,none⟩ = some (.int .i64 (ini ss m)) := (hb.cell (p := ⟨b,off + m * 4 + 1,none⟩) hbl).trans k2
    have k3 := (hb.cell (p := ⟨b,off + m * 4 + 2,none⟩) hbl).trans k3
    have k4 := (hb.cell (p := ⟨b,off + m * 4 + 3,none⟩) hbl).trans k4
    obtain ⟨pv,hpv⟩ : ∃ pv,pv = par ss m := ⟨_,rfl⟩
    obtain ⟨iv,hiv⟩ : ∃ iv,iv = ini ss m := ⟨_,rfl⟩
    rw [← hpv] at k1
    rw [← hiv] at k2
    have HPV := hid hpv
    have mn : (m : Int) < (n : Int) := by omega
    clear hb hpv hiv
    by_cases h0 : m = 0
    ·subst h0
     simp only [Nat.zero_mul,Nat.add_zero] at k1 k2 k3 k4
     have WB : Hid (∀ w,Calls Tryz.prog 25 #[.int .i64 pv,.int .i64 0] w fun e w' => e = .returned (.bool false) ∧ w' = w) := hid (fun w => by
      have := within_any pv 0 w
      rwa [show decide (0 ≤ pv ∧ pv < 0) = false by rw [decide_eq_false_iff_not]; omega] at this)
     by_cases hp : pv = -1
     ·subst hp
      go_wp2_with (first | (go_at_call 25; refine (WB.out _).mono ?_; rintro e w2 ⟨rfl,hw⟩; obtain rfl := hw.symm) | (at_builtin; refine wpList_append_lies _ rfl (.tmp 51) (.tmp 53) 151 rfl w.heap.size 202 i0 _ 1 8 Tryz.underlying151 hi hz0 hz1 hz2 rfl (by decide) _ _ _ rfl (((HI.out.tree.row.alloc _).alloc _).alloc _) ⟨wr.heap.size + 1 + 1,0,none⟩ 1 1 [.pointer (some ⟨wr.heap.size + 1,0,none⟩)] rfl rfl (by simpa using news_one ((wr.alloc (.cells #[.int .i64 (-1),.int .i64 iv,.slice co cn cc,.slice do_ dn dc] 71)).alloc (.cells #[.int .i64 0,.pointer none,.pointer none,.slice none 0 0] 204)) (.pointer (some ⟨wr.heap.size + 1,0,none⟩)) 202) (by intro u hu; simp at hu; subst hu; rfl) (by omega) (by unfold maxLen; omega) (by omega) (by simp; omega) (wr.heap.size + 1 + 1 + 1) (by simp) ?_))
      intro g cap' w3 hown hgrow hat _
      have NI := hid (inv_first HI.out HPV.out.symm hown hgrow hat)
      clear hown hgrow hat
      go_wp2
      go_roundw
      case rel => exact ⟨0 + 1,by omega,by go_num,_,_,NI.out⟩
      case measure => simp [intOf]; omega
     ·have hp' : (pv != -1) = true := by simpa using hp
      have E : Hid (faultOf ss tn true = (2,((0 : Nat) : Int))) := hid (fault_tree HC.out (by rw [HL.out]; exact hlt) (by simp [badP,← HPV.out,hp]) (fun j h => absurd h (by omega)))
      go_wp2_with (go_at_call 25; refine (WB.out _).mono ?_; rintro e w2 ⟨rfl,hw⟩; obtain rfl := hw.symm)
      go_ret3
      rw [E.out]
      exact ⟨HI.out.below.trans ((below2 _ _ _).mono hz),.inl ⟨by simp,rfl⟩⟩
    ·have kp : (0 : Int) < (m : Int) := by omega
     obtain ⟨wb,hwb⟩ : ∃ wb,wb = decide (0 ≤ pv ∧ pv < (m : Int)) := ⟨_,rfl⟩
     have WB : Hid (∀ w,Calls Tryz.prog 25 #[.int .i64 pv,.int .i64 (m : Int)] w fun e w' => e = .returned (.bool wb) ∧ w' = w) := hid (fun w => by rw [hwb]; exact within_any pv m w)
     have HWB := hid hwb
     clear hwb
     cases wb with
     | false =>
      have E : Hid (faultOf ss tn true = (2,(m : Int))) := hid (fault_tree HC.out (by rw [HL.out]; exact hlt) (by
       rw [badP,if_neg h0,← HPV.out]
       exact decide_eq_true (of_decide_eq_false HWB.out.symm)) HI.out.good)
      go_wp2_with (go_at_call 25; refine (WB.out _).mono ?_; rintro e w2 ⟨rfl,hw⟩; obtain rfl := hw.symm)
      go_ret3
      rw [E.out]
      exact ⟨HI.out.below.trans ((below2 _ _ _).mono hz),.inl ⟨by simp,rfl⟩⟩
     | true =>
      obtain ⟨hp0,hp1⟩ : 0 ≤ pv ∧ pv < (m : Int) := of_decide_eq_true HWB.out.symm
      obtain ⟨p,rfl⟩ : ∃ p : Nat,pv = p := ⟨pv.toNat,by omega⟩
      have hpm : p < m := by omega
      obtain ⟨gt,hgt,ct⟩ : ∃ g,ao = some ⟨g,0,none⟩ ∧ wr.cell? ⟨g,p,none⟩ = some (.pointer (some ⟨N p,0,none⟩)) := by
       obtain ⟨g,cap,e,_,h3⟩ := World.ownsRow.form HI.out.tree.row (by omega)
       simp at e
       obtain ⟨rfl,rfl⟩ := e
       refine ⟨g,rfl,?_⟩
       rw [World.ownsRow.cellAt HI.out.tree.row p (by omega)]
       simp [ptrs,hpm]
      subst hgt
      have hgl := block_lt_of_cell ct
      obtain ⟨stv,hstv⟩ : ∃ stv : Obj,stv = .cells #[.int .i64 (p : Int),.int .i64 iv,.slice co cn cc,.slice do_ dn dc] 71 := ⟨_,rfl⟩
      have hkl : (kids ss m p).length ≤ 300 := by
       have h1 : (kids ss m p).length ≤ (List.range m).length := List.length_filter_le _ _
       rw [List.length_range] at h1
       omega
      have CA := hid (addChild_any (N p) (wr.heap.size + 1) w.heap.size (.int .i64 (p : Int)) (parV N ss p) (.pointer none) (V p) (.int .i64 (m : Int)) (.pointer none) (.slice none 0 0) _ _ ((wr.alloc stv).alloc (.cells #[.int .i64 (m : Int),.pointer none,.pointer none,.slice none 0 0] 204)) ((forest_new HI.out.forest).node p hpm).2 (by have := heap_alloc_new (wr.alloc stv) (.cells #[.int .i64 (m : Int),.pointer none,.pointer none,.slice none 0 0] 204); simpa using this) (by have := HI.out.forest.lt hpm; omega) ((forest_new HI.out.forest).kid p hpm) hkl (by simp; omega))
      have INX := hid (fun w2 w3 (lit : Obj) cv' g cap => inv_next (st := stv) (w2 := w2) (w3 := w3) (lit := lit) (cv' := cv') (g := g) (cap := cap) HI.out (by omega) HPV.out.symm hpm)
      have RX : Hid (∀ w2,Kept (fun q => q = N p ∨ q = wr.heap.size + 1 ∨ (V p).ownBlock = some q) ((wr.alloc stv).alloc (.cells #[.int .i64 (m : Int),.pointer none,.pointer none,.slice none 0 0] 204)) w2 → w2.ownsRow w.heap.size 202 1 (.slice (some ⟨gt,0,none⟩) m tcap) m (ptrs N (List.range m)) ∧ w.heap.size ≤ w2.heap.size) := hid (fun w2 hk => by
       have hrow1 := ownsRow_below HI.out.tree.row (below2 wr stv (.cells #[.int .i64 (m : Int),.pointer none,.pointer none,.slice none 0 0] 204))
       refine ⟨ownsRow_of hrow1 (fun b e => hk.block b (hrow1.lt b e).2 ?_),?_⟩
       ·rintro (e4 | e4 | e4)
        ·subst e4; exact row_node hrow1 ((forest_new HI.out.forest).node p hpm).2 e
        ·have := (HI.out.tree.row.lt b e).2; omega
        ·exact HI.out.tree.apart p b hpm e4 e
       ·have := hk.size; simp at this; omega)
      rw [hstv] at CA INX RX
      clear hstv
      go_wp2_with (first | (go_at_call 25; refine (WB.out _).mono ?_; rintro e w2 ⟨rfl,hw⟩; obtain rfl := hw.symm) | (go_at_call 102; refine CA.out.mono ?_; rintro e w2 ⟨rfl,cv',x1,x2,x3,x4,x5⟩; have X1 := hid x1; have X2 := hid x2; have X3 := hid x3; have X4 := hid x4; have X5 := hid x5; clear x1 x2 x3 x4 x5) | (at_builtin; refine wpList_append_lies _ rfl (.tmp 51) (.tmp 53) 151 rfl w.heap.size 202 i0 _ 1 8 Tryz.underlying151 hi hz0 hz1 hz2 rfl (by decide) _ _ _ rfl ((RX.out w2 X5.out).1.alloc _) ⟨w2.heap.size,0,none⟩ 1 1 [.pointer (some ⟨wr.heap.size + 1,0,none⟩)] rfl rfl (news_one _ _ _) (by intro u hu; simp at hu; subst hu; rfl) (by omega) (by unfold maxLen; omega) (by omega) (by have := (RX.out w2 X5.out).2; simp; omega) (w2.heap.size + 1) (by simp) ?_))
      intro g cap' w3 hown hgrow hat _
      have NI := hid (INX.out w2 w3 _ cv' g cap' X1.out X2.out X3.out X4.out X5.out hown hgrow hat)
      clear hown hgrow hat
      go_wp2
      go_roundw
      case rel => exact ⟨m + 1,by omega,by go_num,_,_,NI.out⟩
      case measure => simp [intOf]; omega
   ·have e : m = n := by omega
    subst e
    have HP' : Hid (∀ j,j < ss.length → badP ss j = false) := hid (by rw [HL.out]; exact HI.out.good)
    have T : TreeOK ss := tree_of (by rw [HL.out]; omega) HP'.out
    have h200 : ss.length ≤ 200 := by rw [HL.out]; exact n2
    obtain ⟨gt,hgt,CT⟩ : ∃ g,ao = some ⟨g,0,none⟩ ∧ Hid (∀ k,k < m → wr.cell? ⟨g,k,none⟩ = some (.pointer (some ⟨N k,0,none⟩)) ∧ g < wr.heap.size) := by
     obtain ⟨g,cap,e,_,h3⟩ := World.ownsRow.form HI.out.tree.row (by omega)
     simp at e
     obtain ⟨rfl,rfl⟩ := e
     refine ⟨g,rfl,hid (fun k hk => ⟨?_,h3⟩)⟩
     rw [World.ownsRow.cellAt HI.out.tree.row k (by omega)]
     simp [ptrs,hk]
    subst hgt
    obtain ⟨wp,hwp⟩ : ∃ wp,wp = wr := ⟨_,rfl⟩
    rw [← hwp] at CT HI
    have HWP := hid hwp
    clear hb hwp
    go_wp2
    -- the depths
    go_loopw [58] (fun i wr => ∃ q : Nat,q ≤ m ∧ i = .int .i64 q ∧ Hid (∀ j,j < q → badD ss j = false) ∧ Below wp.heap.size wp wr) (fun i _ => m - (intOf i).toNat)
    case atStart => exact ⟨0,Nat.zero_le _,rfl,hid (fun j h => absurd h (by omega)),by rw [HWP.out]; exact Below.refl _ _⟩
    case round =>
     obtain ⟨q,hqk,rfl,HD,hb⟩ := hrel
     have HB := hid hb
     clear hb
     by_cases hltq : q < m
     ·have hqs : q < ss.length := by rw [HL.out]; exact hltq
      have NQ := hid (show Nodes wr N ss ss.length by have := HI.out.forest.nodes.below HB.out; rw [HL.out]; exact this)
      have CD := hid (depth_any N ss T h200 q hqs wr NQ.out)
      have ce := (HB.out.cell (p := ⟨gt,q,none⟩) (CT.out q hltq).2).trans (CT.out q hltq).1
      have qn : (q : Int) < (m : Int) := by omega
      obtain ⟨d,hd⟩ : ∃ d,d = ((up ss q).length : Int) := ⟨_,rfl⟩
      have BD : Hid (badD ss q = decide (17 ≤ d)) := hid (by rw [hd,Bool.eq_iff_iff]; simp [badD]; omega)
      have hdb : d ≤ 300 := by have := up_len T q hqs; omega
      have hd0 : 0 ≤ d := by omega
      rw [← hd] at CD
      clear hd
      by_cases h17 : 17 ≤ d
      ·have t1 : (16 : Int) ≤ d - 1 := by omega
       have E : Hid (faultOf ss tn true = (3,(q : Int))) := hid (fault_depth HC.out HP'.out hqs (by rw [BD.out]; simpa using h17) HD.out)
       go_wp2_with (go_at_call 103; refine CD.out.mono ?_; rintro e w1 ⟨rfl,hb1⟩; have B1 := hid hb1; clear hb1)
       go_ret3
       rw [E.out]
       exact ⟨HI.out.below.trans ((HB.out.trans (B1.out.mono HB.out.size)).mono HI.out.below.size),.inl ⟨by simp,rfl⟩⟩
      ·have t1 : ¬ (16 : Int) ≤ d - 1 := by omega
       go_wp2_with (go_at_call 103; refine CD.out.mono ?_; rintro e w1 ⟨rfl,hb1⟩; have B1 := hid hb1; clear hb1)
       go_roundw
       case rel =>
        refine ⟨q + 1,by omega,by go_num,hid (fun j hj => ?_),HB.out.trans (B1.out.mono HB.out.size)⟩
        by_cases e : j = q
        ·subst e; rw [BD.out]; simpa using h17
        ·exact HD.out j (by omega)
       case measure => simp [intOf]; omega
     ·have e : q = m := by omega
      subst e
      have HD' : Hid (∀ j,j < ss.length → badD ss j = false) := hid (by rw [HL.out]; exact HD.out)
      have I30 : Hid (Inv3 w wr cs N V (.slice (some ⟨gt,0,none⟩) q tcap) ss 0) := hid (by
       refine ⟨?_,?_,block_below HI.out.box HB.out,HI.out.below.trans (HB.out.mono HI.out.below.size),fun j h => absurd h (by omega)⟩
       ·rw [HL.out]
        exact (HI.out.forest.below HB.out).congrI (fun k _ => by rw [if_neg (by omega)])
       ·rw [HL.out]
        exact HI.out.tree.below HB.out)
      clear HD
      go_wp2
      -- the initial states
      go_loopw [70] (fun i wr => ∃ p : Nat,p ≤ q ∧ i = .int .i64 p ∧ Inv3 w wr cs N V (.slice (some ⟨gt,0,none⟩) q tcap) ss p) (fun i _ => q - (intOf i).toNat)
      case atStart => exact ⟨0,Nat.zero_le _,rfl,I30.out⟩
      case round =>
       obtain ⟨p,hpq,rfl,hI3⟩ := hrel
       have J := hid hI3
       obtain ⟨r0,r1⟩ := two_cells (show wr.heap[w.heap.size]? = some (.cells #[.slice (some ⟨b,off,none⟩) q sc,.slice to tn tc] 64 (0,0)) by rw [← HCS.out]; exact hI3.box)
       clear hI3
       by_cases hltp : p < q
       ·have hps : p < ss.length := by rw [HL.out]; exact hltp
        have k2 : wr.cell? ⟨b,off + p * 4 + 1,none⟩ = some (.int .i64 (ini ss p)) := (J.out.below.cell (p := ⟨b,off + p * 4 + 1,none⟩) hbl).trans (HA.out p hltp).2.1
        have ce : wr.cell? ⟨gt,p,none⟩ = some (.pointer (some ⟨N p,0,none⟩)) := by
         have h1 := J.out.tree.row
         rw [HL.out] at h1
         rw [World.ownsRow.cellAt h1 p (by omega)]
         simp [ptrs,hltp]
        have pn : (p : Int) < (q : Int) := by omega
        have hkl : (kids ss ss.length p).length ≤ 300 := by
         have h1 : (kids ss ss.length p).length ≤ (List.range ss.length).length := List.length_filter_le _ _
         rw [List.length_range] at h1
         omega
        have CS := setInitial_any N (kids ss ss.length p) (N p) w.heap.size _ _ _ (V p) (ini ss p) wr (J.out.forest.node p hps).2 (J.out.forest.kid p hps) hkl (fun x hx => (J.out.forest.nodes x (kids_lt hx)).2.1) (by rw [if_neg (by omega)]; exact ⟨_,rfl⟩)
        have BE := badI_eq ss p
        by_cases hex : ∃ x,x ∈ kids ss ss.length p ∧ (x : Int) = ini ss p
        ·have BG : Hid (badI ss p = false) := hid (by
          rw [BE]
          have : (kids ss ss.length p).any (fun j => decide ((j : Int) = ini ss p)) = true := by
           rw [List.any_eq_true]
           obtain ⟨x,h1,h2⟩ := hex
           exact ⟨x,h1,decide_eq_true h2⟩
          rw [this]
          rfl)
         have C2 : Hid (Calls Tryz.prog 104 #[.pointer (some ⟨N p,0,none⟩),.int .i64 (ini ss p)] wr fun e w' => e = .returned (.bool true) ∧ Inv3 w w' cs N V (.slice (some ⟨gt,0,none⟩) q tcap) ss (p + 1)) := hid (CS.mono (by
          rintro e w' (⟨x,h1,h2,rfl,rfl⟩ | ⟨h1,rfl,rfl⟩)
          ·exact ⟨rfl,inv3_set J.out hps h2 BG.out⟩
          ·obtain ⟨x,h3,h4⟩ := hex
           exact absurd h4 (h1 x h3)))
         obtain ⟨iv,hiv⟩ : ∃ iv,iv = ini ss p := ⟨_,rfl⟩
         rw [← hiv] at k2 C2
         clear CS BE hex hiv
         go_wp2_with (go_at_call 104; refine C2.out.mono ?_; rintro e w1 ⟨rfl,h3⟩; have J1 := hid h3; clear h3)
         go_roundw
         case rel => exact ⟨p + 1,by omega,by go_num,J1.out⟩
         case measure => simp [intOf]; omega
        ·obtain ⟨bb,hbb⟩ : ∃ bb,bb = (decide (kids ss ss.length p = []) && decide (ini ss p = -1)) := ⟨_,rfl⟩
         have BG : Hid (badI ss p = !bb) := hid (by
          rw [BE,hbb]
          have : (kids ss ss.length p).any (fun j => decide ((j : Int) = ini ss p)) = false := by
           rw [List.any_eq_false]
           intro x h1 h2
           exact hex ⟨x,h1,of_decide_eq_true h2⟩
          rw [this,Bool.false_or])
         have C2 : Hid (Calls Tryz.prog 104 #[.pointer (some ⟨N p,0,none⟩),.int .i64 (ini ss p)] wr fun e w' => e = .returned (.bool bb) ∧ w' = wr) := hid (CS.mono (by
          rintro e w' (⟨x,h1,h2,rfl,rfl⟩ | ⟨h1,rfl,rfl⟩)
          ·exact absurd ⟨x,h1,h2⟩ hex
          ·exact ⟨by rw [hbb],rfl⟩))
         have HBB := hid hbb
         obtain ⟨iv,hiv⟩ : ∃ iv,iv = ini ss p := ⟨_,rfl⟩
         rw [← hiv] at k2 C2
         clear CS BE hex hiv hbb
         cases bb with
         | true =>
          have NI : Hid (Inv3 w wr cs N V (.slice (some ⟨gt,0,none⟩) q tcap) ss (p + 1)) := hid (inv3_same J.out (by have := HBB.out.symm; rw [Bool.and_eq_true] at this; exact of_decide_eq_true this.2) BG.out)
          go_wp2_with (go_at_call 104; refine C2.out.mono ?_; rintro e w1 ⟨rfl,hw⟩; obtain rfl := hw.symm)
          go_roundw
          case rel => exact ⟨p + 1,by omega,by go_num,NI.out⟩
          case measure => simp [intOf]; omega
         | false =>
          have E : Hid (faultOf ss tn true = (4,(p : Int))) := hid (fault_initial HC.out HP'.out HD'.out hps BG.out J.out.good)
          go_wp2_with (go_at_call 104; refine C2.out.mono ?_; rintro e w1 ⟨rfl,hw⟩; obtain rfl := hw.symm)
          go_ret3
          rw [E.out]
          exact ⟨J.out.below,.inl ⟨by simp,rfl⟩⟩
       ·have e : p = q := by omega
        subst e
        have E : Hid (faultOf ss tn true = (0,0)) := hid (fault_none HC.out HP'.out HD'.out (by rw [HL.out]; exact J.out.good))
        go_wp2
        go_ret3
        rw [E.out]
        refine ⟨J.out.below,.inr ⟨rfl,N,_,rfl,⟨J.out.forest.nodes,fun k hk => ?_⟩,J.out.forest.nodeB,J.out.tree.row⟩⟩
        obtain ⟨_,_,c2,_⟩ := quad_cells (J.out.forest.node k hk).2
        rw [c2,if_pos (by rw [← HL.out]; exact hk)]
end Go.Proofs.YtkdgkomnbjepdaaGreatDoor
