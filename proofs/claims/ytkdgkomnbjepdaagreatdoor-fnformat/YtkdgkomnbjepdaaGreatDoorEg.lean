import Derived.Test.YtkdgkomnbjepdaaGreatDoorEd
import Derived.Test.YtkdgkomnbjepdaaGreatDoorEc
import Derived.Test.YtkdgkomnbjepdaaGreatDoorLd
import Derived.Test.YtkdgkomnbjepdaaGreatDoorLa
namespace Go.Proofs.YtkdgkomnbjepdaaGreatDoor
open Go.RowKit Go.Sort
set_option linter.unusedVariables false
attribute [local go_sem ↓] Go.wp_at_zero Go.wp_at_succ
theorem one_cc {w : World} {H : Nat} {a : Value} {t : TypeId} (k : w.heap[H]? = some (.cells #[a] t (0,0))) : w.cell? ⟨H,0,none⟩ = some a ∧ w.frozen? ⟨H,0,none⟩ = false := by
 simp [World.cell?,World.frozen?,k]
def Two (w : World) (g h : Nat) : Prop := ∃ a b ca cb ta tb,w.cell? ⟨g,0,none⟩ = some (.iface 325 (.pointer (some a))) ∧ w.cell? ⟨h,0,none⟩ = some (.iface 325 (.pointer (some b))) ∧ a ≠ b ∧ w.heap[a.block]? = some (.cells ca ta (0,0)) ∧ w.heap[b.block]? = some (.cells cb tb (0,0))
structure VarsS (w : World) : Prop where
 vars : Vars w
 et : ErrT w
 two : Two w 0 1
 lt : 12 < w.heap.size
theorem VarsS.below {w w' : World} (h : VarsS w) (hb : Below w.heap.size w w') : VarsS w' := by
 refine ⟨h.vars.below hb h.lt (Nat.le_refl _),(hb.cell (p := ⟨2,0,none⟩) (Lib.lt_of_cell h.et)).trans h.et,?_,Nat.lt_of_lt_of_le h.lt hb.size⟩
 obtain ⟨a,b,ca,cb,ta,tb,h1,h2,h3,h4,h5⟩ := h.two
 exact ⟨a,b,ca,cb,ta,tb,(hb.cell (p := ⟨0,0,none⟩) (Lib.lt_of_cell h1)).trans h1,(hb.cell (p := ⟨1,0,none⟩) (Lib.lt_of_cell h2)).trans h2,h3,block_below h4 hb,block_below h5 hb⟩
set_option maxRecDepth 100000 in
set_option maxHeartbeats 1600000 in
theorem codeOf_line (L : Nat) (n : Int) (x : Value) (w : World) (hv : VarsS w) (hL : w.heap[L]? = some (.cells #[.int .i64 n,x] 102 (0,0))) :
  Calls Tryz.prog 14 #[.iface 98 (.pointer (some ⟨L,0,none⟩))] w fun e w' => e = .returned (.int .i64 n) ∧ Below w.heap.size w w' := by
 obtain ⟨W0,hW0⟩ : ∃ W,W = w.alloc (.cells #[.pointer none] 98) := ⟨_,rfl⟩
 have BW : Below w.heap.size w W0 := by rw [hW0]; exact below1 _ _
 have T0 : W0.heap[w.heap.size]? = some (.cells #[.pointer none] 98 (0,0)) := by rw [hW0]; exact heap_alloc_new _ _
 obtain ⟨t0,tf⟩ := one_cc T0
 have C0 := as_hit ⟨L,0,none⟩ ⟨w.heap.size,0,none⟩ _ W0 (hv.below BW).et t0 tf
 have LL := lt_of_block hL
 have ln : ¬ L = w.heap.size := by omega
 have C : Hid (Calls Tryz.prog 30 #[.iface 98 (.pointer (some ⟨L,0,none⟩)),.iface 100 (.pointer (some ⟨w.heap.size,0,none⟩))] W0 fun e w' => e = .returned (.bool true) ∧ w'.cell? ⟨w.heap.size,0,none⟩ = some (.pointer (some ⟨L,0,none⟩)) ∧ w'.cell? ⟨L,0,none⟩ = some (.int .i64 n) ∧ L < w'.heap.size ∧ w.heap.size < w'.heap.size ∧ Below w.heap.size w w') := hid (C0.mono (by
  rintro e w' ⟨rfl,rfl⟩
  have h1 := ((below3 W0 (.cells #[.pointer (some ⟨w.heap.size,0,none⟩)] 100) (.cells #[.pointer (some ⟨15,100,none⟩),.pointer (some ⟨W0.heap.size,0,none⟩),.int .u64 150] 134) (.cells #[.pointer (some ⟨15,100,none⟩),.pointer (some ⟨W0.heap.size,0,none⟩),.int .u64 150] 134)).alloc (by simp; omega) (.cells #[.pointer (some ⟨L,0,none⟩)] 98))
  have k1 := block_below T0 h1
  have k2 := block_below (block_below hL BW) h1
  have k3 := heap_setCell_same _ w.heap.size 0 _ _ (.pointer (some ⟨L,0,none⟩)) k1
  have k4 := (Below.heap_setCell _ ⟨w.heap.size,0,none⟩ (.pointer (some ⟨L,0,none⟩)) L ln).trans k2
  refine ⟨rfl,by rw [Lib.cell_of_heap k3]; rfl,by rw [Lib.cell_of_heap k4]; rfl,lt_of_block k4,lt_of_block k3,?_⟩
  exact (BW.trans (h1.mono BW.size)).setCell (p := ⟨w.heap.size,0,none⟩) (Nat.le_refl _) _))
 have HW0 := hid hW0
 clear hv hL hW0 BW T0 t0 tf C0
 go_enter Tryz.func14,Tryz.ntmps14
 go_wp2_with fail
 rw [← HW0.out]
 clear HW0
 with_reducible refine C.out.mono ?_
 rintro e w1 ⟨rfl,c1,c2,l1,l2,hb1⟩
 have B1 := hid hb1
 clear hb1
 go_wp2
 go_ret
 exact ⟨rfl,B1.out⟩
set_option maxRecDepth 100000 in
set_option maxHeartbeats 1600000 in
theorem codeOf_long (a : Addr) (w : World) (hv : VarsS w) (ha : w.cell? ⟨0,0,none⟩ = some (.iface 325 (.pointer (some a)))) :
  Calls Tryz.prog 14 #[.iface 325 (.pointer (some a))] w fun e w' => e = .returned (.int .i64 (-1)) ∧ Below w.heap.size w w' := by
 obtain ⟨W0,hW0⟩ : ∃ W,W = w.alloc (.cells #[.pointer none] 98) := ⟨_,rfl⟩
 have BW : Below w.heap.size w W0 := by rw [hW0]; exact below1 _ _
 have hv0 := hv.below BW
 have C := hid (as_miss (.pointer (some a)) ⟨w.heap.size,0,none⟩ W0 hv0.et)
 obtain ⟨a',b,ca,cb,ta,tb,h1,h2,h3,h4,h5⟩ := hv0.two
 have ea : a' = a := by
  have := (BW.cell (p := ⟨0,0,none⟩) (Lib.lt_of_cell ha)).trans ha
  rw [this] at h1
  simp at h1
  exact h1.symm
 subst ea
 have D := hid (fun W (h : Below W0.heap.size W0 W) => And.intro ((h.cell (p := ⟨1,0,none⟩) (Lib.lt_of_cell h2)).trans h2) (is_other a' b ca cb ta tb W h3 (block_below h4 h) (block_below h5 h)))
 have BH := hid BW
 have HW0 := hid hW0
 clear hv ha hW0 BW h1 h2 h3 h4 h5 hv0
 go_enter Tryz.func14,Tryz.ntmps14
 go_wp2_with fail
 rw [← HW0.out]
 clear HW0
 with_reducible refine C.out.mono ?_
 rintro e w1 ⟨rfl,hb1⟩
 have B1 := hid hb1
 obtain ⟨d1,d2⟩ := D.out w1 hb1
 have D2 := hid d2
 have dl := Lib.lt_of_cell d1
 clear hb1 d2
 go_wp2_with (go_at_call 31; with_reducible refine D2.out.mono ?_; rintro e w2 ⟨rfl,hw2⟩; obtain rfl := hw2.symm)
 go_ret
 exact ⟨rfl,BH.out.trans (B1.out.mono BH.out.size)⟩
end Go.Proofs.YtkdgkomnbjepdaaGreatDoor
namespace Go.Proofs.YtkdgkomnbjepdaaGreatDoor
open Go.RowKit Go.Sort
set_option linter.unusedVariables false
attribute [local go_sem ↓] Go.wp_at_zero Go.wp_at_succ
def SyAns (B : Nat) (p : SyD × Int) (w : World) (e : Ending) (w' : World) : Prop :=
 ∃ G : SyG,G.dat = p.1 ∧ e = .returned (.tuple #[G.val,.int .i64 p.2]) ∧ Flat w' B G.rows ∧ Below B w w'
theorem Flat.setLow {w : World} {B b : Nat} {R : List Rw} (h : Flat w B R) (hb : b < B) (o : Nat) (u : Value) : Flat (w.setCell ⟨b,o,none⟩ u) B R :=
 h.keep (fun r hr i hl hi => Below.heap_setCell _ _ _ _ (fun (e : i = b) => by have := ((h.own r hr).lt i hi).1; omega))
theorem sy_box {w : World} {H : Nat} {a b c : Value} (k : w.heap[H]? = some (.cells #[a,b,c] 26 (0,0))) (v0 v1 v2 : Value) : ((((w.setCell ⟨H,0,none⟩ v0).setCell ⟨H,1,none⟩ v1).setCell ⟨H,2,none⟩ v2).cell? ⟨H,0,none⟩ = some v0 ∧ (((w.setCell ⟨H,0,none⟩ v0).setCell ⟨H,1,none⟩ v1).setCell ⟨H,2,none⟩ v2).cell? ⟨H,1,none⟩ = some v1 ∧ (((w.setCell ⟨H,0,none⟩ v0).setCell ⟨H,1,none⟩ v1).setCell ⟨H,2,none⟩ v2).cell? ⟨H,2,none⟩ = some v2) :=
 (three_cc (tri_set k v0 v1 v2)).1
end Go.Proofs.YtkdgkomnbjepdaaGreatDoor
namespace Go.Proofs.YtkdgkomnbjepdaaGreatDoor
open Go.RowKit Go.Sort
set_option linter.unusedVariables false
attribute [local go_sem ↓] Go.wp_at_zero Go.wp_at_succ
set_option maxRecDepth 100000 in
set_option maxHeartbeats 1600000 in
theorem codeOf_none (b : Addr) (w : World) (hv : VarsS w) (hb : w.cell? ⟨1,0,none⟩ = some (.iface 325 (.pointer (some b)))) :
  Calls Tryz.prog 14 #[.iface 325 (.pointer (some b))] w fun e w' => e = .returned (.int .i64 (-2)) ∧ Below w.heap.size w w' := by
 obtain ⟨W0,hW0⟩ : ∃ W,W = w.alloc (.cells #[.pointer none] 98) := ⟨_,rfl⟩
 have BW : Below w.heap.size w W0 := by rw [hW0]; exact below1 _ _
 have hv0 := hv.below BW
 have C := hid (as_miss (.pointer (some b)) ⟨w.heap.size,0,none⟩ W0 hv0.et)
 have hb0 := (BW.cell (p := ⟨1,0,none⟩) (Lib.lt_of_cell hb)).trans hb
 have D := hid (fun W (h : Below W0.heap.size W0 W) => And.intro ((h.cell (p := ⟨1,0,none⟩) (Lib.lt_of_cell hb0)).trans hb0) (is_same b W))
 have BH := hid BW
 have HW0 := hid hW0
 clear hv hb hW0 BW hb0 hv0
 go_enter Tryz.func14,Tryz.ntmps14
 go_wp2_with fail
 rw [← HW0.out]
 clear HW0
 with_reducible refine C.out.mono ?_
 rintro e w1 ⟨rfl,hb1⟩
 have B1 := hid hb1
 obtain ⟨d1,d2⟩ := D.out w1 hb1
 have D2 := hid d2
 have dl := Lib.lt_of_cell d1
 clear hb1 d2
 go_wp2_with (go_at_call 31; with_reducible refine D2.out.mono ?_; rintro e w2 ⟨rfl,hw2⟩; obtain rfl := hw2.symm)
 go_ret
 exact ⟨rfl,BH.out.trans (B1.out.mono BH.out.size)⟩
structure VarsY (w : World) : Prop where
 vr : Vr w
 et : ErrT w
 two : Two w 0 1
 lt : 12 < w.heap.size
theorem VarsY.s {w : World} (h : VarsY w) : VarsS w := ⟨h.vr.v,h.et,h.two,h.lt⟩
theorem VarsY.below {w w' : World} (h : VarsY w) (hb : Below w.heap.size w w') : VarsY w' := by
 have := h.s.below hb
 exact ⟨h.vr.below hb h.lt (Nat.le_refl _),this.et,this.two,this.lt⟩
def ReadTo (B Q : Nat) (p : SyD × Int) (w : World) (e : Ending) (w' : World) : Prop :=
 Below B w w' ∧ ((∃ G : SyG,p = (G.dat,0) ∧ e = .returned .nilIface ∧ Sl w' B (rdB Q G true :: G.rows)) ∨
  (∃ (te : TypeId) (pe : Value),p.1 = sy0 ∧ e = .returned (.iface te pe) ∧ ∀ W,Below w'.heap.size w' W → VarsY W → Calls Tryz.prog 14 #[.iface te pe] W fun e2 w2 => e2 = .returned (.int .i64 p.2) ∧ Below W.heap.size W w2))
theorem lines_val {B Q M : Nat} {s : ByteArray} {LS : List (List UInt8)} {w : World} (h : Calls Tryz.prog 28 #[.string s,.map (some M)] w fun e w' => LinesTo B Q LS e w' ∧ Bm B w w') : Calls Tryz.prog 28 #[.string s,.map (some M)] w fun e w' => ((∃ (G : SyG) (bg : Bool),sysW LS 0 sy0 false = sysW [] 0 G.dat bg ∧ e = .returned .nilIface ∧ Sl w' B (rdB Q G bg :: G.rows)) ∨ (∃ (n : Nat) (L : Nat) (x : Value),sysW LS 0 sy0 false = (sy0,((n + 1 : Nat) : Int)) ∧ e = .returned (.iface 98 (.pointer (some ⟨L,0,none⟩))) ∧ w'.heap[L]? = some (.cells #[.int .i64 ((n + 1 : Nat) : Int),x] 102 (0,0)))) ∧ Bm B w w' := h
set_option maxRecDepth 100000 in
set_option maxHeartbeats 1600000 in
theorem read_any (Q : Nat) (s : ByteArray) (w : World) (hv : VarsY w) (hQ : 12 < Q) (hl : Sl w Q (rdB Q syG0 false :: syG0.rows)) :
  Calls Tryz.prog 13 #[.pointer (some ⟨Q,0,none⟩),.string s] w fun e w' => ReadTo Q Q (parW (bl s)) w e w' := by
 obtain ⟨a,b,ca,cb,ta,tb,h1,h2,h3,h4,h5⟩ := hv.two
 by_cases hbig : 30000 < s.size
 ·have hbig' : (30000 : Int) < (s.size : Int) := by omega
  have E : Hid (parW (bl s) = (sy0,-1)) := hid (by unfold parW; rw [if_pos (by rw [bl_len]; exact hbig)])
  rw [E.out]
  have HV := hid hv
  have hal := Lib.lt_of_cell h1
  have A1 := hid h1
  clear hv hl E h2 h3 h4 h5 hbig
  go_enter Tryz.func13,Tryz.ntmps13
  go_wp2
  go_ret
  refine ⟨Below.refl _ _,.inr ⟨_,_,rfl,rfl,fun W hW hVW => ?_⟩⟩
  exact codeOf_long a W hVW.s ((hW.cell (p := ⟨0,0,none⟩) (Lib.lt_of_cell A1.out)).trans A1.out)
 ·have hbig' : ¬ (30000 : Int) < (s.size : Int) := by omega
  have E : Hid (parW (bl s) = sysW (cut 10 (bl s)) 0 sy0 false) := hid (by unfold parW; rw [if_neg (by rw [bl_len]; exact hbig)])
  rw [E.out]
  have RS := hid (readers_any Q w)
  have RL := hid (fun (M : Nat) (W : World) (h : Below w.heap.size w W) (hm : W.heap[M]? = some (.map (rdMap Q) 10)) => lines_val (readLines_any Q Q M s W (by omega) (hl.below h) hm))
  obtain ⟨ls,hls⟩ : ∃ l,l = cut 10 (bl s) := ⟨_,rfl⟩
  rw [← hls] at RL ⊢
  have QW := hid hl.hi
  have N1 := hid h2
  have hnl : 1 < Q := by omega
  clear hv hl E hbig hls h1 h3 h4 h5 h2
  go_enter Tryz.func13,Tryz.ntmps13
  go_wp2_with (go_at_call 29; with_reducible refine RS.out.mono ?_; rintro e w1 ⟨rfl,hm1,hb1⟩; have B1 := hid hb1; have C := hid (RL.out _ w1 hb1 hm1); clear hm1 hb1)
  with_reducible refine C.out.mono ?_
  rintro e w2 ⟨⟨G,bg,hq,rfl,hS⟩ | ⟨n,L,x,hq,rfl,hL⟩,hb2⟩
  ·have B2 : Hid (Below Q w w2) := hid ((B1.out.mono QW.out).trans hb2.lo)
   have QE := hid hq
   have HS := hid hS
   obtain ⟨⟨q0,q1,q2,q3⟩,y0,y1,y2,y3,yl⟩ := four_cb (box_blk hS.flat.head)
   have n1 : w2.cell? ⟨1,0,none⟩ = some (.iface 325 (.pointer (some b))) := (B2.out.cell (p := ⟨1,0,none⟩) hnl).trans N1.out
   have nl := Lib.lt_of_cell n1
   have N2 := hid n1
   clear hq hS hb2 C RS RL B1
   cases bg with
   | true =>
    go_wp2
    go_ret
    refine ⟨B2.out,.inl ⟨G,?_,rfl,HS.out⟩⟩
    rw [QE.out]; rfl
   | false =>
    go_wp2
    go_ret
    refine ⟨B2.out,.inr ⟨_,_,?_,rfl,fun W hW hVW => ?_⟩⟩
    ·rw [QE.out]; rfl
    ·rw [QE.out]
     exact codeOf_none b W hVW.s ((hW.cell (p := ⟨1,0,none⟩) (Lib.lt_of_cell N2.out)).trans N2.out)
  ·have B2 : Hid (Below Q w w2) := hid ((B1.out.mono QW.out).trans hb2.lo)
   have QE := hid hq
   have HL := hid hL
   clear hq hL hb2 C RS RL B1
   go_wp2
   go_ret
   refine ⟨B2.out,.inr ⟨_,_,?_,rfl,fun W hW hVW => ?_⟩⟩
   ·rw [QE.out]
   ·rw [QE.out]
    exact codeOf_line L _ x W hVW.s (block_below HL.out hW)
set_option maxRecDepth 100000 in
set_option maxHeartbeats 1600000 in
theorem implParse_any (s : ByteArray) (w : World) (hv : VarsY w) : Calls Tryz.prog 6 #[.string s] w fun e w' => SyAns w.heap.size (parW (bl s)) w e w' := by
 obtain ⟨W0,hW0⟩ : ∃ W,W = (w.alloc (.cells #[.int .i64 0,nilV,nilV] 26)).alloc (.cells #[.int .i64 0,nilV,nilV,.bool false] 51) := ⟨_,rfl⟩
 have BW : Below w.heap.size w W0 := by rw [hW0]; exact below2 _ _ _
 have P0 : W0.heap[w.heap.size]? = some (.cells #[.int .i64 0,nilV,nilV] 26 (0,0)) := by rw [hW0]; exact block_below (heap_alloc_new w _) (below1 _ _)
 have Q0 : W0.heap[w.heap.size + 1]? = some (.cells #[.int .i64 0,nilV,nilV,.bool false] 51 (0,0)) := by
  rw [hW0]; simpa using heap_alloc_new (w.alloc (.cells #[.int .i64 0,nilV,nilV] 26)) (.cells #[.int .i64 0,nilV,nilV,.bool false] 51)
 have hv0 := hv.below BW
 have SZ : W0.heap.size = w.heap.size + 2 := by rw [hW0]; simp
 have L0 : Sl W0 (w.heap.size + 1) (rdB (w.heap.size + 1) syG0 false :: syG0.rows) := by
  refine ⟨hv0.vr,⟨fun r hr => ?_,?_⟩,fun r hr => ?_,by have := hv.lt; omega,by omega⟩
  ·simp only [SyG.rows,ObsG.rows,syG0,List.flatMap_nil,List.mem_cons,List.not_mem_nil,or_false] at hr
   rcases hr with rfl | rfl | rfl
   ·exact box_own Q0 (Nat.le_refl _)
   ·exact World.ownsRow_nil _ _ _ _
   ·exact World.ownsRow_nil _ _ _ _
  ·simp [SyG.rows,ObsG.rows,syG0,ObsG.row,TmG.row,Rw.Far,Value.ownBlock]
  ·simp only [SyG.rows,ObsG.rows,syG0,List.flatMap_nil,List.mem_cons,List.not_mem_nil,or_false] at hr
   rcases hr with rfl | rfl | rfl
   ·exact ⟨show 51 ≠ 9 by decide,show 51 ≠ 168 by decide⟩
   ·exact ⟨show 57 ≠ 9 by decide,show 57 ≠ 168 by decide⟩
   ·exact ⟨show 66 ≠ 9 by decide,show 66 ≠ 168 by decide⟩
 have RD := hid (read_any (w.heap.size + 1) s W0 hv0 (by have := hv.lt; omega) L0)
 obtain ⟨p,hp⟩ : ∃ p,p = parW (bl s) := ⟨_,rfl⟩
 rw [← hp] at RD ⊢
 have HV := hid hv
 have HW0 := hid hW0
 have BH := hid BW
 have PH := hid P0
 clear hv hv0 L0 hW0 BW hp P0 Q0
 go_enter Tryz.func6,Tryz.ntmps6
 go_wp2_with fail
 rw [← HW0.out]
 clear HW0
 with_reducible refine RD.out.mono ?_
 rintro e w1 ⟨hb1,⟨G,rfl,rfl,hS⟩ | ⟨te,pe,h1,rfl,h3⟩⟩
 ·have B1 : Hid (Below w.heap.size w w1) := hid (BH.out.trans (hb1.mono (Nat.le_succ _)))
  have P1 := hid ((hb1.block w.heap.size (Nat.lt_succ_self _)).trans PH.out)
  obtain ⟨⟨z0,z1,z2⟩,y0,y1,y2,yl⟩ := three_cc P1.out
  obtain ⟨eo,ec,xo,xc,hev,hxv⟩ := SyG.form (R := []) (by rw [List.append_nil]; exact hS.flat.tail)
  obtain ⟨⟨q0,q1,q2,q3⟩,k0,k1,k2,k3,kl⟩ := four_cb (box_blk hS.flat.head)
  rw [hev] at q1
  rw [hxv] at q2
  have FT := hid hS.flat.tail
  have U := hid (sy_box P1.out (.int .i64 G.sg) (.slice eo G.ob.xs.length ec) (.slice xo G.tm.xs.length xc))
  have FZ : Hid (Flat (((w1.setCell ⟨w.heap.size,0,none⟩ (.int .i64 G.sg)).setCell ⟨w.heap.size,1,none⟩ (.slice eo G.ob.xs.length ec)).setCell ⟨w.heap.size,2,none⟩ (.slice xo G.tm.xs.length xc)) w.heap.size G.rows) := hid ((((FT.out.setLow (Nat.lt_succ_self _) _ _).setLow (Nat.lt_succ_self _) _ _).setLow (Nat.lt_succ_self _) _ _).base (Nat.le_succ _))
  clear hS hb1 RD
  go_wp2
  obtain ⟨u0,u1,u2⟩ := U.out
  refine bodyPost_ret (v := .tuple #[.agg #[.int .i64 G.sg,.slice eo G.ob.xs.length ec,.slice xo G.tm.xs.length xc],.int .i64 0]) (by simp [results,Tryz.results6,go_sem,u0,u1,u2]) rfl ⟨G,rfl,by rw [SyG.val,hev,hxv],FZ.out,?_⟩
  exact ((B1.out.setCell (p := ⟨w.heap.size,0,none⟩) (Nat.le_refl _) _).setCell (p := ⟨w.heap.size,1,none⟩) (Nat.le_refl _) _).setCell (p := ⟨w.heap.size,2,none⟩) (Nat.le_refl _) _
 ·have B1 : Hid (Below w.heap.size w w1) := hid (BH.out.trans (hb1.mono (Nat.le_succ _)))
  have P1 := hid ((hb1.block w.heap.size (Nat.lt_succ_self _)).trans PH.out)
  have CD := hid (h3 w1 (Below.refl _ _) (HV.out.below B1.out))
  have H1 := hid h1
  clear h1 h3 hb1 RD
  go_wp2_with (go_at_call 14; with_reducible refine CD.out.mono ?_; rintro e w2 ⟨rfl,hb2⟩; have B2 := hid hb2; have P2 := hid (block_below P1.out hb2); obtain ⟨⟨z0,z1,z2⟩,y0,y1,y2,yl⟩ := three_cc P2.out; clear hb2)
  obtain ⟨u0,u1,u2⟩ := sy_box P2.out (.int .i64 0) nilV nilV
  have hb3 : Below w.heap.size w w2 := B1.out.trans (B2.out.mono B1.out.size)
  refine bodyPost_ret (v := .tuple #[.agg #[.int .i64 0,nilV,nilV],.int .i64 p.2]) (by simp [results,Tryz.results6,go_sem,u0,u1,u2]) rfl ⟨syG0,by rw [H1.out]; rfl,rfl,syG0_flat _ _,?_⟩
  exact ((hb3.setCell (p := ⟨w.heap.size,0,none⟩) (Nat.le_refl _) _).setCell (p := ⟨w.heap.size,1,none⟩) (Nat.le_refl _) _).setCell (p := ⟨w.heap.size,2,none⟩) (Nat.le_refl _) _
end Go.Proofs.YtkdgkomnbjepdaaGreatDoor
