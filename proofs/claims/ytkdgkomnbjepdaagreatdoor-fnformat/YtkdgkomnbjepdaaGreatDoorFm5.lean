import Derived.Test.YtkdgkomnbjepdaaGreatDoorGf
import Derived.Test.YtkdgkomnbjepdaaGreatDoorQc
import Derived.Test.YtkdgkomnbjepdaaGreatDoorEg
import Derived.Test.YtkdgkomnbjepdaaGreatDoorRa
import Derived.Test.YtkdgkomnbjepdaaGreatDoorFm4
namespace Go.Proofs.YtkdgkomnbjepdaaGreatDoor
open Go.RowKit Go.Sort
set_option linter.unusedVariables false
attribute [local go_sem ↓] Go.wp_at_zero Go.wp_at_succ
theorem BytesAt.below {w w' : World} {co : Option Addr} {n : Nat} {bs : Nat → Int} (h : BytesAt w co n bs) (hb : Below w.heap.size w w') : BytesAt w' co n bs := h.only (Below.toP (P := fun _ => False) hb) (fun _ _ _ _ e => e)
def Sd (w w' : World) (F : SysD) (e : Ending) : Prop := ∃ (eo : Option Addr) (ec : Nat) (xo : Option Addr) (xc : Nat) (io : Option Addr) (im ic : Nat),e = .returned (.tuple #[.agg #[.int .i64 (F.sg : Int),.slice eo F.ds.length ec,.slice xo F.tms.length xc],.slice io im ic]) ∧ ObsOf w' eo F.ds.length F.ds ∧ ItemsOf w' xo F.tms.length F.tms ∧ F.ds.length ≤ ec ∧ SysOk F ∧ Below w.heap.size w w'
theorem tms_read {X : World} {B : Nat} {v : Value} {its : List (Int × Int)} {t : TypeId} (h : X.ownsRow B t 2 v its.length (cellsI its)) : ∃ ao c,v = .slice ao its.length c ∧ ItemsOf X ao its.length its := by
 obtain ⟨ao,c,e,h1,h2,h3⟩ := own_read h
 refine ⟨ao,c,e,rfl,fun h0 => ?_⟩
 obtain ⟨b,off,e1,hl,hc⟩ := h3 h0
 refine ⟨b,off,e1,hl,fun i hi => ?_⟩
 obtain ⟨c1,c2⟩ := cellsI_at its i hi
 refine ⟨(hc (i * 2) (by omega)).trans c1,?_⟩
 rw [Nat.add_assoc]
 exact (hc (i * 2 + 1) (by omega)).trans c2
theorem sd_of {w w' : World} {F : SysD} {e : Ending} (h : ScrEd w w' F e) : Sd w w' F e := by
 obtain ⟨y,ov,tv,iv,its,rfl,rfl,hv,hok,ho,_,_,hb⟩ := h
 obtain ⟨R,hR,hO⟩ := hv.o
 obtain ⟨eo,ec,e1,_,h1⟩ := obs_read hR hO
 obtain ⟨eo',ec',e2,h2,_,_⟩ := own_read hR
 rw [e1] at e2
 simp only [Value.slice.injEq] at e2
 obtain ⟨_,_,e3⟩ := e2
 obtain ⟨xo,xc,e4,h4⟩ := tms_read hv.t
 obtain ⟨io,ic,e5⟩ := own_any ho
 exact ⟨eo,ec,xo,xc,io,_,ic,by rw [e1,e4,e5],h1,h4,by omega,hok,hb⟩
theorem tabs_of {w : World} (h : VarsY w) : Tabs w w.heap.size := ⟨h.vr.v.pow,h.vr.it,h.vr.fm,h.lt⟩
def Pd (B : Nat) (d : SyD) (cd : Int) (w w' : World) (e : Ending) : Prop := ∃ (eo : Option Addr) (ec : Nat) (xo : Option Addr) (xc : Nat),e = .returned (.tuple #[.agg #[.int .i64 d.sigs,.slice eo d.obs.length ec,.slice xo d.tms.length xc],.int .i64 cd]) ∧ ObsOf w' eo d.obs.length d.obs ∧ ItemsOf w' xo d.tms.length d.tms ∧ Below B w w'
theorem pd_of {B : Nat} {p : SyD × Int} {w w' : World} {e : Ending} (h : SyAns B p w e w') : Pd B p.1 p.2 w w' e := by
 obtain ⟨G,hd,he,hf,hb⟩ := h
 obtain ⟨eo,ec,xo,xc,hv,h1,h2⟩ := SyG.read hf
 have e1 : G.ob.xs.length = p.1.obs.length := by rw [← hd]; simp [SyG.dat]
 have e2 : G.tm.xs.length = p.1.tms.length := by rw [← hd]; simp [SyG.dat]
 have e3 : G.sg = p.1.sigs := by rw [← hd]; rfl
 rw [hd,e1] at h1
 rw [hd,e2] at h2
 rw [e1,e2,e3] at hv
 exact ⟨eo,ec,xo,xc,by rw [he,hv],h1,h2,hb⟩
set_option maxRecDepth 100000 in
set_option maxHeartbeats 3200000 in
theorem lawFormat (co : Option Addr) (n cap : Nat) (w : World) {bs : Nat → Int} (hc : BytesAt w co n bs) (hv : VarsY w) :
  Calls Tryz.prog 3 #[.slice co n cap] w fun e w' => e = .returned (.bool true) ∧ Below w.heap.size w w' := by
 by_cases h1 : n ≤ 1048576
 case neg =>
  have hn : ¬ (n : Int) ≤ 1048576 := by omega
  have hb : decide ((n : Int) > 1048576) = true := by simp; omega
  clear hc hv h1
  go_enter Tryz.func3,Tryz.ntmps3
  go_wp2_with fail
  go_ret
  exact ⟨rfl,Below.refl _ _⟩
 have n1 : ¬ (n : Int) > 1048576 := by omega
 obtain ⟨F,hF⟩ : ∃ F,F = (systemF n ⟨bs,0,0⟩).1 := ⟨_,rfl⟩
 have DS : Hid (∀ W,Below w.heap.size w W → Calls Tryz.prog 4 #[.slice co n cap] W fun e w' => Sd W w' F e) := hid (fun W hW => by
  rw [hF]; exact (drawScripted_any co n cap h1 W (hc.below hW)).mono (fun _ _ h => sd_of h))
 have HV := hid hv
 have D1 := hid (DS.out w (Below.refl _ _))
 clear hc hv hF h1
 go_enter Tryz.func3,Tryz.ntmps3
 go_upto_region 4 with (go_at_call 4; have q := D1.out; with_reducible refine q.mono ?_; clear q; intro e w1 hq; unfold Sd at hq; obtain ⟨eo,ec,xo,xc,io,im,ic,rfl,hO,hI,hec,hok,hb1⟩ := hq; have OB := hid hO; have IT := hid hI; have EC := hid hec; have OK := hid hok; have B1 := hid hb1; clear hO hI hec hok hb1)
 have DA := hid (drawn_all OK.out)
 have b1 := below1 w1 (.cells #[.int .i64 (F.sg : Int),.slice eo F.ds.length ec,.slice xo F.tms.length xc] 26)
 have X1 := hid (heap_alloc_new w1 (.cells #[.int .i64 (F.sg : Int),.slice eo F.ds.length ec,.slice xo F.tms.length xc] 26))
 obtain ⟨W1,hW1⟩ : ∃ W,W = w1.alloc (.cells #[.int .i64 (F.sg : Int),.slice eo F.ds.length ec,.slice xo F.tms.length xc] 26) := ⟨_,rfl⟩
 rw [← hW1] at b1 X1 ⊢
 have BW1 := hid (B1.out.trans (b1.mono B1.out.size))
 have n3 := OK.out.n
 have t3 := OK.out.t
 have C2 := hid (implPrint_any (F.sg : Int) eo xo F.ds.length ec F.tms.length xc F.ds F.tms W1 (by omega) EC.out (by omega) DA.out.fits DA.out.vals (OB.out.below b1) (IT.out.below b1) (tabs_of (HV.out.below BW1.out)))
 have hpr : prT (F.sg : Int) F.ds F.tms = sysT (F.sg : Int) F.ds F.tms := if_pos DA.out.chk
 rw [hpr] at C2
 obtain ⟨T,hT⟩ : ∃ T,T = sysT (F.sg : Int) F.ds F.tms := ⟨_,rfl⟩
 rw [← hT] at C2
 obtain ⟨p,hp⟩ : ∃ p,p = parW T := ⟨_,rfl⟩
 have PB : Hid (30000 < T.length → p = (sy0,-1)) := hid (fun h => by rw [hp]; unfold parW; rw [if_pos h])
 have PS : Hid (¬ 30000 < T.length → p = (⟨(F.sg : Int),F.ds,F.tms⟩,0)) := hid (fun h => by rw [hp,hT]; exact par_back DA.out.back (by rw [← hT]; exact h))
 have C3 : Hid (∀ W,Below w.heap.size w W → Calls Tryz.prog 6 #[.string ⟨T.toArray⟩] W fun e w' => Pd W.heap.size p.1 p.2 W w' e) := hid (fun W hW => by
  rw [hp]; exact (implParse_any ⟨T.toArray⟩ W (HV.out.below hW)).mono (fun _ _ h => pd_of h))
 have TL : (⟨T.toArray⟩ : ByteArray).size = T.length := by simp [ByteArray.size]
 obtain ⟨⟨ds,cd⟩,hpp⟩ : ∃ q,q = p := ⟨_,rfl⟩
 rw [← hpp] at PB PS C3
 dsimp only at C3
 obtain ⟨q0,q1,q2⟩ := three_cy X1.out
 have ql := lt_of_block X1.out
 obtain ⟨P1,hP1⟩ : ∃ P,P = w1.heap.size := ⟨_,rfl⟩
 rw [← hP1] at q0 q1 q2 ql ⊢
 clear hW1 b1 hpr hT hp hpp X1 D1 OB IT EC B1 hP1 n3 t3
 go_upto_region 5 with (go_at_call 5; have q := C2.out; with_reducible refine q.mono ?_; clear q; rintro e w2 ⟨rfl,hb2⟩; have B2 := hid (BW1.out.trans (hb2.mono BW1.out.size)); clear hb2)
 have C4 := hid (C3.out w2 B2.out)
 clear q0 q1 q2 ql C3
 go_upto_region 6 with (go_at_call 6; have q := C4.out; with_reducible refine q.mono ?_; clear q; intro e w3 hq; unfold Pd at hq; obtain ⟨eo3,ec3,xo3,xc3,rfl,hO,hI,hb3⟩ := hq; have O3 := hid hO; have I3 := hid hI; have B3 := hid (B2.out.trans (hb3.mono B2.out.size)); clear hO hI hb3)
 have b3 := below1 w3 (.cells #[.int .i64 ds.sigs,.slice eo3 ds.obs.length ec3,.slice xo3 ds.tms.length xc3] 26)
 have X3 := hid (heap_alloc_new w3 (.cells #[.int .i64 ds.sigs,.slice eo3 ds.obs.length ec3,.slice xo3 ds.tms.length xc3] 26))
 obtain ⟨W3,hW3⟩ : ∃ W,W = w3.alloc (.cells #[.int .i64 ds.sigs,.slice eo3 ds.obs.length ec3,.slice xo3 ds.tms.length xc3] 26) := ⟨_,rfl⟩
 rw [← hW3] at b3 X3 ⊢
 have BW3 := hid (B3.out.trans (b3.mono B3.out.size))
 have O4 := hid (O3.out.below b3)
 have I4 := hid (I3.out.below b3)
 obtain ⟨P3,hP3⟩ : ∃ P,P = w3.heap.size := ⟨_,rfl⟩
 rw [← hP3] at X3 ⊢
 have D4 := hid (DS.out W3 BW3.out)
 clear hW3 hP3 b3 C4 O3 I3 B3
 go_upto_region 7 with (go_at_call 4; have q := D4.out; with_reducible refine q.mono ?_; clear q; intro e w4 hq; unfold Sd at hq; obtain ⟨eo4,ec4,xo4,xc4,io4,im4,ic4,rfl,hO,hI,hec,hok,hb4⟩ := hq; have O5 := hid hO; have I5 := hid hI; have B4 := hid hb4; clear hO hI hec hok hb4)
 have b5 := below1 w4 (.cells #[.int .i64 (F.sg : Int),.slice eo4 F.ds.length ec4,.slice xo4 F.tms.length xc4] 26)
 have X5 := hid (heap_alloc_new w4 (.cells #[.int .i64 (F.sg : Int),.slice eo4 F.ds.length ec4,.slice xo4 F.tms.length xc4] 26))
 obtain ⟨W5,hW5⟩ : ∃ W,W = w4.alloc (.cells #[.int .i64 (F.sg : Int),.slice eo4 F.ds.length ec4,.slice xo4 F.tms.length xc4] 26) := ⟨_,rfl⟩
 rw [← hW5] at b5 X5 ⊢
 have B5 := hid (B4.out.trans (b5.mono B4.out.size))
 have BW5 := hid (BW3.out.trans (B5.out.mono BW3.out.size))
 have O6 := hid (O5.out.below b5)
 have I6 := hid (I5.out.below b5)
 have O7 := hid (O4.out.below B5.out)
 have I7 := hid (I4.out.below B5.out)
 have X4 := hid (block_below X3.out B5.out)
 obtain ⟨P5,hP5⟩ : ∃ P,P = w4.heap.size := ⟨_,rfl⟩
 rw [← hP5] at X5 ⊢
 clear hW5 hP5 b5 D4 O5 I5 O4 I4 X3 B4 DS
 by_cases hbig : 30000 < T.length
 ·have hcd := PB.out hbig
  simp only [Prod.mk.injEq] at hcd
  obtain ⟨_,hcd⟩ := hcd
  have hT2 : (30000 : Int) < (((⟨T.toArray⟩ : ByteArray).size : Nat) : Int) := by rw [TL]; omega
  subst hcd
  go_wp2
  go_ret
  exact ⟨rfl,BW5.out⟩
 ·have hcd := PS.out hbig
  simp only [Prod.mk.injEq] at hcd
  obtain ⟨rfl,rfl⟩ := hcd
  have hT2 : ¬ (30000 : Int) < (((⟨T.toArray⟩ : ByteArray).size : Nat) : Int) := by rw [TL]; omega
  have CH := hid (hSystem_same (F.sg : Int) eo3 xo3 eo4 xo4 F.ds.length ec3 F.tms.length xc3 ec4 xc4 F.ds F.tms W5 DA.out.fits (by have := OK.out.t; omega) O7.out I7.out O6.out I6.out)
  obtain ⟨a0,a1,a2⟩ := three_cy X4.out
  obtain ⟨d0,d1,d2⟩ := three_cy X5.out
  have al := lt_of_block X4.out
  have dl := lt_of_block X5.out
  dsimp only at a0 a1 a2
  go_wp2_with (go_at_call 7; have q := CH.out; with_reducible refine q.mono ?_; clear q; rintro e w6 ⟨rfl,hb6⟩; have B6 := hid (BW5.out.trans (hb6.mono BW5.out.size)); clear hb6)
  go_ret
  exact ⟨rfl,B6.out⟩
end Go.Proofs.YtkdgkomnbjepdaaGreatDoor
