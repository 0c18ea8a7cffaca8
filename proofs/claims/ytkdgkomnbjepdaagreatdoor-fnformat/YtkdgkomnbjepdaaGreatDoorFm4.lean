import Derived.Test.YtkdgkomnbjepdaaGreatDoorFa
import Derived.Deep.RegionHeld3
import Derived.OrdersHeld
import Derived.Deep.DeepCutAuto
namespace Go.Proofs.YtkdgkomnbjepdaaGreatDoor
open Go.RowKit Go.Sort
set_option linter.unusedVariables false
attribute [local go_sem ↓] Go.wp_at_zero Go.wp_at_succ
theorem three_cy {w : World} {H : Nat} {a b c : Value} {t : TypeId} (k : w.heap[H]? = some (.cells #[a,b,c] t (0,0))) : w.cell? ⟨H,0,none⟩ = some a ∧ w.cell? ⟨H,1,none⟩ = some b ∧ w.cell? ⟨H,2,none⟩ = some c := by
 simp [World.cell?,k]
theorem four_cy {w : World} {H : Nat} {a b c d : Value} {t : TypeId} (k : w.heap[H]? = some (.cells #[a,b,c,d] t (0,0))) : w.cell? ⟨H,0,none⟩ = some a ∧ w.cell? ⟨H,1,none⟩ = some b ∧ w.cell? ⟨H,2,none⟩ = some c ∧ w.cell? ⟨H,3,none⟩ = some d := by
 simp [World.cell?,k]
theorem five_cy {w : World} {H : Nat} {a b c d e : Value} {t : TypeId} (k : w.heap[H]? = some (.cells #[a,b,c,d,e] t (0,0))) : w.cell? ⟨H,0,none⟩ = some a ∧ w.cell? ⟨H,1,none⟩ = some b ∧ w.cell? ⟨H,2,none⟩ = some c ∧ w.cell? ⟨H,3,none⟩ = some d ∧ w.cell? ⟨H,4,none⟩ = some e := by
 simp [World.cell?,k]
theorem two_new (w : World) (a b : Obj) : ∃ W,W = (w.alloc a).alloc b ∧ Below w.heap.size w W := ⟨_,rfl,below2 w a b⟩
theorem box_a (w : World) (a : Obj) (b : Obj) {cs : Array Value} {t : TypeId} (h : a = .cells cs t) : ((w.alloc a).alloc b).heap[w.heap.size]? = some (.cells cs t (0,0)) := by
 subst h; exact block_below (heap_alloc_new w _) (below1 _ _)
theorem box_b (w : World) (a : Obj) (b : Obj) {cs : Array Value} {t : TypeId} (h : b = .cells cs t) : ((w.alloc a).alloc b).heap[w.heap.size + 1]? = some (.cells cs t (0,0)) := by
 subst h; simpa using heap_alloc_new (w.alloc a) _
set_option maxRecDepth 100000 in
set_option maxHeartbeats 6400000 in
theorem hSystem_same (sg : Int) (eo xo eo' xo' : Option Addr) (en ec xn xc ec' xc' : Nat) (es : List ObD) (xs : List (Int × Int)) (w : World) (fe : FitsObs es) (fx : xn ≤ 1048576) (he : ObsOf w eo en es) (hx : ItemsOf w xo xn xs) (he' : ObsOf w eo' en es) (hx' : ItemsOf w xo' xn xs) :
  Calls Tryz.prog 7 #[.agg #[.int .i64 sg,.slice eo en ec,.slice xo xn xc],.agg #[.int .i64 sg,.slice eo' en ec',.slice xo' xn xc']] w fun e w' => e = .returned (.bool true) ∧ Below w.heap.size w w' := by
 have hen : en ≤ 1048576 := by rw [← he.1]; exact fe.1
 have HF : Hid (∀ i,i < en → FitsOb (es.getD i ob0)) := hid (by have := fe.2; rw [he.1] at this; exact this)
 obtain ⟨W,hW,bW⟩ := two_new w (.cells #[.int .i64 sg,.slice eo en ec,.slice xo xn xc] 26) (.cells #[.int .i64 sg,.slice eo' en ec',.slice xo' xn xc'] 26)
 have X0 := box_a w (.cells #[.int .i64 sg,.slice eo en ec,.slice xo xn xc] 26) (.cells #[.int .i64 sg,.slice eo' en ec',.slice xo' xn xc'] 26) rfl
 have Y0 := box_b w (.cells #[.int .i64 sg,.slice eo en ec,.slice xo xn xc] 26) (.cells #[.int .i64 sg,.slice eo' en ec',.slice xo' xn xc'] 26) rfl
 rw [← hW] at X0 Y0
 have HX := hid (hx.below bW)
 have HY := hid (hx'.below bW)
 have HE := hid (he.below bW)
 have HE' := hid (he'.below bW)
 have BW := hid bW
 have XB := hid X0
 have YB := hid Y0
 obtain ⟨H,hH⟩ : ∃ H,H = w.heap.size := ⟨_,rfl⟩
 clear fe he hx he' hx' bW X0 Y0
 go_enter Tryz.func7,Tryz.ntmps7
 go_upto_region 1 with fail
 rw [← hW]
 rw [← hH] at XB YB ⊢
 have HH := hid hH
 clear hW hH
 obtain ⟨a0,a1,a2⟩ := three_cy XB.out
 obtain ⟨b0,b1,b2⟩ := three_cy YB.out
 have al := lt_of_block XB.out
 have bl := lt_of_block YB.out
 go_wp2
 go_loopw [41] (fun i wr => ∃ k : Nat,k ≤ xn ∧ i = .int .i64 k ∧ ∃ q,wr = W.drewN q) (fun i _ => xn - (intOf i).toNat)
 case atStart => exact ⟨0,Nat.zero_le _,rfl,0,rfl⟩
 case round =>
  obtain ⟨k,hk,rfl,q,rfl⟩ := hrel
  by_cases hlt : k < xn
  ·obtain ⟨b,off,rfl,hbl,hc⟩ := HX.out.2 (by omega)
   obtain ⟨d,off2,rfl,hbl2,hc2⟩ := HY.out.2 (by omega)
   obtain ⟨h1,h3⟩ := hc k hlt
   obtain ⟨h2,h4⟩ := hc2 k hlt
   have hi : (k : Int) < (xn : Int) := by omega
   obtain ⟨x,ex⟩ : ∃ x,x = (xs.getD k (0,0)).1 := ⟨_,rfl⟩
   obtain ⟨y,ey⟩ : ∃ y,y = (xs.getD k (0,0)).2 := ⟨_,rfl⟩
   rw [← ex] at h1 h2
   rw [← ey] at h3 h4
   clear ex ey hc hc2
   go_wp2
   go_quiet (fail)
   go_wp2
   go_roundw
   case rel => exact ⟨k + 1,by omega,by go_num,q + nq,by first | rfl | rw [World.drewN_drewN]⟩
   case measure => simp [intOf]; omega
  ·obtain rfl : k = xn := by omega
   clear hk hlt
   obtain ⟨Z,hZ⟩ : ∃ Z,Z = W.drewN q := ⟨_,rfl⟩
   have bZ : Below W.heap.size W Z := by rw [hZ]; exact below_drewN (Below.refl _ _) q
   rw [← hZ]
   have BZ := hid bZ
   have HEZ := hid (HE.out.below bZ)
   have HEZ' := hid (HE'.out.below bZ)
   have XZ := hid (block_below XB.out bZ)
   have YZ := hid (block_below YB.out bZ)
   clear hZ bZ a0 a1 a2 b0 b1 b2 al bl HX HY HE HE' XB YB
   obtain ⟨a0,a1,a2⟩ := three_cy XZ.out
   obtain ⟨b0,b1,b2⟩ := three_cy YZ.out
   have al := lt_of_block XZ.out
   have bl := lt_of_block YZ.out
   go_wp2
   clear a0 a1 a2 b0 b1 b2 al bl
   go_loopw [59] (fun i wr => ∃ k : Nat,k ≤ en ∧ i = .int .i64 k ∧ Below Z.heap.size Z wr) (fun i _ => en - (intOf i).toNat)
   case atStart => exact ⟨0,Nat.zero_le _,rfl,Below.refl _ _⟩
   case round =>
    obtain ⟨R,hR⟩ : ∃ R,R = wr := ⟨_,rfl⟩
    subst hR
    obtain ⟨k,hk,rfl,hb⟩ := hrel
    have BR := hid hb
    obtain ⟨a0,a1,a2⟩ := three_cy (block_below XZ.out hb)
    obtain ⟨b0,b1,b2⟩ := three_cy (block_below YZ.out hb)
    have al := lt_of_block (block_below XZ.out hb)
    have bl := lt_of_block (block_below YZ.out hb)
    by_cases hlt : k < en
    ·obtain ⟨b,off,rfl,hbl,hc⟩ := (HEZ.out.below hb).2 (by omega)
     obtain ⟨d,off2,rfl,hbl2,hc2⟩ := (HEZ'.out.below hb).2 (by omega)
     have hi : (k : Int) < (en : Int) := by omega
     obtain ⟨h,hcs,_,hof⟩ := hc k hlt
     obtain ⟨h',hcs',_,hof'⟩ := hc2 k hlt
     have hff := HF.out k hlt
     obtain ⟨s,es'⟩ : ∃ s,s = es.getD k ob0 := ⟨_,rfl⟩
     rw [← es'] at hcs hcs' hof hof' hff
     obtain ⟨ko,kn,kc,vo,vn,vc,uo,un,uc,so,sn,sc,tq,tn,tc⟩ := h
     obtain ⟨ko',kn',kc',vo',vn',vc',uo',un',uc',so',sn',sc',tq',tn',tc'⟩ := h'
     obtain rfl : kn = kn' := hof.hk.1.symm.trans hof'.hk.1
     obtain rfl : vn = vn' := hof.hv.1.symm.trans hof'.hv.1
     obtain rfl : un = un' := hof.hu.1.symm.trans hof'.hu.1
     obtain rfl : sn = sn' := hof.hs.1.symm.trans hof'.hs.1
     obtain rfl : tn = tn' := hof.ht.1.symm.trans hof'.ht.1
     have fk : kn ≤ 1048576 := by have := hff.fk; rw [hof.hk.1] at this; exact this
     have fv : vn ≤ 1048576 := by have := hff.fv; rw [hof.hv.1] at this; exact this
     have fu : un ≤ 1048576 := by have := hff.fu; rw [hof.hu.1] at this; exact this
     have fs : sn ≤ 1048576 := by have := hff.fs.1; rw [hof.hs.1] at this; exact this
     have ft : tn ≤ 1048576 := by have := hff.ft.1; rw [hof.ht.1] at this; exact this
     obtain ⟨x0,x1,x2,x3,x4,x5,x6,x7⟩ := hcs
     obtain ⟨y0,y1,y2,y3,y4,y5,y6,y7⟩ := hcs'
     obtain ⟨p,hp⟩ : ∃ p,p = s.prio := ⟨_,rfl⟩
     obtain ⟨qc,hqc⟩ : ∃ p,p = s.qcap := ⟨_,rfl⟩
     obtain ⟨dc,hdc⟩ : ∃ p,p = s.dcap := ⟨_,rfl⟩
     rw [← hp] at x0 y0
     rw [← hqc] at x1 y1
     rw [← hdc] at x2 y2
     dsimp only at x3 x4 x5 x6 x7 y3 y4 y5 y6 y7
     obtain ⟨V,hV,bV⟩ := two_new R (.cells #[.int .i64 p,.int .i64 qc,.int .i64 dc,.slice ko kn kc,.slice vo vn vc,.slice uo un uc,.slice so sn sc,.slice tq tn tc] 66) (.cells #[.int .i64 p,.int .i64 qc,.int .i64 dc,.slice ko' kn kc',.slice vo' vn vc',.slice uo' un uc',.slice so' sn sc',.slice tq' tn tc'] 66)
     have A0 := box_a R (.cells #[.int .i64 p,.int .i64 qc,.int .i64 dc,.slice ko kn kc,.slice vo vn vc,.slice uo un uc,.slice so sn sc,.slice tq tn tc] 66) (.cells #[.int .i64 p,.int .i64 qc,.int .i64 dc,.slice ko' kn kc',.slice vo' vn vc',.slice uo' un uc',.slice so' sn sc',.slice tq' tn tc'] 66) rfl
     have B0 := box_b R (.cells #[.int .i64 p,.int .i64 qc,.int .i64 dc,.slice ko kn kc,.slice vo vn vc,.slice uo un uc,.slice so sn sc,.slice tq tn tc] 66) (.cells #[.int .i64 p,.int .i64 qc,.int .i64 dc,.slice ko' kn kc',.slice vo' vn vc',.slice uo' un uc',.slice so' sn sc',.slice tq' tn tc'] 66) rfl
     rw [← hV] at A0 B0
     have OF := hid (hof.below bV)
     have OF' := hid (hof'.below bV)
     have BV := hid (BR.out.trans (bV.mono BR.out.size))
     have AB := hid A0
     have BB := hid B0
     have HFF := hid hff
     have CB := hid (hBank_same ko vo ko' vo' kn vn kc vc kc' vc' s.kinds s.vals V fk fv (hof.below bV).hk (hof.below bV).hv (hof'.below bV).hk (hof'.below bV).hv)
     have CI := hid (fun V1 (hb : Below V.heap.size V V1) => hInts_same uo uo' un uc uc' s.subs V1 fu ((OF.out.below hb).hu) ((OF'.out.below hb).hu))
     clear hc hc2 hof hof' hff hb es' hp hqc hdc A0 B0 fk fv fu bV
     go_upto_region 14 with fail
     rw [← hV]
     obtain ⟨Q,hQ⟩ : ∃ Q,Q = R.heap.size := ⟨_,rfl⟩
     rw [← hQ] at AB BB ⊢
     clear hV hQ x0 x1 x2 x3 x4 x5 x6 x7 y0 y1 y2 y3 y4 y5 y6 y7 a0 a1 a2 b0 b1 b2 al bl hbl hbl2
     obtain ⟨x0,x1,x2,x3,x4,x5,x6,x7⟩ := eight_cells AB.out
     obtain ⟨y0,y1,y2,y3,y4,y5,y6,y7⟩ := eight_cells BB.out
     have xl := lt_of_block AB.out
     have yl := lt_of_block BB.out
     go_upto_region 17 with (first
      | (go_at_call 15; have q := CB.out; with_reducible refine q.mono ?_; clear q; rintro e V1 ⟨rfl,hb1⟩; clear x0 x1 x2 x3 x4 x5 x6 x7 y0 y1 y2 y3 y4 y5 y6 y7 xl yl; obtain ⟨x0,x1,x2,x3,x4,x5,x6,x7⟩ := eight_cells (block_below AB.out hb1); obtain ⟨y0,y1,y2,y3,y4,y5,y6,y7⟩ := eight_cells (block_below BB.out hb1); have xl := lt_of_block (block_below AB.out hb1); have yl := lt_of_block (block_below BB.out hb1); have B1 := hid hb1; clear hb1)
      | (go_at_call 16; have q := CI.out V1 B1.out; with_reducible refine q.mono ?_; clear q; rintro e V2 ⟨rfl,hb2⟩; have B2 := hid (B1.out.trans (hb2.mono B1.out.size)); clear hb2 x0 x1 x2 x3 x4 x5 x6 x7 y0 y1 y2 y3 y4 y5 y6 y7 xl yl; obtain ⟨x0,x1,x2,x3,x4,x5,x6,x7⟩ := eight_cells (block_below AB.out B2.out); obtain ⟨y0,y1,y2,y3,y4,y5,y6,y7⟩ := eight_cells (block_below BB.out B2.out); have xl := lt_of_block (block_below AB.out B2.out); have yl := lt_of_block (block_below BB.out B2.out)))
     clear x0 x1 x2 x3 x4 x5 x6 x7 y0 y1 y2 y3 y4 y5 y6 y7 xl yl CB CI
     go_loopw [133] (fun i wr => ∃ j : Nat,j ≤ sn ∧ i = .int .i64 j ∧ Below V.heap.size V wr) (fun i _ => sn - (intOf i).toNat)
     case atStart => exact ⟨0,Nat.zero_le _,rfl,B2.out⟩
     case round =>
      obtain ⟨R2,hR2⟩ : ∃ R,R = wr := ⟨_,rfl⟩
      subst hR2
      obtain ⟨j,hj,rfl,hb⟩ := hrel
      have BR2 := hid hb
      obtain ⟨x0,x1,x2,x3,x4,x5,x6,x7⟩ := eight_cells (block_below AB.out hb)
      obtain ⟨y0,y1,y2,y3,y4,y5,y6,y7⟩ := eight_cells (block_below BB.out hb)
      have xl := lt_of_block (block_below AB.out hb)
      have yl := lt_of_block (block_below BB.out hb)
      by_cases hjt : j < sn
      ·obtain ⟨b,off,rfl,hbl,hc⟩ := (OF.out.below hb).hs.2 (by dsimp only; omega)
       obtain ⟨d,off2,rfl,hbl2,hc2⟩ := (OF'.out.below hb).hs.2 (by dsimp only; omega)
       have hji : (j : Int) < (sn : Int) := by omega
       have hsl : j < s.sts.length := by have := OF.out.hs.1; dsimp only at this; omega
       obtain ⟨g0,g1,⟨co,cn,cc,g2,_,hE⟩,⟨po,pn,pc,g3,_,hX⟩⟩ := hc j hjt
       obtain ⟨k0,k1,⟨co',cn',cc',k2,_,hE'⟩,⟨po',pn',pc',k3,_,hX'⟩⟩ := hc2 j hjt
       obtain ⟨t,ht⟩ : ∃ t,t = s.sts.getD j st0 := ⟨_,rfl⟩
       have fE := (HFF.out.fs.2 j hsl).1
       have fX := (HFF.out.fs.2 j hsl).2
       rw [← ht] at g0 g1 hE hX k0 k1 hE' hX' fE fX
       obtain rfl : cn = cn' := hE.1.symm.trans hE'.1
       obtain rfl : pn = pn' := hX.1.symm.trans hX'.1
       obtain ⟨a,ha⟩ : ∃ a,a = t.parent := ⟨_,rfl⟩
       obtain ⟨i,hi⟩ : ∃ a,a = t.initial := ⟨_,rfl⟩
       rw [← ha] at g0 k0
       rw [← hi] at g1 k1
       obtain ⟨U,hU,bU⟩ := two_new R2 (.cells #[.int .i64 a,.int .i64 i,.slice co cn cc,.slice po pn pc] 71) (.cells #[.int .i64 a,.int .i64 i,.slice co' cn cc',.slice po' pn pc'] 71)
       have A0 := box_a R2 (.cells #[.int .i64 a,.int .i64 i,.slice co cn cc,.slice po pn pc] 71) (.cells #[.int .i64 a,.int .i64 i,.slice co' cn cc',.slice po' pn pc'] 71) rfl
       have B0 := box_b R2 (.cells #[.int .i64 a,.int .i64 i,.slice co cn cc,.slice po pn pc] 71) (.cells #[.int .i64 a,.int .i64 i,.slice co' cn cc',.slice po' pn pc'] 71) rfl
       rw [← hU] at A0 B0
       have A1 := hid A0
       have A2 := hid B0
       have BU := hid (hb.trans (bU.mono hb.size))
       have CE := hid (hStms_same co co' cn cc cc' t.entry U fE (hE.below bU) (hE'.below bU))
       have CX := hid (fun U1 (h1 : Below U.heap.size U U1) => hStms_same po po' pn pc pc' t.exit U1 fX ((hX.below bU).below h1) ((hX'.below bU).below h1))
       clear hc hc2 hb ht ha hi hE hX hE' hX' fE fX A0 B0 bU hsl
       go_upto_region 21 with fail
       rw [← hU]
       obtain ⟨Q2,hQ2⟩ : ∃ Q,Q = R2.heap.size := ⟨_,rfl⟩
       rw [← hQ2] at A1 A2 ⊢
       clear hU hQ2 x0 x1 x2 x3 x4 x5 x6 x7 y0 y1 y2 y3 y4 y5 y6 y7 xl yl g0 g1 g2 g3 k0 k1 k2 k3 hbl hbl2
       obtain ⟨g0,g1,g2,g3⟩ := four_cy A1.out
       obtain ⟨k0,k1,k2,k3⟩ := four_cy A2.out
       have gl := lt_of_block A1.out
       have kl := lt_of_block A2.out
       go_wp2_with (first
        | (go_at_call 17; have q := CE.out; with_reducible refine q.mono ?_; clear q; rintro e U1 ⟨rfl,hb1⟩; clear g0 g1 g2 g3 k0 k1 k2 k3 gl kl; obtain ⟨g0,g1,g2,g3⟩ := four_cy (block_below A1.out hb1); obtain ⟨k0,k1,k2,k3⟩ := four_cy (block_below A2.out hb1); have gl := lt_of_block (block_below A1.out hb1); have kl := lt_of_block (block_below A2.out hb1); have B3 := hid hb1; clear hb1 CE)
        | (go_at_call 17; have q := CX.out U1 B3.out; with_reducible refine q.mono ?_; clear q; rintro e U2 ⟨rfl,hb2⟩; have B4 := hid (B3.out.trans (hb2.mono B3.out.size)); clear hb2))
       go_roundw
       case rel => exact ⟨j + 1,by omega,by go_num,BU.out.trans (B4.out.mono BU.out.size)⟩
       case measure => simp [intOf]; omega
      ·obtain rfl : j = sn := by omega
       clear hb hj hjt
       go_upto_region 25 with fail
       clear x0 x1 x2 x3 x4 x5 x6 x7 y0 y1 y2 y3 y4 y5 y6 y7 xl yl
       go_loopw [181] (fun i wr => ∃ j : Nat,j ≤ tn ∧ i = .int .i64 j ∧ Below V.heap.size V wr) (fun i _ => tn - (intOf i).toNat)
       case atStart => exact ⟨0,Nat.zero_le _,rfl,BR2.out⟩
       case round =>
        obtain ⟨R3,hR3⟩ : ∃ R,R = wr := ⟨_,rfl⟩
        subst hR3
        obtain ⟨m,hm,rfl,hb⟩ := hrel
        have BR3 := hid hb
        obtain ⟨x0,x1,x2,x3,x4,x5,x6,x7⟩ := eight_cells (block_below AB.out hb)
        obtain ⟨y0,y1,y2,y3,y4,y5,y6,y7⟩ := eight_cells (block_below BB.out hb)
        have xl := lt_of_block (block_below AB.out hb)
        have yl := lt_of_block (block_below BB.out hb)
        by_cases hmt : m < tn
        ·obtain ⟨b,off,rfl,hbl,hc⟩ := (OF.out.below hb).ht.2 (by dsimp only; omega)
         obtain ⟨d,off2,rfl,hbl2,hc2⟩ := (OF'.out.below hb).ht.2 (by dsimp only; omega)
         have hmi : (m : Int) < (tn : Int) := by omega
         have htl : m < s.trs.length := by have := OF.out.ht.1; dsimp only at this; omega
         obtain ⟨g0,g1,⟨co,cn,cc,g2,_,hE⟩,g3,⟨po,pn,pc,g4,_,hX⟩⟩ := hc m hmt
         obtain ⟨k0,k1,⟨co',cn',cc',k2,_,hE'⟩,k3,⟨po',pn',pc',k4,_,hX'⟩⟩ := hc2 m hmt
         obtain ⟨t,ht⟩ : ∃ t,t = s.trs.getD m tr0 := ⟨_,rfl⟩
         have fE := (HFF.out.ft.2 m htl).1
         have fX := (HFF.out.ft.2 m htl).2
         rw [← ht] at g0 g1 g3 hE hX k0 k1 k3 hE' hX' fE fX
         obtain rfl : cn = cn' := hE.1.symm.trans hE'.1
         obtain rfl : pn = pn' := hX.1.symm.trans hX'.1
         obtain ⟨a,ha⟩ : ∃ a,a = t.src := ⟨_,rfl⟩
         obtain ⟨i,hi⟩ : ∃ a,a = t.sig := ⟨_,rfl⟩
         obtain ⟨f,hf⟩ : ∃ a,a = t.target := ⟨_,rfl⟩
         rw [← ha] at g0 k0
         rw [← hi] at g1 k1
         rw [← hf] at g3 k3
         have fE' : cn ≤ 1048576 := by rw [← hE.1]; exact fE
         obtain ⟨U,hU,bU⟩ := two_new R3 (.cells #[.int .i64 a,.int .i64 i,.slice co cn cc,.int .i64 f,.slice po pn pc] 75) (.cells #[.int .i64 a,.int .i64 i,.slice co' cn cc',.int .i64 f,.slice po' pn pc'] 75)
         have A0 := box_a R3 (.cells #[.int .i64 a,.int .i64 i,.slice co cn cc,.int .i64 f,.slice po pn pc] 75) (.cells #[.int .i64 a,.int .i64 i,.slice co' cn cc',.int .i64 f,.slice po' pn pc'] 75) rfl
         have B0 := box_b R3 (.cells #[.int .i64 a,.int .i64 i,.slice co cn cc,.int .i64 f,.slice po pn pc] 75) (.cells #[.int .i64 a,.int .i64 i,.slice co' cn cc',.int .i64 f,.slice po' pn pc'] 75) rfl
         rw [← hU] at A0 B0
         have A1 := hid A0
         have A2 := hid B0
         have BU := hid (hb.trans (bU.mono hb.size))
         have CE := hid (hCode_same co co' cn cc cc' t.guard U fE' (hE.below bU) (hE'.below bU))
         have CX := hid (fun U1 (h1 : Below U.heap.size U U1) => hStms_same po po' pn pc pc' t.action U1 fX ((hX.below bU).below h1) ((hX'.below bU).below h1))
         clear hc hc2 hb ht ha hi hf hE hX hE' hX' fE fE' fX A0 B0 bU htl
         go_upto_region 29 with fail
         rw [← hU]
         obtain ⟨Q2,hQ2⟩ : ∃ Q,Q = R3.heap.size := ⟨_,rfl⟩
         rw [← hQ2] at A1 A2 ⊢
         clear hU hQ2 x0 x1 x2 x3 x4 x5 x6 x7 y0 y1 y2 y3 y4 y5 y6 y7 xl yl g0 g1 g2 g3 g4 k0 k1 k2 k3 k4 hbl hbl2
         obtain ⟨g0,g1,g2,g3,g4⟩ := five_cy A1.out
         obtain ⟨k0,k1,k2,k3,k4⟩ := five_cy A2.out
         have gl := lt_of_block A1.out
         have kl := lt_of_block A2.out
         go_wp2_with (first
          | (go_at_call 18; have q := CE.out; with_reducible refine q.mono ?_; clear q; rintro e U1 ⟨rfl,hb1⟩; clear g0 g1 g2 g3 g4 k0 k1 k2 k3 k4 gl kl; obtain ⟨g0,g1,g2,g3,g4⟩ := five_cy (block_below A1.out hb1); obtain ⟨k0,k1,k2,k3,k4⟩ := five_cy (block_below A2.out hb1); have gl := lt_of_block (block_below A1.out hb1); have kl := lt_of_block (block_below A2.out hb1); have B3 := hid hb1; clear hb1 CE)
          | (go_at_call 17; have q := CX.out U1 B3.out; with_reducible refine q.mono ?_; clear q; rintro e U2 ⟨rfl,hb2⟩; have B4 := hid (B3.out.trans (hb2.mono B3.out.size)); clear hb2))
         go_roundw
         case rel => exact ⟨m + 1,by omega,by go_num,BU.out.trans (B4.out.mono BU.out.size)⟩
         case measure => simp [intOf]; omega
        ·obtain rfl : m = tn := by omega
         clear hb hm hmt x0 x1 x2 x3 x4 x5 x6 x7 y0 y1 y2 y3 y4 y5 y6 y7 xl yl
         go_wp2
         go_roundw
         case rel => exact ⟨k + 1,by omega,by go_num,BV.out.trans (BR3.out.mono BV.out.size)⟩
         case measure => simp [intOf]; omega
    ·obtain rfl : k = en := by omega
     clear hb
     go_wp2
     go_ret
     exact ⟨rfl,BW.out.trans ((BZ.out.trans (BR.out.mono BZ.out.size)).mono BW.out.size)⟩
end Go.Proofs.YtkdgkomnbjepdaaGreatDoor
