import Derived.Test.YtiimkhepplkocaaGreatVd
import Derived.BigRegion
import Derived.BigQuiet
import Derived.Test.YtiimkhepplkocaaGreatXb
import Derived.Test.YtiimkhepplkocaaGreatNa
import Derived.Test.YtiimkhepplkocaaGreatV7
set_option maxRecDepth 100000
set_option maxHeartbeats 16000000
namespace Go.Proofs.YtiimkhepplkocaaGreat
open Go.RowKit Go.Sort
set_option linter.unusedVariables false
attribute [local go_sem ↓] Go.wp_at_zero Go.wp_at_succ
structure OnlyP (P:Nat→Prop) (w w':World):Prop where
 os:w'.os=w.os
 tape:w'.tape=w.tape
 output:w'.output=w.output
 size:w.heap.size≤w'.heap.size
 block:∀q,q<w.heap.size→¬P q→w'.heap[q]? =w.heap[q]?
theorem OnlyP.refl(P:Nat→Prop)(w:World):OnlyP P w w:=⟨rfl,rfl,rfl,Nat.le_refl _,λ_ _ _=>rfl⟩
theorem OnlyP.trans{P:Nat→Prop}{a b c:World}(h:OnlyP P a b)(k:OnlyP P b c):OnlyP P a c:=⟨k.os.trans h.os,k.tape.trans h.tape,k.output.trans h.output,Nat.le_trans h.size k.size,λq hq hn=>(k.block q (Nat.lt_of_lt_of_le hq h.size) hn).trans (h.block q hq hn)⟩
theorem OnlyP.mono{P Q:Nat→Prop}{a b:World}(h:OnlyP P a b)(hPQ:∀q,P q→Q q):OnlyP Q a b:=⟨h.os,h.tape,h.output,h.size,λq hq hn=>h.block q hq (λx=>hn (hPQ q x))⟩
theorem Below.toP{P:Nat→Prop}{a b:World}(h:Below a.heap.size a b):OnlyP P a b:=⟨h.os,h.tape,h.output,h.size,λq hq _=>h.block q hq⟩
theorem OnlyP.set{P:Nat→Prop}{w:World}{g o:Nat}(u:Value)(hP:P g):OnlyP P w (w.setCell ⟨g,o,none⟩ u):=⟨rfl,rfl,rfl,by simp,λq _ hn=>Below.heap_setCell _ _ _ _ (λe=>hn (by rw[e];exact hP))⟩
theorem OnlyP.own{P:Nat→Prop}{w w':World}{B:Nat}{e:TypeId}{size:Nat}{v:Value}{n:Nat}{xs:List Value}(h:OnlyP P w w')(ho:w.ownsRow B e size v n xs)(hn:∀b,v.ownBlock=some b→¬P b):w'.ownsRow B e size v n xs:=qhG ho (λb hb e=>h.block b hb (hn b e))
end Go.Proofs.YtiimkhepplkocaaGreat
namespace Go.Proofs.YtiimkhepplkocaaGreat
open Go.RowKit Go.Sort
set_option linter.unusedVariables false
attribute [local go_sem ↓] Go.wp_at_zero Go.wp_at_succ
theorem aR{w:World}{H:Nat}{cs:Array Value}{t:TypeId}(h:w.heap[H]? =some (.cells cs t (0,0))):∀o,w.frozen? ⟨H,o,none⟩=false:=λo=>frozen_of_row w H o cs t h
def BytesAt(w:World)(co:Option Addr)(n:Nat):Prop:=0<n→∃g off,co=some ⟨g,off,none⟩∧g<w.heap.size∧∀i,i<n→∃b:Int,w.cell? ⟨g,off+i,none⟩=some (.int .u8 b)∧0≤b∧b<256
structure Cur (w:World) (cb:Nat) (co:Option Addr) (n cap:Nat) (A:Nat):Prop where
 ex:∃at' room seed:Int,w.heap[cb]? =some (.cells #[.slice co n cap,.int .i64 at',.int .i64 room,.int .i64 seed] 97 (0,0))∧0≤at'∧at'≤A∧0≤seed∧seed<2147483648
 by':BytesAt w co n
 off:0<n→∀g o,co=some ⟨g,o,none⟩→g≠cb
 n1:n≤1048576
theorem BytesAt.only{P:Nat→Prop}{w w':World}{co:Option Addr}{n:Nat}(h:BytesAt w co n)(hP:OnlyP P w w')(hn:0<n→∀g o,co=some ⟨g,o,none⟩→¬P g):BytesAt w' co n:=λh0=>by
 obtain⟨g,off,e,hl,hc⟩:=h h0;refine⟨g,off,e,Nat.lt_of_lt_of_le hl hP.size,λi hi=>?_⟩;obtain⟨b,h1,h2⟩:=hc i hi;refine⟨b,?_,h2⟩;have hk:=hP.block g hl (hn h0 g off e);rw[←h1];simp only[World.cell?,hk]
theorem Cur.only{P:Nat→Prop}{w w':World}{cb:Nat}{co:Option Addr}{n cap A:Nat}(h:Cur w cb co n cap A)(hP:OnlyP P w w')(hc:¬P cb)(hn:0<n→∀g o,co=some ⟨g,o,none⟩→¬P g):Cur w' cb co n cap A:=by
 obtain⟨a,r,s,hb,h2⟩:=h.ex;exact⟨⟨a,r,s,(hP.block cb (lt_of_block hb) hc).trans hb,h2⟩,h.by'.only hP hn,h.off,h.n1⟩
theorem Cur.below{w w':World}{cb:Nat}{co:Option Addr}{n cap A:Nat}(h:Cur w cb co n cap A)(hb:Below w.heap.size w w'):Cur w' cb co n cap A:=h.only (Below.toP (P:=λ_=>False) hb) (λe=>e) (λ_ _ _ _ e=>e)
theorem Cur.mono{w:World}{cb:Nat}{co:Option Addr}{n cap A B:Nat}(h:Cur w cb co n cap A)(hAB:A≤B):Cur w cb co n cap B:=by
 obtain⟨a,r,s,hb,h1,h2,h3⟩:=h.ex;exact⟨⟨a,r,s,hb,h1,by omega,h3⟩,h.by',h.off,h.n1⟩
theorem Cur.lt{w:World}{cb:Nat}{co:Option Addr}{n cap A:Nat}(h:Cur w cb co n cap A):cb<w.heap.size:=by
 obtain⟨a,r,s,hb,_⟩:=h.ex;exact lt_of_block hb
theorem Cur.code_lt{w:World}{cb:Nat}{co:Option Addr}{n cap A:Nat}(h:Cur w cb co n cap A):0<n→∀g o,co=some ⟨g,o,none⟩→g<w.heap.size:=λh0 g o e=>by
 obtain⟨g',o',e',hl,_⟩:=h.by' h0;rw[e]at e';simp at e';omega
abbrev Dw(cb:Nat)(w w':World):Prop:=OnlyP (λb=>b=cb) w w'
theorem qvX{w X:World}{cb:Nat}{co:Option Addr}{n cap A:Nat}{a r s:Int}(h:Cur w cb co n cap A)(hP:Dw cb w X)(hb:X.heap[cb]? =some (.cells #[.slice co n cap,.int .i64 a,.int .i64 r,.int .i64 s] 97 (0,0)))(h1:0≤a∧a≤A+1)(h2:0≤s∧s<2147483648):Cur X cb co n cap (A+1):=
 ⟨⟨a,r,s,hb,h1.1,by omega,h2⟩,h.by'.only hP (λh0 g o e=>h.off h0 g o e),h.off,h.n1⟩
theorem qi1(cb:Nat)(co:Option Addr)(n cap A:Nat)(w:World)(hA:A≤1000000000000)(h:Cur w cb co n cap A):
  Calls Tryz.prog 135 #[.pointer (some ⟨cb,0,none⟩)] w λe w'=>∃r:Int,e=.returned (.int .i64 r)∧(0≤r∧r<256)∧Cur w' cb co n cap (A+1)∧Dw cb w w':=by
 obtain⟨a,rm,sd,hb,ha0,haA,hs0,hs1⟩:=h.ex;obtain⟨i,rfl⟩:∃i:Nat,a=i:=⟨a.toNat,by omega⟩;have HC:=hid h;have HB:=hid hb;have n1:=h.n1;obtain⟨c0,c1,c2,c3⟩:=aC hb;have fz:=aR hb;have cl:=lt_of_block hb;clear h;have a1:IntKind.i64.wrap ((i:Int)+1)=(i:Int)+1:=IntWalk.i64_in _ (by omega);have b1:IntKind.i64.wrap (40*(n:Int))=40*n:=IntWalk.i64_in _ (by omega);have b2:IntKind.i64.wrap (150+40*(n:Int))=150+40*n:=IntWalk.i64_in _ (by omega);obtain⟨W,hW⟩:∃W,W=w.setCell ⟨cb,1,none⟩ (.int .i64 ((i:Int)+1)):=⟨_,rfl⟩;have HW:Hid (W.heap[cb]? =some (.cells #[.slice co n cap,.int .i64 ((i:Int)+1),.int .i64 rm,.int .i64 sd] 97 (0,0))):=hid (by rw[hW,heap_setCell_same w cb 1 _ _ _ hb];rfl);have OW:Hid (Dw cb w W):=hid (by rw[hW];exact OnlyP.set _ rfl);have CW:Hid (Cur W cb co n cap (A+1)):=hid (qvX HC.out OW.out HW.out (by omega) (by omega));go_enter Tryz.func135,Tryz.ntmps135;go_upto_region 2 with fail;rw[←hW];obtain⟨d0,d1,d2,d3⟩:=aC HW.out;have fy:=aR HW.out;have dl:=lt_of_block HW.out;clear c0 c1 c2 c3 fz cl hb hW;have DN:Hid (∀k,Cur (W.drewN k) cb co n cap (A+1)∧Dw cb w (W.drewN k)):=hid (λk=>⟨CW.out.below (below_drewN (Below.refl _ _) k),OW.out.trans (Below.toP (below_drewN (Below.refl _ _) k))⟩);have DS:Hid (∀k m s',0≤s'→s'<2147483648→Cur (((W.drewN k).setCell ⟨cb,3,none⟩ (.int .i64 s')).drewN m) cb co n cap (A+1)∧Dw cb w (((W.drewN k).setCell ⟨cb,3,none⟩ (.int .i64 s')).drewN m)):=hid (λk m s' h0 h1=>by
  have hP:Dw cb w (((W.drewN k).setCell ⟨cb,3,none⟩ (.int .i64 s')).drewN m):=((DN.out k).2.trans (OnlyP.set _ rfl)).trans (Below.toP (below_drewN (Below.refl _ _) m));have hb:((W.drewN k).setCell ⟨cb,3,none⟩ (.int .i64 s')).heap[cb]? =_:=heap_setCell_same (W.drewN k) cb 3 _ _ (.int .i64 s') HW.out;exact⟨qvX HC.out hP hb (by omega) ⟨h0,h1⟩,hP⟩)
 by_cases h1:(i:Int)+1>150+40*(n:Int)
 ·go_quiet(fail)
  go_wp2_with fail;go_ret;exact⟨0,rfl,by omega,(DN.out _).1,(DN.out _).2⟩
 ·by_cases h2:(i:Int)+1>(n:Int)
  ·go_quiet(fail)
   go_upto_region 4 with fail;go_quiet(fail);go_wp2_with fail;go_ret;exact⟨_,rfl,by omega,(DS.out _ 0 _ (by omega) (by omega)).1,(DS.out _ 0 _ (by omega) (by omega)).2⟩
  ·obtain⟨g,off,rfl,hgl,hby⟩:=HC.out.by' (by omega)
   obtain⟨b,hcell,hb0,hb1⟩:=hby i (by omega);have gne:=HC.out.off (by omega) g off rfl;have cW:W.cell? ⟨g,off+i,none⟩=some (.int .u8 b):=by
    rw[←hcell];have hk:=OW.out.block g hgl gne;simp only[World.cell?,hk]
   have gW:g<W.heap.size:=Nat.lt_of_lt_of_le hgl OW.out.size;clear hby hcell;go_quiet(fail);go_upto_region 4 with fail;obtain⟨U,hU⟩:∃U,U=W.drewN nq:=⟨_,rfl⟩;rw[←hU];have u0:U.cell? ⟨cb,0,none⟩=some (.slice (some ⟨g,off,none⟩) n cap):=by rw[hU];exact d0
   have u1:U.cell? ⟨cb,1,none⟩=some (.int .i64 ((i:Int)+1)):=by rw[hU];exact d1
   have HU:=hid hU;clear hU;go_quiet(fail);go_upto_region 7 with fail;obtain⟨V,hV0⟩:∃V,V=U.drewN nq:=⟨_,rfl⟩;rw[←hV0];obtain⟨mv,hV⟩:∃m,V=W.drewN m:=⟨_,by rw[hV0,HU.out,World.drewN_drewN]⟩;clear hV0 u0 u1;have e0:V.cell? ⟨cb,0,none⟩=some (.slice (some ⟨g,off,none⟩) n cap):=by rw[hV];exact d0
   have e1:V.cell? ⟨cb,1,none⟩=some (.int .i64 ((i:Int)+1)):=by rw[hV];exact d1
   have e3:V.cell? ⟨cb,3,none⟩=some (.int .i64 sd):=by rw[hV];exact d3
   have eg:V.cell? ⟨g,off+i,none⟩=some (.int .u8 b):=by rw[hV];exact cW
   have fv:∀o,V.frozen? ⟨cb,o,none⟩=false:=by rw[hV];exact fy
   have vl:cb<V.heap.size:=by rw[hV];exact dl
   have gl2:g<V.heap.size:=by rw[hV];exact gW
   have DV:Hid (∀m k s',0≤s'→s'<2147483648→Cur (((V.drewN m).setCell ⟨cb,3,none⟩ (.int .i64 s')).drewN k) cb (some ⟨g,off,none⟩) n cap (A+1)∧Dw cb w (((V.drewN m).setCell ⟨cb,3,none⟩ (.int .i64 s')).drewN k)):=hid (λm k s' h0 h1=>by
    rw[hV,World.drewN_drewN];exact DS.out _ k s' h0 h1)
   clear hV d0 d1 d2 d3 cW gW dl fy;go_region;go_upto_region 8 with fail;have sr:0≤(sd*31+b+7)%2147483648∧(sd*31+b+7)%2147483648<2147483648:=by omega
   obtain⟨s9,hs9⟩:∃x,x=(sd*31+b+7)%2147483648:=⟨_,rfl⟩;rw[←hs9]at sr⊢;obtain⟨Y,hY⟩:∃Y,Y=(V.setCell ⟨cb,3,none⟩ (.int .i64 s9)).drew:=⟨_,rfl⟩;have gc:¬(cb=g):=λe=>gne e.symm;have y0:Y.cell? ⟨cb,0,none⟩=some (.slice (some ⟨g,off,none⟩) n cap):=by rw[hY];go_simp
   have y1:Y.cell? ⟨cb,1,none⟩=some (.int .i64 ((i:Int)+1)):=by rw[hY];go_simp
   have yg:Y.cell? ⟨g,off+i,none⟩=some (.int .u8 b):=by rw[hY];go_simp
   have gl3:g<Y.heap.size:=by rw[hY];simpa using gl2
   have cl3:cb<Y.heap.size:=by rw[hY];simpa using vl
   have DY:Hid (∀k,Cur (Y.drewN k) cb (some ⟨g,off,none⟩) n cap (A+1)∧Dw cb w (Y.drewN k)):=hid (λk=>by
    rw[hY,World.drewN_drew];exact DV.out 0 _ s9 sr.1 sr.2)
   rw[←hY];clear hY hs9 e0 e1 e3 eg fv vl gl2;go_quiet(fail);go_wp2_with fail;go_ret;exact⟨b,rfl,by omega,(DY.out _).1,(DY.out _).2⟩
theorem uN(cb:Nat)(co:Option Addr)(n cap A:Nat)(k:Int)(hk:k≤65536)(w:World)(hA:A≤100000000000)(h:Cur w cb co n cap A):
  Calls Tryz.prog 94 #[.pointer (some ⟨cb,0,none⟩),.int .i64 k] w λe w'=>∃r:Nat,e=.returned (.int .i64 (r:Int))∧(r=0∨(r:Int)<k)∧Cur w' cb co n cap (A+2)∧Dw cb w w':=by
 have HC:=hid h;clear h;by_cases h1:k≤1
 ·go_enter Tryz.func94,Tryz.ntmps94
  go_wp2_with fail;go_ret;exact⟨0,rfl,.inl rfl,HC.out.mono (by omega),OnlyP.refl _ _⟩
 ·by_cases h2:k≤256
  ·have C:=hid (qi1 cb co n cap A w (by omega) HC.out)
   have hk0:¬k=0:=by omega
   go_enter Tryz.func94,Tryz.ntmps94;go_wp2_with(go_at_call 135;refine C.out.mono ?_;rintro e w1 ⟨r,rfl,⟨hr0,hr1⟩,hc,hd⟩;have C1:=hid hc;have D1:=hid hd;clear hc hd);obtain⟨m,hm⟩:∃m:Nat,r%k=m:=⟨(r%k).toNat,by have:=Int.emod_nonneg r hk0;omega⟩;have hlt:=Int.emod_lt_of_pos r (show 0<k by omega);rw[hm]at hlt⊢;go_ret;exact⟨m,rfl,.inr hlt,C1.out.mono (by omega),D1.out⟩
  ·have C:=hid (qi1 cb co n cap A w (by omega) HC.out)
   have C':=hid (λw (h:Cur w cb co n cap (A+1))=>qi1 cb co n cap (A+1) w (by omega) h);have hk0:¬k=0:=by omega
   go_enter Tryz.func94,Tryz.ntmps94;go_wp2_with(first
    |(go_at_call 135;refine C.out.mono ?_;rintro e w1 ⟨r,rfl,⟨hr0,hr1⟩,hc,hd⟩;have C1:=hid hc;have D1:=hid hd;clear hc hd)
    |(go_at_call 135;refine(C'.out _ C1.out).mono ?_;rintro e w2 ⟨r2,rfl,⟨hr2,hr3⟩,hc,hd⟩;have C2:=hid hc;have D2:=hid hd;clear hc hd))
   obtain⟨m,hm⟩:∃m:Nat,(r*256+r2)%k=m:=⟨((r*256+r2)%k).toNat,by have:=Int.emod_nonneg (r*256+r2) hk0;omega⟩;have hlt:=Int.emod_lt_of_pos (r*256+r2) (show 0<k by omega);rw[hm]at hlt⊢;go_ret;exact⟨m,rfl,.inr hlt,C2.out.mono (by omega),D1.out.trans D2.out⟩
end Go.Proofs.YtiimkhepplkocaaGreat
namespace Go.Proofs.YtiimkhepplkocaaGreat
open Go.RowKit Go.Sort
set_option linter.unusedVariables false
attribute [local go_sem ↓] Go.wp_at_zero Go.wp_at_succ
theorem qjM{w:World}{H:Nat}{zs:List Int}{t:TypeId}{r:Nat}(hb:w.heap[H]? =some (.cells (zs.map (Value.int .i64)).toArray t (0,0)))(hr:r<zs.length):w.cell? ⟨H,r,none⟩=some (.int .i64 (zs.getD r 0)):=by
 simp[World.cell?,hb,hr]
theorem qjL{zs:List Int}{P:Int→Prop}(h:∀z∈zs,P z){r:Nat}(hr:r<zs.length):P (zs.getD r 0):=by
 rw[List.getD_eq_getElem?_getD,List.getElem?_eq_getElem hr];exact h _ (List.getElem_mem hr)
theorem dP(cb:Nat)(w:World)(o:Obj):Dw cb w (w.alloc o):=Below.toP (aB w o)
theorem Dw.at{cb:Nat}{w w':World}(h:Dw cb w w'){H:Nat}{o:Obj}(hb:w.heap[H]? =some o)(hn:H≠cb):w'.heap[H]? =some o:=(h.block H (lt_of_block hb) hn).trans hb
theorem qDQ(cb:Nat)(co:Option Addr)(n cap A:Nat)(w:World)(hA:A≤10000000000)(h:Cur w cb co n cap A):
  Calls Tryz.prog 188 #[.pointer (some ⟨cb,0,none⟩)] w λe w'=>∃r:Int,e=.returned (.int .i64 r)∧(-999999999≤r∧r≤999999999)∧Cur w' cb co n cap (A+2)∧Dw cb w w':=by
 have ne:w.heap.size≠cb:=λe=>by have:=h.lt;omega
 have C:=hid (λo=>uN cb co n cap A 20 (by omega) (w.alloc o) (by omega) (h.below (aB _ _)));clear h;go_enter Tryz.func188,Tryz.ntmps188;go_wp2_with(go_at_call 94;refine(C.out _).mono ?_;rintro e w1 ⟨r,rfl,hr,hc,hd⟩;have r20:r<20:=(by omega);have hc1:=qjM (zs:=[0,1,2,3,-1,5,8,10,63,64,65,-2,255,256,65535,999999999,-999999999,31,4,7]) (hd.at (heap_alloc_new w _) ne) r20;have hb1:=qjL (zs:=[0,1,2,3,-1,5,8,10,63,64,65,-2,255,256,65535,999999999,-999999999,31,4,7]) (P:=λz=>-999999999≤z∧z≤999999999) (by decide) r20;obtain⟨z,hz⟩:∃z,z=([0,1,2,3,-1,5,8,10,63,64,65,-2,255,256,65535,999999999,-999999999,31,4,7]:List Int).getD r 0:=⟨_,rfl⟩;rw[←hz]at hc1 hb1;have wl:=lt_of_block (hd.at (heap_alloc_new w _) ne);have C1:=hid hc;have D1:=hid hd;clear hc hd hz hr);go_ret;exact⟨z,rfl,hb1,C1.out,(dP _ _ _).trans D1.out⟩
theorem qMR(z:Int):I64 (wrap64 z):=by
 unfold I64 wrap64;omega
theorem qv0(cb:Nat)(co:Option Addr)(n cap A:Nat)(w:World)(hA:A≤10000000000)(h:Cur w cb co n cap A):
  Calls Tryz.prog 136 #[.pointer (some ⟨cb,0,none⟩)] w λe w'=>∃r:Int,e=.returned (.int .i64 r)∧I64 r∧Cur w' cb co n cap (A+10)∧Dw cb w w':=by
 have ne:w.heap.size≠cb:=λe=>by have:=h.lt;omega
 have C:=hid (λo=>uN cb co n cap A 35 (by omega) (w.alloc o) (by omega) (h.below (aB _ _)));have CB:=hid (λB w' (hB:B≤10000000020) (h':Cur w' cb co n cap B)=>qi1 cb co n cap B w' (by omega) h');clear h;go_enter Tryz.func136,Tryz.ntmps136;go_upto_region 3 with(go_at_call 94;refine(C.out _).mono ?_;rintro e w1 ⟨r,rfl,hr,hc,hd⟩;have r35:r<35:=(by omega);have bl:=hd.at (heap_alloc_new w _) ne;have wl:=lt_of_block bl;have BL:=hid bl;have C1:=hid hc;have D1:=hid ((dP _ _ _).trans hd);clear hc hd hr bl);by_cases h31:r<31
 ·have hc1:=qjM (zs:=[0,1,2,3,-1,7,100,127,128,255,256,-128,-129,32767,32768,65535,65536,2147483647,2147483648,-2147483648,-2147483649,4294967295,4294967296,9223372036854775807,-9223372036854775808,-9223372036854775807,1000000007,-5,63,64,65]) BL.out h31
  have hb1:=qjL (zs:=[0,1,2,3,-1,7,100,127,128,255,256,-128,-129,32767,32768,65535,65536,2147483647,2147483648,-2147483648,-2147483649,4294967295,4294967296,9223372036854775807,-9223372036854775808,-9223372036854775807,1000000007,-5,63,64,65]) (P:=λz=>I64 z) (by unfold I64;decide) h31;obtain⟨z,hz⟩:∃z,z=([0,1,2,3,-1,7,100,127,128,255,256,-128,-129,32767,32768,65535,65536,2147483647,2147483648,-2147483648,-2147483649,4294967295,4294967296,9223372036854775807,-9223372036854775808,-9223372036854775807,1000000007,-5,63,64,65]:List Int).getD r 0:=⟨_,rfl⟩;rw[←hz]at hc1 hb1;have HB1:=hid hb1;clear hz hb1;go_wp2_with fail;go_ret;exact⟨z,rfl,HB1.out,C1.out.mono (by omega),D1.out⟩
 ·go_wp2_with fail
  go_loopg [5,6] 8 (λmm v i X=>∃(k:Nat) (z:Int),k≤8∧mm=8-k∧i=.int .i64 k∧v=.int .i64 z∧I64 z∧Cur X cb co n cap (A+2+k)∧Dw cb w X)
  case atStart=>exact⟨0,0,by omega,by omega,rfl,rfl,by unfold I64;omega,C1.out,D1.out⟩
  case round=>
   obtain⟨k,z,hk,rfl,rfl,rfl,hz,hC,hD⟩:=hrel;have HZ:=hid hz;have HC:=hid hC;have HD:=hid hD;clear hz hC hD;by_cases hlt:k<8
   ·go_wp2_with(go_at_call 135;refine(CB.out _ _ (by omega) HC.out).mono ?_;rintro e w3 ⟨b,rfl,⟨hb0,hb1⟩,hc,hd⟩;have C3:=hid hc;have D3:=hid (HD.out.trans hd);clear hc hd)
    go_roundg(8-(k+1))
    case measure=>omega
    case rel=>exact⟨k+1,_,by omega,rfl,by go_num,rfl,qMR _,C3.out.mono (by omega),D3.out⟩
   ·obtain rfl:k=8:=by omega
    go_wp2_with fail;go_ret;exact⟨z,rfl,HZ.out,HC.out.mono (by omega),HD.out⟩
end Go.Proofs.YtiimkhepplkocaaGreat
namespace Go.Proofs.YtiimkhepplkocaaGreat
open Go.RowKit Go.Sort
set_option linter.unusedVariables false
attribute [local go_sem ↓] Go.wp_at_zero Go.wp_at_succ
def cR(its:List (Int×Int)):List Value:=its.flatMap (λp=>[.int .i64 p.1,.int .i64 p.2])
theorem qn9(a b:List (Int×Int)):cR (a++b)=cR a++cR b:=by simp[cR]
theorem qBZ(a:List (Int×Int)):(cR a).length=a.length*2:=by
 unfold cR
 induction a with
 |nil=>rfl
 |cons x r ih=>simp only[List.flatMap_cons,List.length_append,ih,List.length_cons,List.length_nil];omega
theorem qB0(a:List (Int×Int)):∀u∈cR a,u.oneCell'=true:=by
 intro u hu;unfold cR at hu;obtain⟨p,_,hp⟩:=List.mem_flatMap.1 hu;simp at hp;rcases hp with rfl|rfl<;>rfl
def CodeD(vars:Int)(its:List (Int×Int))(m:Nat):Prop:=its.length≤m∧∀st,∃t,dA vars its st=some (t::st)
theorem CodeD.pos{vars:Int}{its:List (Int×Int)}{m:Nat}(h:CodeD vars its m):1≤its.length:=by
 cases its with
 |nil=>obtain⟨t,ht⟩:=h.2 [];simp[dA]at ht
 |cons x r=>simp
theorem CodeD.ok{vars:Int}{its:List (Int×Int)}{m:Nat}(h:CodeD vars its m)(hv:0≤vars∧vars≤32)(hm:m≤200):tJ its vars=true:=by
 rw[←qjP];obtain⟨t,ht⟩:=h.2 [];have h1:=h.pos;have h2:=h.1;unfold aV;rw[if_pos ⟨hv,h1,by omega⟩,ht];rfl
theorem qvQ{vars op val:Int}(h:∀st,∃t,aS vars op val st=some (t,st)):CodeD vars [(op,val)] 1:=⟨by simp,λst=>by
 obtain⟨t,ht⟩:=h st;exact⟨t,by simp[dA,ht]⟩⟩
theorem qvS{vars op val:Int}{a:List (Int×Int)}{m:Nat}(ha:CodeD vars a m)(h:∀t st,∃t',aS vars op val (t::st)=some (t',st)):CodeD vars (a++[(op,val)]) (m+1):=⟨by simp;exact ha.1,λst=>by
 obtain⟨t,ht⟩:=ha.2 st;obtain⟨t',h'⟩:=h t st;exact⟨t',by simp[qbE,ht,dA,h']⟩⟩
theorem qCX{vars op:Int}{a b:List (Int×Int)}{m k:Nat}(ha:CodeD vars a m)(hb:CodeD vars b k)(h:dI op):CodeD vars (a++b++[(op,0)]) (m+k+1):=⟨by have:=ha.1;have:=hb.1;simp;omega,λst=>by
 obtain⟨t,ht⟩:=ha.2 st;obtain⟨u,hu⟩:=hb.2 (t::st);have h1:=h.1;have h2:=h.2.1;have h3:=h.2.2;refine⟨.bin op t u,?_⟩;have e:aS vars op 0 (u::t::st)=some (.bin op t u,st):=by
  unfold aS;rw[if_neg (by omega),if_neg (by omega),if_neg (by omega),if_neg (by omega),if_neg (by omega),if_neg (by omega)];simp only;rw[if_pos h]
 simp[qbE,ht,hu,dA,e]⟩
def bud:Nat→Nat
 |0=>8
 |k+1=>2*bud k+8
def cl:Nat→Nat
 |0=>1
 |k+1=>2*cl k+1
theorem qEY:(Tryz.prog.info? 205).map (λi=>(i.zero,i.size,i.bytes))=some (some (.agg #[.int .i64 0,.int .i64 0]),2,16):=by kernel_rfl
theorem qpO{w:World}{B:Nat}{a b:Value}{t:TypeId}(hB:B≤w.heap.size):(w.alloc (.cells #[a,b] t)).ownsRow B t 2 (.slice (some ⟨w.heap.size,0,none⟩) 1 1) 1 [a,b]:=
 ⟨rfl,.inr ⟨w.heap.size,1,#[a,b],rfl,hB,heap_alloc_new w _,Nat.le_refl _,by unfold maxLen;omega,rfl,rfl⟩⟩
theorem grP{v:Value}{X Y:World}(hg:X.grownBy Y v.ownBlock):OnlyP (λb=>v.ownBlock=some b) X Y:=⟨hg.os,hg.tape,hg.output,hg.size,λq hq hn=>hg.block q hq (λe=>hn e.symm)⟩
theorem qoF{w X Y:World}{cb:Nat}{co:Option Addr}{n cap A B:Nat}{v:Value}{e:TypeId}{size m:Nat}{xs:List Value}(h0:Cur w cb co n cap B)(h:Cur X cb co n cap A)(hd:Dw cb w X)(ho:X.ownsRow w.heap.size e size v m xs)(he:e≠97)(hg:X.grownBy Y v.ownBlock):Cur Y cb co n cap A∧Dw cb w Y:=by
 have hP:=grP hg;have nc:¬v.ownBlock=some cb:=λe2=>by
  obtain⟨a,r,s,hb,_⟩:=h.ex;exact aJ ho (λe3=>he e3.symm) hb e2
 refine⟨h.only hP nc (λh1 g o e2 e3=>?_),⟨hP.os.trans hd.os,hP.tape.trans hd.tape,hP.output.trans hd.output,Nat.le_trans hd.size hP.size,λq hq hn=>?_⟩⟩
 ·have:=h0.code_lt h1 g o e2
  have:=(ho.lt g e3).1;omega
 ·rw[←hd.block q hq hn]
  exact hP.block q (Nat.lt_of_lt_of_le hq hd.size) (λe3=>by have:=(ho.lt q e3).1;omega)
theorem Dw.own{cb:Nat}{X Y:World}{B:Nat}{e:TypeId}{size:Nat}{v:Value}{m:Nat}{xs:List Value}{co:Option Addr}{n cap A:Nat}(hd:Dw cb X Y)(h:Cur X cb co n cap A)(ho:X.ownsRow B e size v m xs)(he:e≠97):Y.ownsRow B e size v m xs:=OnlyP.own hd ho (λb e2 e3=>by
 obtain⟨a,r,s,hb,_⟩:=h.ex;rw[e3]at e2;exact aJ ho (λe3=>he e3.symm) hb e2)
end Go.Proofs.YtiimkhepplkocaaGreat
