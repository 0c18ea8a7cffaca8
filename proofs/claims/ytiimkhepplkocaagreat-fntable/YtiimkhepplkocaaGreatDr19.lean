import Derived.Test.YtiimkhepplkocaaGreatDf
import Derived.Deep.RegionHeld3
import Derived.OrdersHeld
set_option maxRecDepth 100000
set_option maxHeartbeats 16000000
namespace Go.Proofs.YtiimkhepplkocaaGreat
open Go.RowKit Go.Sort
set_option linter.unusedVariables false
attribute [local go_sem ↓] Go.wp_at_zero Go.wp_at_succ
theorem qEZ:(Tryz.prog.info? 38).map (λi=>(i.zero,i.size,i.bytes))=some (some (.agg #[.int .i64 0,.int .i64 0,.int .i64 0,.slice none 0 0,.slice none 0 0,.slice none 0 0,.slice none 0 0,.slice none 0 0]),8,144):=by kernel_rfl
theorem qE2:(Tryz.prog.info? 173).map (λi=>(i.zero,i.size,i.bytes))=some (some (.agg #[.int .i64 0,.int .i64 0]),2,16):=by kernel_rfl
theorem qhE{X Y:World}{B:Nat}{e:TypeId}{size:Nat}{ao:Option Addr}{m c:Nat}{xs:List Value}(h:X.ownsRow B e size (.slice ao m c) m xs)(hb:Below X.heap.size X Y):qdQ Y ao m xs:=by
 rcases h.2 with⟨e0,rfl⟩|⟨g,cap,cur,e0,hbg,hh,hnc,hcm,hcs,ht⟩
 ·simp only[Value.slice.injEq]at e0
  obtain⟨rfl,_,_⟩:=e0;exact⟨λ_=>rfl,(λad e=>by cases e)⟩
 ·simp only[Value.slice.injEq]at e0
  obtain⟨rfl,_,rfl⟩:=e0;refine⟨(λhe=>by cases he),λad he j u hj=>?_⟩;obtain rfl:ad=⟨g,0,none⟩:=by simpa using he.symm
  have hl:=lt_of_block hh;have hj':j<m*size:=by have:=(List.getElem?_eq_some_iff.1 hj).1;rw[h.1]at this;exact this
  rw[show(⟨g,0,none⟩:Addr).add j=⟨g,j,none⟩ by unfold Addr.add;split<;>simp_all,hb.cell (p:=⟨g,j,none⟩) hl,cell_of_row X g j cur e (0,0) hh,←hj,←ht,List.getElem?_take,if_pos hj'];simp
theorem SyI.le{w:World}{cb:Nat}{co:Option Addr}{n cap A HS:Nat}{sg:Int}{ov tv:Value}{ds:List ObD}{R:List (List Value)}{X:World}(h:SyI w cb co n cap A HS sg ov tv ds R X):w.heap.size+1≤X.heap.size:=Nat.lt_of_le_of_lt (Nat.le_of_lt h.hs) (lt_of_block h.s)
theorem qMK(zs:List Int):∀u∈cV zs,u.oneCell'=true:=by intro u hu;simp at hu;obtain⟨z,_,rfl⟩:=hu;rfl
theorem qy7{X:World}{H:Nat}{a b c d e f:Value}{t:TypeId}(h:X.heap[H]? =some (.cells #[d,e,f] t (0,0))):(((X.setCell ⟨H,0,none⟩ a).setCell ⟨H,1,none⟩ b).setCell ⟨H,2,none⟩ c).heap[H]? =some (.cells #[a,b,c] t (0,0)):=by
 have m1:=heap_setCell_same X H 0 _ _ a h;have m2:=heap_setCell_same _ H 1 _ _ b m1;have m3:=heap_setCell_same _ H 2 _ _ c m2;rw[m3];simp
theorem qGO{o s t v:Nat}(h1:o≤64)(h2:s≤64)(h3:t≤200)(h4:v≤32):cO ⟨o,s,t,v⟩:=⟨⟨show(0:Int)≤(o:Int) by omega,show(o:Int)≤64 by omega⟩,⟨show(0:Int)≤(s:Int) by omega,show(s:Int)≤64 by omega⟩,⟨show(0:Int)≤(t:Int) by omega,show(t:Int)≤200 by omega⟩,⟨show(0:Int)≤(v:Int) by omega,show(v:Int)≤32 by omega⟩⟩
theorem qJ6{X Y:World}{HO:Nat}{cs:Array Value}{t:TypeId}{x:Value}(h:X.heap[HO]? =some (.cells cs t (0,0)))(hg:(X.alloc (.cells #[x] 3)).grownBy Y (some X.heap.size)):Y.heap[HO]? =some (.cells cs t (0,0)):=by
 have hl:=lt_of_block h;exact(hg.block HO (by simp;omega) (λe=>by simp at e;omega)).trans (aA h (aB _ _))
theorem qDT(cb:Nat)(co:Option Addr)(n cap A:Nat)(w:World)(hA:A≤1000000)(h:Cur w cb co n cap A):
  Calls Tryz.prog 41 #[.pointer (some ⟨cb,0,none⟩)] w λe w'=>qn0 w w' cb co n cap (A+400000) e:=by
 have H0:=hid h;have P:=hid (λB (k:Int) w' (hk:k≤65536) (hB:B≤10000000000) (h':Cur w' cb co n cap B)=>uN cb co n cap B k hk w' (by omega) h');have DB:=hid (λB w' (hB:B≤80000000) (h':Cur w' cb co n cap B)=>qDM cb co n cap B w' hB h');have DC:=hid (λB (o s t:Int) (v:Nat) (hl:cO ⟨o,s,t,v⟩) (hs:1≤s) w' (hB:B≤10000000) (h':Cur w' cb co n cap B)=>qDN cb co n cap B o s t v hl hs w' hB h');obtain⟨i0,hi0,hz0,hz1,hz2⟩:=info_parts Tryz.infoInt0;obtain⟨j0,hj0,hj1,hj2,hj3⟩:=info_parts qEZ;obtain⟨t0,ht0,ht1,ht2,ht3⟩:=info_parts qE2;have P4:=hid (P.out A 4 (w.alloc (.cells #[.int .i64 0,.slice none 0 0,.slice none 0 0] 26)) (by omega) (by omega) (h.below (aB _ _)));clear h;go_enter Tryz.func41,Tryz.ntmps41;go_wp2_with(first
  |(go_at_call 94;have q:=P4.out;with_reducible refine q.mono ?_;clear q;rintro e w1 ⟨r,rfl,hr,hc,hd⟩;have r4:r<4:=(by omega);have S1:=hid (qJ7 (sg:=1+(r:Int)) H0.out hd hc);have P3:=hid (P.out (A+2) 3 _ (by omega) (by omega) S1.out.cur);clear hc hd hr)
  |(go_at_call 94;have q:=P3.out;with_reducible refine q.mono ?_;clear q;rintro e w2 ⟨r2,rfl,hr,hc,hd⟩;have r23:r2<3:=(by omega);have S2:=hid (S1.out.draw hd hc);have P5:=hid (P.out (A+2+2) 4 _ (by omega) (by omega) S2.out.cur);clear hc hd hr)
  |(go_at_call 94;have q:=P5.out;with_reducible refine q.mono ?_;clear q;rintro e w3 ⟨tm,rfl,hr,hc,hd⟩;have tm4:tm<4:=(by omega);have S3:=hid (S2.out.draw hd hc);clear hc hd hr))
 obtain⟨m,hm⟩:∃m:Nat,(3:Int)-r2=m:=⟨3-r2,by omega⟩;have m3:1≤m∧m≤3:=by omega
 rw[hm];obtain⟨sg,hsg⟩:∃s:Nat,(1:Int)+r=s:=⟨1+r,by omega⟩;have sg4:1≤sg∧sg≤4:=by omega
 rw[hsg]at S3;clear hm r23 hsg r4 S1 S2;obtain⟨HS,hHS⟩:∃H,H=w1.heap.size:=⟨_,rfl⟩;rw[←hHS]at S3⊢;clear hHS;go_loopg [6] m (λmm i X=>∃(k:Nat) (ov:Value) (ds:List ObD) (R:List (List Value)),k≤m∧mm=m-k∧i=.int .i64 k∧ds.length=k∧(∀i,i<ds.length→qdR m sg tm i (ds.getD i ob0))∧SyI w cb co n cap (A+6+k*110000) HS sg ov (.slice none 0 0) ds R X)
 case atStart=>exact⟨0,_,[],[],by omega,by omega,rfl,rfl,λi hi=>absurd hi (by simp),S3.out⟩
 case round=>
  obtain⟨k,ov,ds,R,hk,rfl,rfl,hlen,hok,hI⟩:=hrel;have I:=hid hI;have HOK:=hid hok;have HLn:=hid hlen;have k3:k≤3:=by omega
  by_cases hlt:k<m
  ·have ki:(k:Int)<(m:Int):=by omega
   have PQ:=hid (P.out (A+6+k*110000) 5 _ (by omega) (by omega) hI.cur);obtain⟨oa,oc,hov⟩:=aO hI.oo;subst hov;clear hI hok hlen;go_upto_if 48 with(first
    |(go_at_call 94;have q:=PQ.out;with_reducible refine q.mono ?_;clear q;rintro e w4 ⟨rq,rfl,hr,hc,hd⟩;have rq5:rq<5:=(by omega);have I4:=hid (I.out.draw hd hc);have QB:=hid (DB.out (A+6+k*110000+2) _ (by omega) I4.out.cur);clear hc hd hr)
    |(go_at_call 95;have q:=QB.out;with_reducible refine q.mono ?_;clear q;intro e w5 hq5;unfold quQ at hq5;obtain⟨kv,vv,ks,vs,rfl,hkv,hvv,hne,hbd,hks,hc,hd⟩:=hq5;have I5:=hid (I4.out.draw hd hc);have hle:=I4.out.le;have O5:=hid (qHB (q:=1+(rq:Int)) I5.out (aM hkv hle) (aM hvv hle));obtain⟨ka,kc,hkv2⟩:=aO hkv;subst hkv2;obtain⟨va,vc,hvv2⟩:=aO hvv;subst hvv2;have BD:=hid hbd;have KL:=hid hks;have QD:=hid (P.out (A+6+k*110000+2+100) 4 _ (by omega) (by omega) O5.out.sy.cur);clear hc hd hne hbd hks hkv hvv hle)
    |(go_at_call 94;have q:=QD.out;with_reducible refine q.mono ?_;clear q;rintro e w6 ⟨rd,rfl,hr,hc,hd⟩;have rd4:rd<4:=(by omega);have O6:=hid (O5.out.draw hd hc);obtain⟨⟨a0,a1,a2,a3⟩,⟨a4,a5,a6,a7⟩,af⟩:=c8 O6.out.o;have al:=lt_of_block O6.out.o;have O6b:=hid (O6.out.set (q:=2) (u:=.int .i64 (rd:Int)) (d':=⟨0,1+(rq:Int),rd,ks,vs,[],[],[]⟩) rfl ⟨O6.out.ob.k,O6.out.ob.v,O6.out.ob.u,O6.out.ob.s,O6.out.ob.t⟩);have QH:=hid (P.out (A+6+k*110000+2+100+2) 3 _ (by omega) (by omega) O6b.out.sy.cur);clear hc hd hr)
    |(go_at_call 94;have q:=QH.out;with_reducible refine q.mono ?_;clear q;rintro e w7 ⟨rh,rfl,hr,hc,hd⟩;have rh3:rh<3:=(by omega);have O7:=hid (O6b.out.draw hd hc);have QP:=hid (P.out (A+6+k*110000+2+100+2+2) 5 _ (by omega) (by omega) O7.out.sy.cur);clear hc hd hr)
    |(go_at_call 94;have q:=QP.out;with_reducible refine q.mono ?_;clear q;rintro e w8 ⟨rp,rfl,hr,hc,hd⟩;have rp5:rp<5:=(by omega);have O8:=hid (O7.out.draw hd hc);clear a0 a1 a2 a3 a4 a5 a6 a7 af al;obtain⟨⟨a0,a1,a2,a3⟩,⟨a4,a5,a6,a7⟩,af⟩:=c8 O8.out.o;have al:=lt_of_block O8.out.o;clear hc hd hr))
   obtain⟨pr,hpr⟩:∃p:Int,p=1+((k:Int)*7+rh)*5+rp:=⟨_,rfl⟩;rw[←hpr];have PR:=hid hpr;have O8b:=hid (O8.out.set (q:=0) (u:=.int .i64 pr) (d':=⟨pr,1+(rq:Int),rd,ks,vs,[],[],[]⟩) rfl ⟨O8.out.ob.k,O8.out.ob.v,O8.out.ob.u,O8.out.ob.s,O8.out.ob.t⟩);obtain⟨W,hW⟩:∃W,W=w8.setCell ⟨w5.heap.size,0,none⟩ (.int .i64 pr):=⟨_,rfl⟩;rw[←hW]at O8b⊢;clear hW hpr a0 a1 a2 a3 a4 a5 a6 a7 af al;have QL:=hid (P.out (A+6+k*110000+2+100+2+2+2) 300 _ (by omega) (by omega) O8b.out.sy.cur);obtain⟨HO,hHO⟩:∃H,H=w5.heap.size:=⟨_,rfl⟩;rw[←hHO]at O8b⊢;clear hHO O5 O6 O6b O7 O8 QD QH QP QB PQ I4 I5;have PF:Hid (k≠1→qiT k pr):=hid (λh=>⟨λe=>by rw[PR.out,e];omega,λe=>absurd e h,λe=>by rw[PR.out,e];omega⟩);go_cut []from 21 to 85 (λwx=>∃p:Int,qiT k p∧ObB w cb co n cap (A+6+k*110000+2+100+2+2+2+2) HS sg (.slice oa ds.length oc) (.slice none 0 0) ds R HO ⟨p,1+(rq:Int),rd,ks,vs,[],[],[]⟩ (.slice ka ks.length kc) (.slice va vs.length vc) (.slice none 0 0) (.slice none 0 0) (.slice none 0 0) wx)
   case first=>
    obtain⟨⟨a0,a1,a2,a3⟩,⟨a4,a5,a6,a7⟩,af⟩:=c8 O8b.out.o;have al:=lt_of_block O8b.out.o;by_cases hk1:(k:Int)=1
    ·have hkb:((k:Int)==1)=true:=by simp[hk1]
     have PL:Hid (∀r:Nat,r<300→qiT k (1000-(r:Int))):=hid (λr hr=>⟨λe=>by omega,λe=>by omega,λe=>by omega⟩);clear hk1;go_wp2_with(go_at_call 94;have q:=QL.out;with_reducible refine q.mono ?_;clear q;rintro e w9 ⟨rl,rfl,hr,hc,hd⟩;have rl3:rl<300:=(by omega);have O9:=hid (O8b.out.draw hd hc);clear a0 a1 a2 a3 a4 a5 a6 a7 af al;obtain⟨⟨a0,a1,a2,a3⟩,⟨a4,a5,a6,a7⟩,af⟩:=c8 O9.out.o;have al:=lt_of_block O9.out.o;clear hc hd hr);go_meet;exact⟨_,PL.out _ rl3,O9.out.set (q:=0) (d':=⟨1000-(rl:Int),1+(rq:Int),rd,ks,vs,[],[],[]⟩) rfl ⟨O9.out.ob.k,O9.out.ob.v,O9.out.ob.u,O9.out.ob.s,O9.out.ob.t⟩⟩
    ·have hkb:((k:Int)==1)=false:=by simp[hk1]
     have hk2:k≠1:=by omega
     clear hk1;go_wp2_with fail;go_meet;exact⟨pr,PF.out hk2,O8b.out.mono (by omega)⟩
   case rest=>
    obtain⟨p,hp,hB⟩:=hcut;have PP:=hid hp;have O1:=hid hB;clear hp hB PF PR O8b QL;go_wp2_with fail;go_loopg [9] sg (λmm i X=>∃(q:Nat) (us:List Int) (uv:Value),q≤sg∧mm=sg-q∧i=.int .i64 q∧SubsOk (q:Int) us∧us.length≤q∧ObB w cb co n cap (A+6+k*110000+2+100+2+2+2+2+q*2) HS sg (.slice oa ds.length oc) (.slice none 0 0) ds R HO ⟨p,1+(rq:Int),rd,ks,vs,us,[],[]⟩ (.slice ka ks.length kc) (.slice va vs.length vc) uv (.slice none 0 0) (.slice none 0 0) X)
    case atStart=>exact⟨0,[],_,by omega,by omega,rfl,⟨List.Pairwise.nil,(λx hx=>by cases hx)⟩,by simp,O1.out⟩
    case round=>
     obtain⟨q,us,uv,hq,rfl,rfl,hsub,hul,hB⟩:=hrel;have OB:=hid hB;have SU:=hid hsub;obtain⟨ua,uc,huv⟩:=aO hB.ob.u;subst huv;obtain⟨s0,s1,s2,sf⟩:=dS hB.sy.s;have sl:=lt_of_block hB.sy.s;obtain⟨⟨a0,a1,a2,a3⟩,⟨a4,a5,a6,a7⟩,af⟩:=c8 hB.o;have al:=lt_of_block hB.o;by_cases hqs:q<sg
     ·have qi:(q:Int)<(sg:Int):=by omega
      have P2:=hid (P.out (A+6+k*110000+2+100+2+2+2+2+q*2) 2 _ (by omega) (by omega) hB.sy.cur);have ul4:us.length≤4:=by omega
      clear hB hsub;go_wp2_with(first
       |(go_at_call 94;have q':=P2.out;with_reducible refine q'.mono ?_;clear q';rintro e w9 ⟨y,rfl,hy,hc,hd⟩;have O9:=hid (OB.out.draw hd hc);clear a0 a1 a2 a3 a4 a5 a6 a7 af al s0 s1 s2 sf sl;obtain⟨⟨a0,a1,a2,a3⟩,⟨a4,a5,a6,a7⟩,af⟩:=c8 O9.out.o;have al:=lt_of_block O9.out.o;have NB:=hid (qhE O9.out.ob.u (aB w9 (.cells #[.int .i64 (q:Int)] 3)));clear hc hd hy)
       |(at_builtin;refine yQ _ rfl (.tmp 63) (.tmp 65) 30 rfl w9.heap.size 3 i0 _ 1 8 Tryz.underlying30 hi0 hz0 hz1 hz2 rfl (by decide) (.slice (some ⟨w9.heap.size,0,none⟩) 1 1) 1 [.int .i64 (q:Int)] rfl (World.ownsRow_lit w9 #[.int .i64 (q:Int)] 1 (Nat.le_refl _) (by decide) rfl) ua us.length uc (cV us) rfl (by simp[cV]) NB.out (qMK us) (by unfold maxLen;omega) (by omega) (by simp) ?_;intro v' w10 hown hgrow hnil;have OC:=hid (ObB.subs (x:=(q:Int)) O9.out hgrow hown);obtain⟨ga,gc,hv'⟩:=aO hown;subst hv';have X10:=qJ6 O9.out.o hgrow;clear a0 a1 a2 a3 a4 a5 a6 a7 af al;obtain⟨⟨a0,a1,a2,a3⟩,⟨a4,a5,a6,a7⟩,af⟩:=c8 X10;have al:=lt_of_block X10;clear hown hgrow hnil X10))
      ·go_roundg(sg-(q+1))
       case measure=>omega
       case rel=>exact⟨q+1,_,_,by omega,rfl,by go_num,SU.out.step,by simp;omega,OC.out.mono (by omega)⟩
      ·go_roundg(sg-(q+1))
       case measure=>omega
       case rel=>exact⟨q+1,_,_,by omega,rfl,by go_num,SU.out.hold,by omega,O9.out.mono (by omega)⟩
     ·obtain rfl:q=sg:=by omega
      have ul4:us.length≤4:=by omega
      have vl4:vs.length≤4:=by rw[←BD.out.1];exact KL.out
      have QC:=hid (DC.out (A+6+k*110000+2+100+2+2+2+2+q*2) m q tm vs.length (qGO (by omega) (by omega) (by omega) (by omega)) (by omega) _ (by omega) hB.sy.cur);clear hB hsub;go_upto_region 19 with(go_at_call 96;have q':=QC.out;with_reducible refine q'.mono ?_;clear q';intro e w9 hq9;unfold qnV at hq9;obtain⟨sv,xv,ss,Rs,ts,Qs,rfl,h1,h2,h3,h4,hck,hl1,hl2,hc,hd⟩:=hq9;have O9:=hid (OB.out.draw hd hc);have C9:=hid (ObB.chart (ss:=ss) (ts:=ts) (sv':=sv) (xv':=xv) O9.out ⟨Rs,aM h1 OB.out.sy.le,h2.base OB.out.sy.le⟩ ⟨Qs,aM h3 OB.out.sy.le,h4.base OB.out.sy.le⟩);obtain⟨sa,sc,e1⟩:=aO h1;subst e1;obtain⟨xa,xc,e2⟩:=aO h3;subst e2;have CK:=hid hck;have SL:=hid hl1;have TL:=hid hl2;clear a0 a1 a2 a3 a4 a5 a6 a7 af al s0 s1 s2 sf sl;obtain⟨⟨a0,a1,a2,a3⟩,⟨a4,a5,a6,a7⟩,af⟩:=c8 O9.out.o;have al:=lt_of_block O9.out.o;clear h1 h2 h3 h4 hck hl1 hl2 hc hd);obtain⟨Z,hZ⟩:∃Z,Z=(w9.setCell ⟨HO,6,none⟩ (.slice sa ss.length sc)).setCell ⟨HO,7,none⟩ (.slice xa ts.length xc):=⟨_,rfl⟩;rw[←hZ]at C9⊢;clear hZ a0 a1 a2 a3 a4 a5 a6 a7 af al O9 OB QC;obtain⟨⟨a0,a1,a2,a3⟩,⟨a4,a5,a6,a7⟩,af⟩:=c8 C9.out.o;have al:=lt_of_block C9.out.o;obtain⟨s0,s1,s2,sf⟩:=dS C9.out.sy.s;have sl:=lt_of_block C9.out.sy.s;have CB:=hid (C9.out.below (aB Z (.cells #[.int .i64 p,.int .i64 (1+(rq:Int)),.int .i64 (rd:Int),.slice ka ks.length kc,.slice va vs.length vc,.slice ua us.length uc,.slice sa ss.length sc,.slice xa ts.length xc] 38)));have NW:=hid (World.news_of_block (heap_alloc_new Z (.cells #[.int .i64 p,.int .i64 (1+(rq:Int)),.int .i64 (rd:Int),.slice ka ks.length kc,.slice va vs.length vc,.slice ua us.length uc,.slice sa ss.length sc,.slice xa ts.length xc] 38)));have dl3:ds.length≤3:=by rw[HLn.out];exact k3
      go_wp2_with(at_builtin;refine wpList_append_lies _ rfl (.tmp 81) (.tmp 83) 23 rfl (w.heap.size+1) 38 j0 _ 8 144 Tryz.underlying23 hj0 hj1 hj2 hj3 rfl (by decide) (.slice oa ds.length oc) ds.length R.flatten rfl CB.out.sy.oo ⟨Z.heap.size,0,none⟩ 1 1 [.int .i64 p,.int .i64 (1+(rq:Int)),.int .i64 (rd:Int),.slice ka ks.length kc,.slice va vs.length vc,.slice ua us.length uc,.slice sa ss.length sc,.slice xa ts.length xc] rfl rfl NW.out (by intro u hu;simp at hu;rcases hu with rfl|rfl|rfl|rfl|rfl|rfl|rfl|rfl<;>rfl) (by omega) (by unfold maxLen;omega) (by omega) CB.out.le (Z.heap.size+1) (by simp) ?_);intro g7 cap7 w7 hown hgrow hat7 _;have X7:=(hgrow.block _ (lt_of_block CB.out.sy.s) (λe=>aJ CB.out.sy.oo (by decide) CB.out.sy.s e.symm)).trans CB.out.sy.s;have CA:=hid (SyI.add CB.out.sy CB.out.ob.in hgrow hown);clear a0 a1 a2 a3 a4 a5 a6 a7 af al s0 s1 s2 sf sl;obtain⟨s0,s1,s2,sf⟩:=dS X7;have sl:=lt_of_block X7;clear hown hgrow hat7 X7 CB NW;go_wp2_with fail;go_roundg(m-(k+1))
      case measure=>omega
      case rel=>
       refine⟨k+1,_,_,_,by omega,rfl,by go_num,by simp[HLn.out],qHC HOK.out ?_,CA.out.mono (by omega)⟩;rw[HLn.out];exact⟨⟨show(1:Int)≤1+(rq:Int) by omega,show 1+(rq:Int)≤5 by omega⟩,⟨show(0:Int)≤(rd:Int) by omega,show(rd:Int)≤3 by omega⟩,PP.out,BD.out,KL.out,SU.out,CK.out,SL.out,TL.out⟩
  ·obtain rfl:k=m:=by omega
   obtain⟨oa,oc,hov⟩:=aO hI.oo;subst hov;have T0:=hid (qKO hI);clear hI hok hlen;go_wp2_with fail;go_loopg [10] tm (λmm i X=>∃(q:Nat) (tv:Value) (tms:List (Int×Int)),q≤tm∧mm=tm-q∧i=.int .i64 q∧tms.length=q∧(∀i,i<tms.length→(0≤(tms.getD i (0,0)).1∧(tms.getD i (0,0)).1<k)∧(0≤(tms.getD i (0,0)).2∧(tms.getD i (0,0)).2<sg))∧TmI w cb co n cap (A+6+k*110000+q*4) HS sg (.slice oa ds.length oc) tv ds R tms X)
   case atStart=>exact⟨0,_,[],by omega,by omega,rfl,rfl,(λi hi=>absurd hi (by simp)),T0.out⟩
   case round=>
    obtain⟨q,tv,tms,hq,rfl,rfl,htl,htm,hT⟩:=hrel;have T1:=hid hT;have TMS:=hid htm;have TLN:=hid htl;obtain⟨ta,tc,htv⟩:=aO hT.tw;subst htv;obtain⟨s0,s1,s2,sf⟩:=dS hT.sy.s;have sl:=lt_of_block hT.sy.s;by_cases hqt:q<tm
    ·have qi:(q:Int)<(tm:Int):=by omega
     have PN:=hid (P.out (A+6+k*110000+q*4) k _ (by omega) (by omega) hT.sy.cur);have tl3:tms.length≤3:=by omega
     clear hT htm htl;go_upto_region 24 with(go_at_call 94;have q':=PN.out;with_reducible refine q'.mono ?_;clear q';rintro e w9 ⟨y,rfl,hy,hc,hd⟩;have yk:(y:Int)<k:=(by omega);have T9:=hid (T1.out.draw hd hc);clear s0 s1 s2 sf sl hc hd hy);obtain⟨s0,s1,s2,sf⟩:=dS T9.out.sy.s;have sl:=lt_of_block T9.out.sy.s;have TD:=hid (T9.out.below ((Below.refl _ _).drew));have PS:=hid (P.out (A+6+k*110000+q*4+2) sg _ (by omega) (by omega) TD.out.sy.cur);go_region_law
      (first
       |(refine step_append_lies _ (by rfl) _ _ _ (by rfl) (w.heap.size+1) 173 t0 _ 2 16 Tryz.underlying24 ht0 ht1 ht2 ht3 rfl (by omega) (.slice ta tms.length tc) tms.length (cR tms) (by simp[Act.eval]) IB.out.tw ⟨w10.heap.size,0,none⟩ 1 1 [.int .i64 (y:Int),.int .i64 (z:Int)] (by simp[Act.eval]) (by simp) NW.out (by intro u hu;simp at hu;rcases hu with rfl|rfl<;>rfl) (by omega) (by unfold maxLen;omega) (by omega) IB.out.sy.le (w10.heap.size+1) (by simp) ?_;intro g6 cap6 w6 hown hgrow hat6 _;have X6:=(hgrow.block _ (lt_of_block IB.out.sy.s) (λe=>aJ IB.out.tw (by decide) IB.out.sy.s e.symm)).trans IB.out.sy.s;obtain⟨q0,q1,q2,q3⟩:=dS X6;have ql:=lt_of_block X6;have I6:=hid (TmI.add IB.out hgrow hown);clear hown hgrow hat6 X6)
       |(go_simp;go_wp2_with(go_at_call 94;refine PS.out.mono ?_;rintro e w10 ⟨z,rfl,hz,hc,hd⟩;have zs:(z:Int)<sg:=(by omega);have I9:=hid (TD.out.draw hd hc);have IB:=hid (I9.out.below (aB w10 (.cells #[.int .i64 (y:Int),.int .i64 (z:Int)] 173)));have NW:=hid (World.news_of_block (heap_alloc_new w10 (.cells #[.int .i64 (y:Int),.int .i64 (z:Int)] 173)));obtain⟨d0,d1,d2,d3⟩:=dS I9.out.sy.s;have dl:=lt_of_block I9.out.sy.s;clear hc hd hz)))
     all_goals
      go_wp2_with fail;go_roundg(tm-(q+1))
      case measure=>omega
      case rel=>exact⟨q+1,_,_,by omega,rfl,by go_num,by simp[TLN.out],qKN TMS.out ⟨by omega,yk⟩ ⟨by omega,zs⟩,I6.out.mono (by omega)⟩
    ·obtain rfl:q=tm:=by omega
     obtain⟨r0,r1,r2',rf⟩:=dS hT.sy.r;have rl:=lt_of_block hT.sy.r;clear hT htm htl;go_wp2_with fail;obtain⟨v0,v1,v2,_⟩:=dS (qy7 (a:=.int .i64 (sg:Int)) (b:=.slice oa ds.length oc) (c:=.slice ta tms.length tc) T1.out.sy.r);refine bodyPost_ret (v:=.agg #[.int .i64 (sg:Int),.slice oa ds.length oc,.slice ta tms.length tc]) (by simp[results,Tryz.results41,go_sem,v0,v1,v2]) rfl ?_;exact T1.out.ret ⟨sg4,by rw[HLn.out];exact m3,(show tms.length≤3 by rw[TLN.out];omega),(show∀i,i<ds.length→qdR ds.length sg tms.length i (ds.getD i ob0) by rw[TLN.out];intro i hi;have:=HOK.out i hi;rw[←HLn.out]at this;exact this),(show∀i,i<tms.length→_ by rw[HLn.out];exact TMS.out)⟩ (by omega)
end Go.Proofs.YtiimkhepplkocaaGreat
