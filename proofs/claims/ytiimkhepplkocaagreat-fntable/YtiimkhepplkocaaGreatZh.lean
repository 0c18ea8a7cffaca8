import Derived.Test.YtiimkhepplkocaaGreatZd
import Derived.Test.YtiimkhepplkocaaGreatZf
set_option maxRecDepth 100000
set_option maxHeartbeats 16000000
namespace Go.Proofs.YtiimkhepplkocaaGreat
open Go.RowKit Go.Sort
set_option linter.unusedVariables false
attribute [local go_sem ↓] Go.wp_at_zero Go.wp_at_succ
structure SB (w:World) (bx ex:Array Value) (X:World):Prop where
 bel:Below w.heap.size w X
 b:X.heap[w.heap.size]? =some (.cells bx 32 (0,0))
 e:X.heap[w.heap.size+1]? =some (.cells ex 51 (0,0))
 r:X.heap[w.heap.size+1+1]? =some (.cells #[.slice none 0 0,.slice none 0 0] 32 (0,0))
theorem SB.below{w:World}{bx ex:Array Value}{X Y:World}(h:SB w bx ex X)(hb:Below X.heap.size X Y):SB w bx ex Y:=⟨h.bel.trans (hb.mono h.bel.size),aA h.b hb,aA h.e hb,aA h.r hb⟩
theorem qIO(w:World)(bx ex:Array Value):SB w bx ex (((w.alloc (.cells bx 32)).alloc (.cells ex 51)).alloc (.cells #[.slice none 0 0,.slice none 0 0] 32)):=by
 have h2:=heap_alloc_new (w.alloc (.cells bx 32)) (.cells ex 51);have h3:=heap_alloc_new ((w.alloc (.cells bx 32)).alloc (.cells ex 51)) (.cells #[.slice none 0 0,.slice none 0 0] 32);simp only[World.size_alloc]at h2 h3;exact⟨yW _ _ _ _,aA (aA (heap_alloc_new w _) (aB _ _)) (aB _ _),aA h2 (aB _ _),h3⟩
theorem qpF{w X Y:World}{H B:Nat}{ks vs:List Int}{es:List bI}{kg kc vg vc:Nat}{ev x y:Value}(ok:Own X B (.slice (some ⟨kg,0,none⟩) ks.length kc) ks)(ov:Own X B (.slice (some ⟨vg,0,none⟩) vs.length vc) vs)(hne:kg≠vg)(oe:X.ownsRow B 136 4 ev es.length (aT es))(hB:w.heap.size≤B)(hb:Below X.heap.size X Y)(hH:Y.heap[H]? =some (.cells #[x,y] 32 (0,0))):
  OutE w.heap.size ((Y.setCell ⟨H,0,none⟩ (.slice (some ⟨kg,0,none⟩) ks.length kc)).setCell ⟨H,1,none⟩ (.slice (some ⟨vg,0,none⟩) vs.length vc)) (.slice (some ⟨kg,0,none⟩) ks.length kc) (.slice (some ⟨vg,0,none⟩) vs.length vc) ev ks vs es:=by
 have h5:OutE w.heap.size Y (.slice (some ⟨kg,0,none⟩) ks.length kc) (.slice (some ⟨vg,0,none⟩) vs.length vc) ev ks vs es:=
  (OutE.mk (aM ok.1 hB) (aM ov.1 hB) (aM oe hB) (λb e=>by simp[Value.ownBlock]at e⊢;omega):OutE w.heap.size X _ _ _ _ _ _).below hb
 exact h5.set2 hH (by decide) (by decide) 0 1 _ _
theorem GuardAt.but{P0:Nat}{X Y:World}{B:Nat}{v:Int}{its:List (Int×Int)}{g:Value}(h:GuardAt X B v its g)(ht:ButM P0 X Y)(hm:∃es c,X.heap[P0]? =some (.map es c)):GuardAt Y 0 v its g:=by
 rcases h with h|⟨h0,t,P,h1,h2,h3,h4⟩
 ·exact .inl h
 ·exact .inr ⟨h0,t,P,h1,h2,Nat.zero_le _,ht.box hm h4⟩
theorem qJQ{w0:World}{cx lx:Array Value}{N:Nat→Nat}{tg tcap:Nat}{ss:List StD}{ts:List TrD}{n:Nat}{l:aE}{B P M tn:Nat}{E F:List Value}{ev xv:Value}{L lets act:Nat→Value}(hC:Chk ss ts l)(hn:ss.length=n)(htn:ts.length=tn)(leaf:Nat)(hlf:leaf<n)(sg arg:Int)(kA vA:Option Addr)(kn kc vn vc:Nat)(ks vs:List Int)(w:World)(h:L2 w0 cx lx N tg tcap ss ts n l B P M tn E F ev xv L lets act w)(hkn:kn≤1048576)(hvn:vn≤1048576)(hk:SliceOf w kA kn ks)(hv:SliceOf w vA vn vs)(hbp:ks.length=vs.length∧vs.length≤32∧∀i,i<ks.length→1≤ks.getD i 0∧ks.getD i 0≤7)(hlv:l.v=vs.length):
  Calls Tryz.prog 60 #[.pointer (some ⟨M,0,none⟩),.int .i64 (leaf:Int),.agg #[.slice kA kn kc,.slice vA vn vc],.agg #[.int .i64 sg,.int .i64 arg]] w λe w'=>∃kv vv ee,e=.returned (.tuple #[.int .i64 (dpN ss ts leaf (sZ ss ts l vs arg leaf sg):Nat),.agg #[kv,vv],ee,.bool (sZ ss ts l vs arg leaf sg).isSome])∧OutE w.heap.size w' kv vv ee ks (dpX ss ts l ks vs arg leaf (sZ ss ts l vs arg leaf sg)).1 (dpX ss ts l ks vs arg leaf (sZ ss ts l vs arg leaf sg)).2∧ButM P w w':=by
 subst hn;have EN:=hid (qIO w #[.slice kA kn kc,.slice vA vn vc] #[.int .i64 sg,.int .i64 arg]);obtain⟨W,hW⟩:∃W,W=((w.alloc (.cells #[.slice kA kn kc,.slice vA vn vc] 32)).alloc (.cells #[.int .i64 sg,.int .i64 arg] 51)).alloc (.cells #[.slice none 0 0,.slice none 0 0] 32):=⟨_,rfl⟩;rw[←hW]at EN;have CM:=hid (qxW kA vA kn kc vn vc ks vs arg W hkn hvn (hk.below EN.out.bel) (hv.below EN.out.bel));rw[hW]at CM;have HI:Hid (∀w',Below w.heap.size w w'→L2 w0 cx lx N tg tcap ss ts ss.length l B P M tn E F ev xv L lets act w'):=hid (λw' hb=>h.below hb);have CL:=hid (λw' (hb:Below w.heap.size w w')=>qBX hC rfl htn leaf hlf sg w' (HI.out w' hb));have WY:=hid (λq (hq:q∈aU ts (up ss leaf) sg)=>qc6 hC hlf hq);have RL:=hid (λq (hq:q∈aU ts (up ss leaf) sg)=>qjZ hC (qc6 hC hlf hq));have HP:=hid hbp;have HLV:=hid hlv;have HT:=hid htn;have HC:=hid hC;have HW:=hid hW;have LF:=hid hlf;have FA:=hid (λa ha h0 h1=>qjA (K:=aU ts (up ss leaf) sg) (f:=λq=>sX l.v (ts.getD q tr0).guard vs arg) (a:=a) ha h0 h1);have FN:=hid (λh0=>qwQ (K:=aU ts (up ss leaf) sg) (f:=λq=>sX l.v (ts.getD q tr0).guard vs arg) h0);obtain⟨pk,hpk⟩:∃p,p=sZ ss ts l vs arg leaf sg:=⟨_,rfl⟩;have PK:Hid (pk=(aU ts (up ss leaf) sg).find? (λq=>sX l.v (ts.getD q tr0).guard vs arg)):=hid hpk;rw[←hpk];obtain⟨K,hK⟩:∃K,K=aU ts (up ss leaf) sg:=⟨_,rfl⟩;rw[←hK]at CL WY RL PK FA FN;have LK:Hid (K.length≤100000):=hid (by
  rw[hK];have h1:=qg3 ts sg (up ss leaf);have h2:=pS hC.good.tree leaf hlf;have h3:=hC.good.n2;have h4:=hC.good.tn;have h5:=Nat.mul_le_mul (show(up ss leaf).length≤200 by omega) h4;omega)
 obtain⟨m,hm⟩:∃m,m=K.length:=⟨_,rfl⟩;have EM:=hid hm;rw[←hm]at CL LK FA FN;clear h hk hv hbp hlv htn hC hW hK hm hpk;go_enter Tryz.func60,Tryz.ntmps60;go_upto_region 2 with(go_at_call 67;refine CM.out.mono ?_;rintro e w1 ⟨mb,rfl,hmo,hb⟩;rw[←HW.out]at hmo hb;have M1:=hid hmo;have B1:=hid (EN.out.below hb);have S1:=hid hb.size;clear hmo hb);have I1:=HI.out _ B1.out.bel;have t0:=(cJ I1.l1.mac.box).1;have t1:=qdO I1.l1.mb.tr LF.out;obtain⟨e0,e1,_,_⟩:=aF B1.out.e;have li:(leaf:Int)<(ss.length:Int):=by have:=LF.out;omega
 have MP:Hid (∃es c,w1.drew.heap[P]? =some (.map es c)):=hid ⟨_,_,I1.l1.mb.mp⟩;have D1:=hid (B1.out.below ((Below.refl _ _).drew));have M1d:=hid (M1.out.below ((Below.refl _ _).drew));have I2:=hid (HI.out _ D1.out.bel);have KS:Hid (∀X,ButM P w1.drew X→X.cell? ⟨M,0,none⟩=some (.slice (some ⟨tg,0,none⟩) ss.length tcap)∧X.cell? ⟨tg,leaf,none⟩=some (.pointer (some ⟨N leaf,0,none⟩))∧X.cell? ⟨w.heap.size+1,0,none⟩=some (.int .i64 sg)):=hid (λX hb=>⟨(cJ (hb.box MP.out I2.out.l1.mac.box)).1,qdO (hb.own MP.out I2.out.l1.mb.tr) LF.out,(aF (hb.box MP.out D1.out.e)).1⟩);have l0:M<w1.heap.size:=lt_of_block I1.l1.mac.box;clear I1 hlf;go_region_held3(λX=>X.cell? ⟨M,0,none⟩=some (.slice (some ⟨tg,0,none⟩) ss.length tcap)∧X.cell? ⟨tg,leaf,none⟩=some (.pointer (some ⟨N leaf,0,none⟩))∧X.cell? ⟨w.heap.size+1,0,none⟩=some (.int .i64 sg))
  (first|with_reducible exact KS.out _ BM.out|exact KS.out _ (ButM.refl _ _))
  (first
   |(go_at_call 115;refine(CL.out _ D1.out.bel).mono ?_;rintro e w2 ⟨ro,rc,rfl,hg,hbm⟩;have BM:=hid hbm;have T2:Hid (St w P mb W.heap.size w1.drew.heap.size ss ts l leaf lets ks vs arg K (.slice ro m rc) w2):=hid ⟨ButM.after D1.out.bel hbm,hbm.box MP.out D1.out.r,M1d.out.but hbm MP.out,hg,λq hq=>(I2.out.gd q (by rw[←HT.out];exact hq)).1.but hbm MP.out⟩;have Z2:Hid (W.heap.size≤w2.heap.size):=hid (Nat.le_trans S1.out hbm.size);clear hg hbm))
 all_goals
  clear t0 t1 e0 e1 l0;go_wp2_with fail;go_loopg [31] m (λmm i X=>∃a:Nat,a≤m∧mm=m-a∧i=.int .i64 a∧St w P mb W.heap.size w1.drew.heap.size ss ts l leaf lets ks vs arg K (.slice ro m rc) X∧W.heap.size≤X.heap.size∧Hid (∀i,i<a→sX l.v (ts.getD (K.getD i 0) tr0).guard vs arg=false))
  case atStart=>exact⟨0,by omega,by omega,rfl,T2.out,Z2.out,hid (λi hi=>absurd hi (by omega))⟩
  case round=>
   obtain⟨a,ha,rfl,rfl,hS,hZ,HF⟩:=hrel;have TT:=hid hS;by_cases hlt:a<m
   ·obtain⟨g,ev1,en1,ec1,nv1,nn1,nc1,P1,lv,LS,hro,y0,y1,y2,y3,y4,y5,hLS,hLi⟩:=Gr.cells hS.gr (a:=a) (by rw[←EM.out];exact hlt)
    obtain⟨q,hq⟩:∃q,q=K.getD a 0:=⟨_,rfl⟩;rw[←hq]at y0 y3 y5 hLi;have hqm:q∈K:=by rw[hq,List.getD_eq_getElem?_getD,List.getElem?_eq_getElem (by rw[←EM.out];exact hlt)];simp
    have HQ:=hid hq;have QM:=hid hqm;subst hro;have hgd:=hS.gd q (WY.out q hqm).lt;obtain⟨nx,hnx⟩:∃x,x=nxX ss leaf (ts.getD q tr0):=⟨_,rfl⟩;rw[←hnx]at y3;have NX:=hid hnx;have LI:=hid hLi;have LL:=hid hLS;have ai:(a:Int)<(m:Int):=by omega
    have a5:a≤100000:=by have:=LK.out;omega
    obtain⟨b,hb⟩:∃b,b=sX l.v (ts.getD q tr0).guard vs arg:=⟨_,rfl⟩;have HB:=hid hb;clear hS hq hqm hnx hLS hLi hb;cases b with
    |false=>
     rcases hgd with⟨hg0,hgv⟩|⟨hg0,tq,P2,ht,hgv,_,hP2⟩
     ·have:=HB.out;rw[hg0,qpC]at this;cases this
     ·have EV:Hid (decide (¬a8 vs arg tq=0)=false):=hid (by rw[←qjJ hg0 ht];exact HB.out.symm)
      rw[hgv]at y5;have CG:=hid (λX (hX:Below wr.heap.size wr X)=>qw0 ht P2 mb W.heap.size ks vs arg [] HLV.out X (aA hP2 hX) (TT.out.mom.below hX));rw[EV.out]at CG;clear hgv ht hP2 hg0;go_wp2_with(go_at_call 179;refine(CG.out _ (aB _ _)).mono ?_;rintro e w3 ⟨rfl,hb⟩;have T3:=hid ((TT.out.below (aB _ _)).below hb);have Z3:=hid (Nat.le_trans hZ (Nat.le_trans (by simp) hb.size));clear hb);go_roundg(m-(a+1))
      case measure=>omega
      case rel=>exact⟨a+1,by omega,rfl,by go_num,T3.out,Z3.out,hid (λi hi=>by
       by_cases h:i<a
       ·exact HF.out i h
       ·obtain rfl:i=a:=by omega
        rw[←HQ.out];exact HB.out.symm)⟩
    |true=>
     have PQ:Hid (pk=some q):=hid (by rw[PK.out,HQ.out];exact FA.out a hlt (λi hi=>HF.out i hi) (by rw[←HQ.out];exact HB.out.symm));have CR:=hid (λX (hl:Lists X l P1 lv LS (iE ss leaf (ts.getD q tr0))) (hB:W.heap.size≤X.heap.size) (hM:Mom X W.heap.size mb ks vs arg [])=>qIF l P1 lv LS (iE ss leaf (ts.getD q tr0)) mb W.heap.size ks vs arg [] X hl HLV.out HP.out.1 HP.out.2.2 LL.out (by have:=RL.out q QM.out;simp only[List.length_nil];omega) hB hM);obtain⟨xr,hxr⟩:∃x,x=aL l.v ks arg vs (iE ss leaf (ts.getD q tr0)).flatten:=⟨_,rfl⟩;rw[←hxr]at CR;have XR:Hid (dpX ss ts l ks vs arg leaf pk=xr):=hid (by rw[PQ.out,hxr];rfl);have DN:Hid (dpN ss ts leaf pk=nx):=hid (by rw[PQ.out,NX.out];rfl);have DS:Hid (pk.isSome=true):=hid (by rw[PQ.out];rfl);clear hxr;obtain⟨lq,hlq⟩:∃x,x=lets q:=⟨_,rfl⟩;rw[←hlq]at y5 hgd;have RB:Hid (∀X,Below (wr.alloc (.cells #[.int .i64 (q:Int),.slice ev1 en1 ec1,.slice nv1 nn1 nc1,.int .i64 (nx:Nat),.func (.func 163) #[] #[.pointer (some ⟨P1,0,none⟩)],lq] 196)).heap.size (wr.alloc (.cells #[.int .i64 (q:Int),.slice ev1 en1 ec1,.slice nv1 nn1 nc1,.int .i64 (nx:Nat),.func (.func 163) #[] #[.pointer (some ⟨P1,0,none⟩)],lq] 196)) X→X.heap[wr.heap.size]? =some (.cells #[.int .i64 (q:Int),.slice ev1 en1 ec1,.slice nv1 nn1 nc1,.int .i64 (nx:Nat),.func (.func 163) #[] #[.pointer (some ⟨P1,0,none⟩)],lq] 196 (0,0))∧Below wr.heap.size wr X):=hid (λX hb=>⟨aA (heap_alloc_new wr _) hb,(aB _ _).trans (hb.mono (by simp))⟩);have CG:=hid (λ(X:World) (hX:Below wr.heap.size wr X) (tq:Tree) (P2:Nat) (ht:aV (ts.getD q tr0).guard l.v=some tq) (hP2:wr.heap[P2]? =some (.cells #[tv tq] 138 (0,0)))=>qw0 ht P2 mb W.heap.size ks vs arg [] HLV.out X (aA hP2 hX) (TT.out.mom.below hX));rcases hgd with⟨hg0,hgv⟩|⟨hg0,tq,P2,ht,hgv,_,hP2⟩
     case inr=>
      have EV:Hid (decide (¬a8 vs arg tq=0)=true):=hid (by rw[←qjJ hg0 ht];exact HB.out.symm);have CG2:=hid (λX hX=>CG.out X hX tq P2 ht hP2);rw[EV.out]at CG2;subst hgv;clear ht hP2 hg0 hlq EV CG;go_wp2_with(first
       |(go_at_call 179;refine(CG2.out _ (aB _ _)).mono ?_;rintro e w3 ⟨rfl,hb⟩;have R3:=hid (RB.out _ hb);have T3:=hid (TT.out.below R3.out.2);have Z3:=hid (Nat.le_trans hZ R3.out.2.size);obtain⟨x0,x1,x2,x3,x4,x5⟩:=tQ R3.out.1;clear hb)
       |(go_at_call 163;refine(CR.out _ (LI.out.below R3.out.2) Z3.out T3.out.mom).mono ?_;rintro e w5 ⟨rfl,hm,hst⟩;have S5:=hid hst;obtain⟨kg,kc',vg,vc',ee,m1,ok,ov,hne,hmb,hev,hev0⟩:=hm;obtain⟨ea,en,ec,rfl⟩:∃ea en ec,ee=.slice ea en ec:=(by rcases hev.2 with⟨h,_⟩|⟨g,cap,cur,h,_⟩<;>exact⟨_,_,_,h⟩);have M5:=hid m1;have OK5:=hid ok;have OV5:=hid ov;have OE5:=hid hev;obtain⟨t0,t1,t2,t3⟩:=aC m1;clear hst m1 ok ov hev hev0))
      have R5:=hid (S5.out.box R3.out.1 (by decide) (by decide) (by decide));have Z5:=hid (S5.out.box T3.out.zb (by decide) (by decide) (by decide));have N5:Hid (ButM P w w5):=hid (T3.out.but.more (S5.out.below Z3.out) EN.out.bel.size);obtain⟨x0,x1,x2,x3,x4,x5⟩:=tQ R5.out;have nz:w.heap.size+1+1<W.heap.size:=lt_of_block EN.out.r;have nmb:¬(mb=w.heap.size+1+1):=by omega
      have nmb2:¬(w.heap.size+1+1=mb):=λe=>nmb e.symm;have nrb:¬(wr.heap.size=w.heap.size+1+1):=by omega
      have nrb2:¬(w.heap.size+1+1=wr.heap.size):=λe=>nrb e.symm;have CBk:=hid (qiX mb _ _ _ _ w5.drew ⟨_,_,_,rfl⟩ ⟨_,_,_,rfl⟩ M5.out);clear t0 t1 t2 x0 x1 x2 x4 x5 nz;go_region_held3(λw'=>w'.cell? ⟨wr.heap.size,3,none⟩=some (.int .i64 (nx:Nat))∧w'.cell? ⟨mb,3,none⟩=some (.slice ea en ec)) (first|(with_reducible exact SX.out)|go_keep|(exact And.intro ((cell_far (λe=>nrb e)).trans ((cell_far (λe=>nrb e)).trans SX.out.1)) ((cell_far (λe=>nmb e)).trans ((cell_far (λe=>nmb e)).trans SX.out.2))))
       (first
        |(go_at_call 69;refine CBk.out.mono ?_;rintro e w6 ⟨rfl,hb⟩;have B6:Hid (Below w5.heap.size w5 w6):=hid (dn0 hb);have SX:=hid (And.intro ((dn0 hb).cell (p:=⟨wr.heap.size,3,none⟩) (lt_of_block R5.out)|>.trans x3) ((dn0 hb).cell (p:=⟨mb,3,none⟩) (lt_of_block M5.out)|>.trans t3));have Z6:=hid (aA Z5.out (dn0 hb));obtain⟨p0,p1,p2,p3⟩:=aF Z6.out;clear hb))
      all_goals
       go_wp2_with fail;obtain⟨z0,z1⟩:=dT (tN (u1:=.slice (some ⟨kg,0,none⟩) ks.length kc') (u2:=.slice (some ⟨vg,0,none⟩) xr.1.length vc') Z6.out);refine bodyPost_ret (v:=.tuple #[.int .i64 (nx:Nat),.agg #[.slice (some ⟨kg,0,none⟩) ks.length kc',.slice (some ⟨vg,0,none⟩) xr.1.length vc'],.slice ea en ec,.bool true]) (by simp[results,Tryz.results60,go_sem,z0,z1]) rfl ?_;refine⟨.slice (some ⟨kg,0,none⟩) ks.length kc',.slice (some ⟨vg,0,none⟩) xr.1.length vc',.slice ea en ec,by rw[DN.out,DS.out],?_,N5.out.more (C:=w.heap.size) (((B6.out.mono N5.out.size).setCell (show w.heap.size≤w.heap.size+1+1 by omega) _).setCell (show w.heap.size≤w.heap.size+1+1 by omega) _) (Nat.le_refl _)⟩;rw[XR.out];exact qpF OK5.out OV5.out hne (by simpa using OE5.out) EN.out.bel.size B6.out Z6.out
     case inl=>
      subst hgv;clear hg0 hlq CG;go_wp2_with(first
       |(go_at_call 178;refine(qzZ _ _).mono ?_;rintro e w3 ⟨rfl,hw⟩;have R3:=hid (RB.out w3 (by rw[hw];exact Below.refl _ _));have T3:=hid (TT.out.below R3.out.2);have Z3:=hid (Nat.le_trans hZ R3.out.2.size);obtain⟨x0,x1,x2,x3,x4,x5⟩:=tQ R3.out.1;clear hw)
       |(go_at_call 163;refine(CR.out _ (LI.out.below R3.out.2) Z3.out T3.out.mom).mono ?_;rintro e w5 ⟨rfl,hm,hst⟩;have S5:=hid hst;obtain⟨kg,kc',vg,vc',ee,m1,ok,ov,hne,hmb,hev,hev0⟩:=hm;obtain⟨ea,en,ec,rfl⟩:∃ea en ec,ee=.slice ea en ec:=(by rcases hev.2 with⟨h,_⟩|⟨g,cap,cur,h,_⟩<;>exact⟨_,_,_,h⟩);have M5:=hid m1;have OK5:=hid ok;have OV5:=hid ov;have OE5:=hid hev;obtain⟨t0,t1,t2,t3⟩:=aC m1;clear hst m1 ok ov hev hev0))
      have R5:=hid (S5.out.box R3.out.1 (by decide) (by decide) (by decide));have Z5:=hid (S5.out.box T3.out.zb (by decide) (by decide) (by decide));have N5:Hid (ButM P w w5):=hid (T3.out.but.more (S5.out.below Z3.out) EN.out.bel.size);obtain⟨x0,x1,x2,x3,x4,x5⟩:=tQ R5.out;have nz:w.heap.size+1+1<W.heap.size:=lt_of_block EN.out.r;have nmb:¬(mb=w.heap.size+1+1):=by omega
      have nmb2:¬(w.heap.size+1+1=mb):=λe=>nmb e.symm;have nrb:¬(wr.heap.size=w.heap.size+1+1):=by omega
      have nrb2:¬(w.heap.size+1+1=wr.heap.size):=λe=>nrb e.symm;have CBk:=hid (qiX mb _ _ _ _ w5.drew ⟨_,_,_,rfl⟩ ⟨_,_,_,rfl⟩ M5.out);clear t0 t1 t2 x0 x1 x2 x4 x5 nz;go_region_held3(λw'=>w'.cell? ⟨wr.heap.size,3,none⟩=some (.int .i64 (nx:Nat))∧w'.cell? ⟨mb,3,none⟩=some (.slice ea en ec)) (first|(with_reducible exact SX.out)|go_keep|(exact And.intro ((cell_far (λe=>nrb e)).trans ((cell_far (λe=>nrb e)).trans SX.out.1)) ((cell_far (λe=>nmb e)).trans ((cell_far (λe=>nmb e)).trans SX.out.2))))
       (first
        |(go_at_call 69;refine CBk.out.mono ?_;rintro e w6 ⟨rfl,hb⟩;have B6:Hid (Below w5.heap.size w5 w6):=hid (dn0 hb);have SX:=hid (And.intro ((dn0 hb).cell (p:=⟨wr.heap.size,3,none⟩) (lt_of_block R5.out)|>.trans x3) ((dn0 hb).cell (p:=⟨mb,3,none⟩) (lt_of_block M5.out)|>.trans t3));have Z6:=hid (aA Z5.out (dn0 hb));obtain⟨p0,p1,p2,p3⟩:=aF Z6.out;clear hb))
      all_goals
       go_wp2_with fail;obtain⟨z0,z1⟩:=dT (tN (u1:=.slice (some ⟨kg,0,none⟩) ks.length kc') (u2:=.slice (some ⟨vg,0,none⟩) xr.1.length vc') Z6.out);refine bodyPost_ret (v:=.tuple #[.int .i64 (nx:Nat),.agg #[.slice (some ⟨kg,0,none⟩) ks.length kc',.slice (some ⟨vg,0,none⟩) xr.1.length vc'],.slice ea en ec,.bool true]) (by simp[results,Tryz.results60,go_sem,z0,z1]) rfl ?_;refine⟨.slice (some ⟨kg,0,none⟩) ks.length kc',.slice (some ⟨vg,0,none⟩) xr.1.length vc',.slice ea en ec,by rw[DN.out,DS.out],?_,N5.out.more (C:=w.heap.size) (((B6.out.mono N5.out.size).setCell (show w.heap.size≤w.heap.size+1+1 by omega) _).setCell (show w.heap.size≤w.heap.size+1+1 by omega) _) (Nat.le_refl _)⟩;rw[XR.out];exact qpF OK5.out OV5.out hne (by simpa using OE5.out) EN.out.bel.size B6.out Z6.out
   ·obtain rfl:a=m:=by omega
    have PQ:Hid (pk=none):=hid (by rw[PK.out];exact FN.out (λi hi=>HF.out i hi));have XR:Hid (dpX ss ts l ks vs arg leaf pk=(vs,[])):=hid (by rw[PQ.out];rfl);have DN:Hid (dpN ss ts leaf pk=leaf):=hid (by rw[PQ.out];rfl);have DS:Hid (pk.isSome=false):=hid (by rw[PQ.out];rfl);obtain⟨kg,kc',vg,vc',ee,m1,ok,ov,hne,hmb,hev,hev0⟩:=hS.mom;obtain⟨ea,en,ec,rfl⟩:∃ea en ec,ee=.slice ea en ec:=(by rcases hev.2 with⟨h,_⟩|⟨g,cap,cur,h,_⟩<;>exact⟨_,_,_,h⟩);have M5:=hid m1;have OK5:=hid ok;have OV5:=hid ov;have OE5:=hid hev;obtain⟨t0,t1,t2,t3⟩:=aC m1;have Z5:=hid hS.zb;have N5:=hid hS.but;have nz:w.heap.size+1+1<W.heap.size:=lt_of_block EN.out.r;have nmb:¬(mb=w.heap.size+1+1):=by omega
    have nmb2:¬(w.heap.size+1+1=mb):=λe=>nmb e.symm;have CBk:=hid (qiX mb _ _ _ _ wr.drew ⟨_,_,_,rfl⟩ ⟨_,_,_,rfl⟩ M5.out);clear t0 t1 t2 nz hS m1 ok ov hev hev0;go_wp2_with fail;go_region_held3(λw'=>w'.cell? ⟨mb,3,none⟩=some (.slice ea en ec)) (first|(with_reducible exact SX.out)|go_keep|(exact((cell_far (λe=>nmb e)).trans ((cell_far (λe=>nmb e)).trans SX.out))))
     (first
      |(go_at_call 69;refine CBk.out.mono ?_;rintro e w6 ⟨rfl,hb⟩;have B6:Hid (Below wr.heap.size wr w6):=hid (dn0 hb);have SX:=hid ((dn0 hb).cell (p:=⟨mb,3,none⟩) (lt_of_block M5.out)|>.trans t3);have Z6:=hid (aA Z5.out (dn0 hb));obtain⟨p0,p1,p2,p3⟩:=aF Z6.out;clear hb))
    all_goals
     go_wp2_with fail;obtain⟨z0,z1⟩:=dT (tN (u1:=.slice (some ⟨kg,0,none⟩) ks.length kc') (u2:=.slice (some ⟨vg,0,none⟩) vs.length vc') Z6.out);refine bodyPost_ret (v:=.tuple #[.int .i64 (leaf:Int),.agg #[.slice (some ⟨kg,0,none⟩) ks.length kc',.slice (some ⟨vg,0,none⟩) vs.length vc'],.slice ea en ec,.bool false]) (by simp[results,Tryz.results60,go_sem,z0,z1]) rfl ?_;refine⟨.slice (some ⟨kg,0,none⟩) ks.length kc',.slice (some ⟨vg,0,none⟩) vs.length vc',.slice ea en ec,by rw[DN.out,DS.out],?_,N5.out.more (C:=w.heap.size) (((B6.out.mono N5.out.size).setCell (show w.heap.size≤w.heap.size+1+1 by omega) _).setCell (show w.heap.size≤w.heap.size+1+1 by omega) _) (Nat.le_refl _)⟩;rw[XR.out];exact qpF OK5.out OV5.out hne OE5.out EN.out.bel.size B6.out Z6.out
end Go.Proofs.YtiimkhepplkocaaGreat
namespace Go.Proofs.YtiimkhepplkocaaGreat
open Go.RowKit Go.Sort
set_option linter.unusedVariables false
attribute [local go_sem ↓] Go.wp_at_zero Go.wp_at_succ
def sT(ss:List StD)(l:Int):Bool:=aQ l 0 ((ss.length:Int)-1)&&decide (bK ss ss.length l.toNat=[])
theorem qxP{ss:List StD}{tn:Nat}(g:uH ss tn){s:Nat}(hs:s<ss.length):decide (bK ss ss.length s=[])=decide (ini ss s<0):=by
 have h:=g.ini s hs;unfold gI at h;by_cases e:bK ss ss.length s=[]
 ·rw[if_pos e]at h
  simp only[Bool.not_eq_false',decide_eq_true_eq]at h;rw[decide_eq_true e,decide_eq_true (by omega)]
 ·rw[if_neg e]at h
  simp only[Bool.not_eq_false',decide_eq_true_eq]at h;rw[decide_eq_false e,decide_eq_false (by omega)]
theorem qu6(x a b:Int):aQ x a b=decide (a≤x∧x≤b):=rfl
theorem qxO{ss:List StD}{tn:Nat}(g:uH ss tn){k:Nat}(hk:k<ss.length):sT ss (k:Int)=decide (ini ss k<0):=by
 unfold sT;rw[qu6,decide_eq_true (by omega),Bool.true_and,Int.toNat_natCast,qxP g hk]
theorem qjI{ss:List StD}{x:Int}(h:¬(0≤x∧x<ss.length)):sT ss x=false:=by
 unfold sT;rw[qu6,decide_eq_false (by omega),Bool.false_and]
theorem qoU{w0:World}{cx lx:Array Value}{N:Nat→Nat}{tg tcap:Nat}{ss:List StD}{ts:List TrD}{n:Nat}{l:aE}{B P M tn:Nat}{E F:List Value}{ev xv:Value}{L lets act:Nat→Value}(hC:Chk ss ts l)(hn:ss.length=n)(x:Int)(w:World)(h:L2 w0 cx lx N tg tcap ss ts n l B P M tn E F ev xv L lets act w):
  Calls Tryz.prog 58 #[.pointer (some ⟨M,0,none⟩),.int .i64 x] w λe w'=>e=.returned (.bool (sT ss x))∧w'=w:=by
 subst hn;have c0:=(cJ h.l1.mac.box).1;have CW:=hid (qgV x (ss.length:Int) w);by_cases hx:0≤x∧x<ss.length
 ·obtain⟨k,rfl⟩:∃k:Nat,x=k:=⟨x.toNat,by omega⟩
  have hk:k<ss.length:=by omega
  have ct:=qdO h.l1.mb.tr hk;have CI:=hid (qxB N ss k hk w h.l1.mb.nd);rw[qxO hC.good hk];obtain⟨b,hb⟩:∃b,b=decide (ini ss k<0):=⟨_,rfl⟩;rw[←hb]at CI⊢;rw[decide_eq_true hx]at CW;have ki:(k:Int)<(ss.length:Int):=by omega
  clear h hb hx hC;go_enter Tryz.func58,Tryz.ntmps58;go_wp2_with(first
   |(go_at_call 59;refine CW.out.mono ?_;rintro e wa ⟨rfl,hw⟩;obtain rfl:=hw.symm)
   |(go_at_call 45;refine CI.out.mono ?_;rintro e wb ⟨rfl,hw⟩;obtain rfl:=hw.symm))
  go_ret;exact⟨rfl,rfl⟩
 ·rw[qjI hx]
  rw[decide_eq_false hx]at CW;clear h hx hC;go_enter Tryz.func58,Tryz.ntmps58;go_wp2_with(go_at_call 59;refine CW.out.mono ?_;rintro e wa ⟨rfl,hw⟩;obtain rfl:=hw.symm);go_ret;exact⟨rfl,rfl⟩
def dM(ss:List StD)(ts:List TrD)(l:aE)(ks vs:List Int)(leaf sg:Int):Bool:=vC ss ts l ks vs&&(sT ss leaf&&decide (0≤sg∧sg<l.s))
def dL(ss:List StD)(ts:List TrD)(l:aE)(ks vs:List Int)(leaf sg arg:Int):Int:=if dM ss ts l ks vs leaf sg then(dpN ss ts leaf.toNat (sZ ss ts l vs arg leaf.toNat sg):Nat)else-1
def dK(ss:List StD)(ts:List TrD)(l:aE)(ks vs:List Int)(leaf sg:Int):List Int:=if dM ss ts l ks vs leaf sg then ks else []
def dV(ss:List StD)(ts:List TrD)(l:aE)(ks vs:List Int)(leaf sg arg:Int):List Int:=if dM ss ts l ks vs leaf sg then(dpX ss ts l ks vs arg leaf.toNat (sZ ss ts l vs arg leaf.toNat sg)).1 else []
def dE(ss:List StD)(ts:List TrD)(l:aE)(ks vs:List Int)(leaf sg arg:Int):List bI:=if dM ss ts l ks vs leaf sg then(dpX ss ts l ks vs arg leaf.toNat (sZ ss ts l vs arg leaf.toNat sg)).2 else []
def dB(ss:List StD)(ts:List TrD)(l:aE)(ks vs:List Int)(leaf sg arg:Int):Bool:=if dM ss ts l ks vs leaf sg then(sZ ss ts l vs arg leaf.toNat sg).isSome else false
structure Bw (w:World) (cx lx bx ex:Array Value) (X:World):Prop where
 bel:Below w.heap.size w X
 c:X.heap[w.heap.size]? =some (.cells cx 36 (0,0))
 l:X.heap[w.heap.size+1]? =some (.cells lx 40 (0,0))
 b:X.heap[w.heap.size+1+1]? =some (.cells bx 32 (0,0))
 e:X.heap[w.heap.size+1+1+1]? =some (.cells ex 51 (0,0))
 r:X.heap[w.heap.size+1+1+1+1]? =some (.cells #[.slice none 0 0,.slice none 0 0] 32 (0,0))
theorem Bw.below{w:World}{cx lx bx ex:Array Value}{X Y:World}(h:Bw w cx lx bx ex X)(hb:Below X.heap.size X Y):Bw w cx lx bx ex Y:=⟨h.bel.trans (hb.mono h.bel.size),aA h.c hb,aA h.l hb,aA h.b hb,aA h.e hb,aA h.r hb⟩
theorem qvB(w:World)(cx lx bx ex:Array Value):Bw w cx lx bx ex (((((w.alloc (.cells cx 36)).alloc (.cells lx 40)).alloc (.cells bx 32)).alloc (.cells ex 51)).alloc (.cells #[.slice none 0 0,.slice none 0 0] 32)):=by
 have h2:=heap_alloc_new (w.alloc (.cells cx 36)) (.cells lx 40);have h3:=heap_alloc_new ((w.alloc (.cells cx 36)).alloc (.cells lx 40)) (.cells bx 32);have h4:=heap_alloc_new (((w.alloc (.cells cx 36)).alloc (.cells lx 40)).alloc (.cells bx 32)) (.cells ex 51);have h5:=heap_alloc_new ((((w.alloc (.cells cx 36)).alloc (.cells lx 40)).alloc (.cells bx 32)).alloc (.cells ex 51)) (.cells #[.slice none 0 0,.slice none 0 0] 32);simp only[World.size_alloc]at h2 h3 h4 h5;exact⟨((yW _ _ _ _).alloc (by simp;omega) _).alloc (by simp;omega) _,aA (aA (aA (aA (heap_alloc_new w _) (aB _ _)) (aB _ _)) (aB _ _)) (aB _ _),aA (aA (aA h2 (aB _ _)) (aB _ _)) (aB _ _),aA (aA h3 (aB _ _)) (aB _ _),aA h4 (aB _ _),h5⟩
end Go.Proofs.YtiimkhepplkocaaGreat
namespace Go.Proofs.YtiimkhepplkocaaGreat
open Go.RowKit Go.Sort
set_option linter.unusedVariables false
attribute [local go_sem ↓] Go.wp_at_zero Go.wp_at_succ
theorem qEU(so tq:Option Addr)(n sc tn tc:Nat)(ss:List StD)(ts:List TrD)(o s t v:Int)(leaf:Int)(kA vA:Option Addr)(kn kc vn vc:Nat)(ks vs:List Int)(sg arg:Int)(w:World)(hn:n≤9223372036854775807)(htn:tn≤9223372036854775807)(hkn:kn≤1048576)(hvn:vn≤1048576)(hs:StatesOf w so n ss)(ht:TransOf w tq tn ts)(hk:SliceOf w kA kn ks)(hv:SliceOf w vA vn vs):
  Calls Tryz.prog 15 #[.agg #[.slice so n sc,.slice tq tn tc],.agg #[.int .i64 o,.int .i64 s,.int .i64 t,.int .i64 v],.int .i64 leaf,.agg #[.slice kA kn kc,.slice vA vn vc],.agg #[.int .i64 sg,.int .i64 arg]] w λe w'=>∃kv vv ev,e=.returned (.tuple #[.int .i64 (dL ss ts ⟨o,s,t,v⟩ ks vs leaf sg arg),.agg #[kv,vv],ev,.bool (dB ss ts ⟨o,s,t,v⟩ ks vs leaf sg arg)])∧OutE w.heap.size w' kv vv ev (dK ss ts ⟨o,s,t,v⟩ ks vs leaf sg) (dV ss ts ⟨o,s,t,v⟩ ks vs leaf sg arg) (dE ss ts ⟨o,s,t,v⟩ ks vs leaf sg arg)∧Below w.heap.size w w':=by
 have EN:=hid (qvB w #[.slice so n sc,.slice tq tn tc] #[.int .i64 o,.int .i64 s,.int .i64 t,.int .i64 v] #[.slice kA kn kc,.slice vA vn vc] #[.int .i64 sg,.int .i64 arg]);have HS:Hid (∀w',Below w.heap.size w w'→SliceOf w' kA kn ks∧SliceOf w' vA vn vs):=λw' h=>⟨hk.below h,hv.below h⟩;have BF:=hid (λw' (hb:Below w.heap.size w w')=>qAO kA vA kn kc vn vc ks vs o s t v w' hkn hvn (HS.out w' hb).1 (HS.out w' hb).2);have SL:=hid hs.1;have TL:=hid ht.1;by_cases hc:(bJ ss ts ⟨o,s,t,v⟩).1=0
 case neg=>
  have A1:Hid (dM ss ts ⟨o,s,t,v⟩ ks vs leaf sg=false):=hid (by unfold dM vC;rw[decide_eq_false hc];rfl);have C:=hid (qxT so tq n sc tn tc ss ts o s t v _ hn htn (hs.below EN.out.bel) (ht.below EN.out.bel) hc);clear hs ht hk hv hc;go_enter Tryz.func15,Tryz.ntmps15;go_wp2_with(go_at_call 43;refine C.out.mono ?_;rintro e w1 ⟨rfl,hb⟩;have B1:=hid (EN.out.below hb);obtain⟨z0,z1,z2,z3⟩:=aF B1.out.r;have zl:=lt_of_block B1.out.r;clear hb);obtain⟨y0,y1⟩:=dT (aA (tN (u1:=.slice none 0 0) (u2:=.slice none 0 0) B1.out.r) (aB _ OE));refine bodyPost_ret (v:=.tuple #[.int .i64 (-1),.agg #[.slice none 0 0,.slice none 0 0],.slice (some ⟨w1.heap.size,0,none⟩) 0 0,.bool false]) (by simp[results,Tryz.results15,go_sem,y0,y1]) rfl ?_;refine⟨.slice none 0 0,.slice none 0 0,.slice (some ⟨w1.heap.size,0,none⟩) 0 0,by rw[show dL ss ts ⟨o,s,t,v⟩ ks vs leaf sg arg=-1 from by simp[dL,A1.out],show dB ss ts ⟨o,s,t,v⟩ ks vs leaf sg arg=false from by simp[dB,A1.out]],?_,(uT B1.out.bel (by omega)).alloc (by have:=B1.out.bel.size;simp;omega) _⟩;simp only[dK,dV,dE,A1.out];exact qbC (by simpa using uM ((w1.setCell ⟨w.heap.size+1+1+1+1,0,none⟩ (.slice none 0 0)).setCell ⟨w.heap.size+1+1+1+1,1,none⟩ (.slice none 0 0)) OE) B1.out.bel.size
 have C:=hid (qxU so tq n sc tn tc ss ts o s t v _ hn htn (hs.below EN.out.bel) (ht.below EN.out.bel) hc);have HC:=hid (yI hc);obtain⟨fb,hfb⟩:∃b,b=qa7 ks vs v:=⟨_,rfl⟩;rw[←hfb]at BF;cases fb with
 |false=>
  have A1:Hid (dM ss ts ⟨o,s,t,v⟩ ks vs leaf sg=false):=hid (by unfold dM vC;rw[←hfb];simp);clear hs ht hk hv hc hfb;go_enter Tryz.func15,Tryz.ntmps15;go_wp2_with(first
   |(go_at_call 43;refine C.out.mono ?_;rintro e w1 ⟨x0,N,tg,tcap,B,P,M,E,F,ev,xv,L,lets,act,rfl,hx0,hL2,hb⟩;have B1:=hid (EN.out.below hb);have HL2:=hid hL2;obtain⟨p0,p1,_,_⟩:=aF B1.out.b;obtain⟨l0,l1,l2,l3⟩:=aC B1.out.l;clear hb hL2 hx0)
   |(go_at_call 57;refine(BF.out _ B1.out.bel).mono ?_;rintro e w2 ⟨rfl,hb⟩;have B2:=hid (B1.out.below hb);obtain⟨p0,p1,_,_⟩:=aF B2.out.b;obtain⟨z0,z1,z2,z3⟩:=aF B2.out.r;have zl:=lt_of_block B2.out.r;clear hb))
  obtain⟨y0,y1⟩:=dT (aA (tN (u1:=.slice none 0 0) (u2:=.slice none 0 0) B2.out.r) (aB _ OE));refine bodyPost_ret (v:=.tuple #[.int .i64 (-1),.agg #[.slice none 0 0,.slice none 0 0],.slice (some ⟨w2.heap.size,0,none⟩) 0 0,.bool false]) (by simp[results,Tryz.results15,go_sem,y0,y1]) rfl ?_;refine⟨.slice none 0 0,.slice none 0 0,.slice (some ⟨w2.heap.size,0,none⟩) 0 0,by rw[show dL ss ts ⟨o,s,t,v⟩ ks vs leaf sg arg=-1 from by simp[dL,A1.out],show dB ss ts ⟨o,s,t,v⟩ ks vs leaf sg arg=false from by simp[dB,A1.out]],?_,(uT B2.out.bel (by omega)).alloc (by have:=B2.out.bel.size;simp;omega) _⟩;simp only[dK,dV,dE,A1.out];exact qbC (by simpa using uM ((w2.setCell ⟨w.heap.size+1+1+1+1,0,none⟩ (.slice none 0 0)).setCell ⟨w.heap.size+1+1+1+1,1,none⟩ (.slice none 0 0)) OE) B2.out.bel.size
 |true=>
  have A0:Hid (vC ss ts ⟨o,s,t,v⟩ ks vs=true):=hid (by unfold vC;rw[←hfb,decide_eq_true hc];rfl);have hf2:bQ ks vs=true∧(vs.length:Int)=v:=by
   unfold qa7 at hfb;have h2:=hfb.symm;rw[Bool.and_eq_true,decide_eq_true_iff]at h2;exact h2
  have BP:=hid (qiW hf2.1);have HV:=hid hf2.2;clear hs ht hk hv hc hfb hf2;obtain⟨lb,hlb⟩:∃b,b=sT ss leaf:=⟨_,rfl⟩;cases lb with
  |false=>
   have A1:Hid (dM ss ts ⟨o,s,t,v⟩ ks vs leaf sg=false):=hid (by unfold dM;rw[←hlb];simp);have LB:=hid hlb;clear hlb;go_enter Tryz.func15,Tryz.ntmps15;go_wp2_with(first
    |(go_at_call 43;refine C.out.mono ?_;rintro e w1 ⟨x0,N,tg,tcap,B,P,M,E,F,ev,xv,L,lets,act,rfl,hx0,hL2,hb⟩;have B1:=hid (EN.out.below hb);have HL2:=hid hL2;obtain⟨p0,p1,_,_⟩:=aF B1.out.b;obtain⟨l0,l1,l2,l3⟩:=aC B1.out.l;clear hb hL2 hx0)
    |(go_at_call 57;refine(BF.out _ B1.out.bel).mono ?_;rintro e w2 ⟨rfl,hb⟩;have B2:=hid (B1.out.below hb);have L2h:=hid (HL2.out.below hb);obtain⟨p0,p1,_,_⟩:=aF B2.out.b;obtain⟨z0,z1,z2,z3⟩:=aF B2.out.r;have zl:=lt_of_block B2.out.r;clear hb)
    |(go_at_call 58;refine(qoU HC.out SL.out leaf _ L2h.out).mono ?_;rw[←LB.out];rintro e wa ⟨rfl,hw⟩;obtain rfl:=hw.symm))
   obtain⟨y0,y1⟩:=dT (aA (tN (u1:=.slice none 0 0) (u2:=.slice none 0 0) B2.out.r) (aB _ OE));refine bodyPost_ret (v:=.tuple #[.int .i64 (-1),.agg #[.slice none 0 0,.slice none 0 0],.slice (some ⟨w2.heap.size,0,none⟩) 0 0,.bool false]) (by simp[results,Tryz.results15,go_sem,y0,y1]) rfl ?_;refine⟨.slice none 0 0,.slice none 0 0,.slice (some ⟨w2.heap.size,0,none⟩) 0 0,by rw[show dL ss ts ⟨o,s,t,v⟩ ks vs leaf sg arg=-1 from by simp[dL,A1.out],show dB ss ts ⟨o,s,t,v⟩ ks vs leaf sg arg=false from by simp[dB,A1.out]],?_,(uT B2.out.bel (by omega)).alloc (by have:=B2.out.bel.size;simp;omega) _⟩;simp only[dK,dV,dE,A1.out];exact qbC (by simpa using uM ((w2.setCell ⟨w.heap.size+1+1+1+1,0,none⟩ (.slice none 0 0)).setCell ⟨w.heap.size+1+1+1+1,1,none⟩ (.slice none 0 0)) OE) B2.out.bel.size
  |true=>
   obtain⟨sb,hsb⟩:∃b,b=decide (0≤sg∧sg<s):=⟨_,rfl⟩;have LB:=hid hlb;have CWs:=hid (λW=>qgV sg s W);rw[←hsb]at CWs;cases sb with
   |false=>
    have A1:Hid (dM ss ts ⟨o,s,t,v⟩ ks vs leaf sg=false):=hid (by unfold dM;simp only;rw[←hsb];simp);clear hlb hsb;go_enter Tryz.func15,Tryz.ntmps15;go_wp2_with(first
     |(go_at_call 43;refine C.out.mono ?_;rintro e w1 ⟨x0,N,tg,tcap,B,P,M,E,F,ev,xv,L,lets,act,rfl,hx0,hL2,hb⟩;have B1:=hid (EN.out.below hb);have HL2:=hid hL2;obtain⟨p0,p1,_,_⟩:=aF B1.out.b;obtain⟨l0,l1,l2,l3⟩:=aC B1.out.l;clear hb hL2 hx0)
     |(go_at_call 57;refine(BF.out _ B1.out.bel).mono ?_;rintro e w2 ⟨rfl,hb⟩;have B2:=hid (B1.out.below hb);have L2h:=hid (HL2.out.below hb);obtain⟨p0,p1,_,_⟩:=aF B2.out.b;obtain⟨z0,z1,z2,z3⟩:=aF B2.out.r;obtain⟨l0,l1,l2,l3⟩:=aC B2.out.l;obtain⟨v0,v1,_,_⟩:=aF B2.out.e;have zl:=lt_of_block B2.out.r;clear hb)
     |(go_at_call 58;refine(qoU HC.out SL.out leaf _ L2h.out).mono ?_;rw[←LB.out];rintro e wa ⟨rfl,hw⟩;obtain rfl:=hw.symm)
     |(go_at_call 59;refine(CWs.out _).mono ?_;rintro e wa ⟨rfl,hw⟩;obtain rfl:=hw.symm))
    obtain⟨y0,y1⟩:=dT (aA (tN (u1:=.slice none 0 0) (u2:=.slice none 0 0) B2.out.r) (aB _ OE));refine bodyPost_ret (v:=.tuple #[.int .i64 (-1),.agg #[.slice none 0 0,.slice none 0 0],.slice (some ⟨w2.heap.size,0,none⟩) 0 0,.bool false]) (by simp[results,Tryz.results15,go_sem,y0,y1]) rfl ?_;refine⟨.slice none 0 0,.slice none 0 0,.slice (some ⟨w2.heap.size,0,none⟩) 0 0,by rw[show dL ss ts ⟨o,s,t,v⟩ ks vs leaf sg arg=-1 from by simp[dL,A1.out],show dB ss ts ⟨o,s,t,v⟩ ks vs leaf sg arg=false from by simp[dB,A1.out]],?_,(uT B2.out.bel (by omega)).alloc (by have:=B2.out.bel.size;simp;omega) _⟩;simp only[dK,dV,dE,A1.out];exact qbC (by simpa using uM ((w2.setCell ⟨w.heap.size+1+1+1+1,0,none⟩ (.slice none 0 0)).setCell ⟨w.heap.size+1+1+1+1,1,none⟩ (.slice none 0 0)) OE) B2.out.bel.size
   |true=>
    have A1:Hid (dM ss ts ⟨o,s,t,v⟩ ks vs leaf sg=true):=hid (by unfold dM;simp only;rw[←hsb,A0.out,←hlb];rfl);have hlr:0≤leaf∧leaf<ss.length:=by
     have h1:=hlb;by_cases h:0≤leaf∧leaf<ss.length
     ·exact h
     ·rw[qjI h]at h1;cases h1
    obtain⟨lf,hlf⟩:∃x,x=leaf.toNat:=⟨_,rfl⟩;have hle:leaf=(lf:Int):=by omega
    have hln:lf<n:=by have:=SL.out;omega
    have LN:=hid hln;have HLE:=hid hle;subst hle;obtain⟨pk,hpk⟩:∃p,p=sZ ss ts ⟨o,s,t,v⟩ vs arg lf sg:=⟨_,rfl⟩;have PK:=hid hpk;obtain⟨xr,hxr⟩:∃x,x=dpX ss ts ⟨o,s,t,v⟩ ks vs arg lf pk:=⟨_,rfl⟩;have XR:=hid hxr;obtain⟨dn,hdn⟩:∃x,x=dpN ss ts lf pk:=⟨_,rfl⟩;have DN:=hid hdn;obtain⟨ds,hds⟩:∃x,x=pk.isSome:=⟨_,rfl⟩;have DS:=hid hds;have CS:=hid (λ(w0:World) (N:Nat→Nat) (tg tcap B P M:Nat) (E F:List Value) (ev xv:Value) (L lets act:Nat→Value) (W:World) (hW:Below w.heap.size w W) (h:L2 w0 #[.slice so n sc,.slice tq tn tc] #[.int .i64 o,.int .i64 s,.int .i64 t,.int .i64 v] N tg tcap ss ts n ⟨o,s,t,v⟩ B P M tn E F ev xv L lets act W)=>qJQ HC.out SL.out TL.out lf LN.out sg arg kA vA kn kc vn vc ks vs W h hkn hvn (HS.out _ hW).1 (HS.out _ hW).2 BP.out HV.out.symm);rw[←hpk,←hxr,←hdn,←hds]at CS;clear hlb hsb hlr hlf hln hpk hxr hdn hds;go_enter Tryz.func15,Tryz.ntmps15;go_wp2_with(first
     |(go_at_call 43;refine C.out.mono ?_;rintro e w1 ⟨x0,N,tg,tcap,B,P,M,E,F,ev,xv,L,lets,act,rfl,hx0,hL2,hb⟩;have B1:=hid (EN.out.below hb);have HL2:=hid hL2;have X0:=hid hx0;obtain⟨p0,p1,_,_⟩:=aF B1.out.b;obtain⟨l0,l1,l2,l3⟩:=aC B1.out.l;clear hb hL2 hx0)
     |(go_at_call 57;refine(BF.out _ B1.out.bel).mono ?_;rintro e w2 ⟨rfl,hb⟩;have B2:=hid (B1.out.below hb);have L2h:=hid (HL2.out.below hb);obtain⟨p0,p1,_,_⟩:=aF B2.out.b;obtain⟨l0,l1,l2,l3⟩:=aC B2.out.l;obtain⟨v0,v1,_,_⟩:=aF B2.out.e;clear hb)
     |(go_at_call 58;refine(qoU HC.out SL.out _ _ L2h.out).mono ?_;rw[←LB.out];rintro e wa ⟨rfl,hw⟩;obtain rfl:=hw.symm)
     |(go_at_call 59;refine(CWs.out _).mono ?_;rintro e wa ⟨rfl,hw⟩;obtain rfl:=hw.symm)
     |(go_at_call 60;refine(CS.out _ _ _ _ _ _ _ _ _ _ _ _ _ _ _ B2.out.bel L2h.out).mono ?_;rintro e w3 ⟨kv,vv,ee,rfl,ho,hb⟩;obtain⟨ka,kcc,rfl⟩:=cG ho.k;obtain⟨va,vcc,rfl⟩:=cG ho.v;obtain⟨ea,ecc,rfl⟩:=cG ho.e;have R3:=hid (hb.box ⟨_,_,L2h.out.l1.mb.mp⟩ B2.out.r);have O3:=hid ho;have SZ:=hid B2.out.bel.size;have P3:Hid (w.heap.size≤P):=hid (by have h1:=L2h.out.l1.hB;have h2:=X0.out;have h3:=EN.out.bel.size;omega);have B3:=hid (B2.out.bel.trans (hb.below P3.out B2.out.bel.size));obtain⟨z0,z1,z2,z3⟩:=aF R3.out;have zl:=lt_of_block R3.out;clear ho hb))
    obtain⟨y0,y1⟩:=dT (tN (u1:=.slice ka ks.length kcc) (u2:=.slice va xr.1.length vcc) R3.out);refine bodyPost_ret (v:=.tuple #[.int .i64 (dn:Int),.agg #[.slice ka ks.length kcc,.slice va xr.1.length vcc],.slice ea xr.2.length ecc,.bool ds]) (by simp[results,Tryz.results15,go_sem,y0,y1]) rfl ?_;refine⟨.slice ka ks.length kcc,.slice va xr.1.length vcc,.slice ea xr.2.length ecc,by rw[show dL ss ts ⟨o,s,t,v⟩ ks vs (lf:Int) sg arg=(dn:Int)from by simp[dL,A1.out,DN.out,PK.out],show dB ss ts ⟨o,s,t,v⟩ ks vs (lf:Int) sg arg=ds from by simp[dB,A1.out,DS.out,PK.out]],?_,uT B3.out (by omega)⟩;simp only[dK,dV,dE,A1.out,if_true,Int.toNat_natCast];rw[←PK.out,←XR.out];exact(O3.out.under SZ.out).set2 R3.out (by decide) (by decide) 0 1 _ _
end Go.Proofs.YtiimkhepplkocaaGreat
