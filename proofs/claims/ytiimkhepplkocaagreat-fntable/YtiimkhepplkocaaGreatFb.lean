import Derived.Test.YtiimkhepplkocaaGreatTd
import Derived.Test.YtiimkhepplkocaaGreatFa
import Derived.Test.YtiimkhepplkocaaGreatFc3
import Derived.Deep.RegionHeld3
import Derived.OrdersHeld
set_option maxRecDepth 100000
set_option maxHeartbeats 16000000
namespace Go.Proofs.YtiimkhepplkocaaGreat
open Go.RowKit Go.Sort
set_option linter.unusedVariables false
theorem qGW{l:aE}(hl:cO l)(k:Int):gQ k l≤gQ k ⟨64,64,200,l.v⟩:=by
 obtain⟨⟨_,h1⟩,⟨_,h2⟩,⟨_,h3⟩,_⟩:=hl;unfold gQ;split
 ·exact Int.le_refl _
 ·split
  ·show l.o-1≤64-1;omega
  ·split
   ·show l.t-1≤200-1;omega
   ·exact Int.le_refl _
theorem qGX{l:aE}(hl:cO l)(k:Int):eP k l≤eP k ⟨64,64,200,l.v⟩:=by
 obtain⟨⟨_,h1⟩,⟨_,h2⟩,⟨_,h3⟩,_⟩:=hl;unfold eP;split
 ·show l.s-1≤64-1;omega
 ·exact Int.le_refl _
theorem qJ1{l:aE}{s:aH}(hl:cO l)(h:pU l s=true):pU ⟨64,64,200,l.v⟩ s=true:=by
 have a1:=qGW hl s.kind;have a2:=qGX hl s.kind;unfold pU aQ at h⊢;simp only[Bool.and_eq_true,decide_eq_true_eq]at h⊢;obtain⟨⟨⟨h1,h2⟩,h3⟩,h4⟩:=h;exact⟨⟨⟨h1,h2.1,Int.le_trans h2.2 a1⟩,h3.1,Int.le_trans h3.2 a2⟩,h4⟩
theorem qJ4{l:aE}{ss:List aH}(h:cK l ss=true):cK ⟨64,64,200,l.v⟩ ss=true:=by
 unfold cK at h⊢;obtain⟨hl,h2,h3⟩:=of_decide_eq_true h;exact decide_eq_true ⟨⟨⟨(show(0:Int)≤64 by decide),(show(64:Int)≤64 by decide)⟩,⟨(show(0:Int)≤64 by decide),(show(64:Int)≤64 by decide)⟩,⟨(show(0:Int)≤200 by decide),(show(200:Int)≤200 by decide)⟩,hl.2.2.2⟩,h2,λi hi=>qJ1 hl (h3 i hi)⟩
theorem qpL{l:aE}{ks vs:List Int}{ss:List aH}(hb:bQ ks vs=true)(hv:(vs.length:Int)=l.v)(h:∃x,dJ l ss=some x):okE ks vs ss=true:=by
 obtain⟨x,hx⟩:=h;have h1:cK l ss=true:=by rw[←qh2,hx];rfl
 unfold okE;rw[hb,hv,qJ4 h1];rfl
theorem qvL(ss:List StD)(ts:List TrD)(sg:Nat):∀(L:List Nat) (l s:Nat),l<L.length→s<sg→(cA ss ts sg L).getD (l*sg+s) []=iD ss ts (L.getD l 0) (s:Int)
 |[],l,s,h,_=>absurd h (by simp)
 |x::r,0,s,_,hs=>by
  have e:cA ss ts sg (x::r)=(List.range sg).map (λ(s:Nat)=>iD ss ts x (s:Int))++cA ss ts sg r:=rfl;rw[e,List.getD_eq_getElem?_getD,List.getElem?_append_left (by simpa using hs)];simp[hs]
 |x::r,l+1,s,h,hs=>by
  have ih:=qvL ss ts sg r l s (by simpa using h) hs;have e:cA ss ts sg (x::r)=(List.range sg).map (λ(s:Nat)=>iD ss ts x (s:Int))++cA ss ts sg r:=rfl;rw[e,List.getD_eq_getElem?_getD,List.getElem?_append_right (by rw[List.length_map,List.length_range,Nat.succ_mul];omega),←List.getD_eq_getElem?_getD];rw[List.length_map,List.length_range,show(l+1)*sg+s-sg=l*sg+s by rw[Nat.succ_mul];omega,ih];rfl
theorem qyW{C:List (List RwD)}{c:Nat}(h:c≤C.length):(dR C).getD c 0=(C.take c).flatten.length:=by
 unfold dR;rw[List.getD_eq_getElem?_getD];by_cases hc:c<C.length
 ·rw[List.getElem?_append_left (by rw[qbG];exact hc)]
  simp[stB,hc]
 ·obtain rfl:c=C.length:=by omega
  rw[List.getElem?_append_right (by rw[qbG];exact Nat.le_refl _),qbG];simp
theorem qKA{C:List (List RwD)}{c:Nat}(h:c<C.length):(C.take (c+1)).flatten.length=(C.take c).flatten.length+(C.getD c []).length:=by
 rw[List.take_add_one,List.flatten_append,List.length_append,List.getD_eq_getElem?_getD,List.getElem?_eq_getElem h];simp
theorem qwU:∀{C:List (List RwD)} {c a:Nat},c<C.length→a<(C.getD c []).length→C.flatten.getD ((C.take c).flatten.length+a) rw0=(C.getD c []).getD a rw0∧(C.take c).flatten.length+a<C.flatten.length
 |[],c,a,h,_=>absurd h (by simp)
 |x::r,0,a,_,ha=>by
  have ha':a<x.length:=by simpa using ha
  simp only[List.take_zero,List.flatten_nil,List.length_nil,Nat.zero_add,List.flatten_cons,List.getD_cons_zero,List.length_append];refine⟨?_,by omega⟩;rw[List.getD_eq_getElem?_getD,List.getElem?_append_left ha',←List.getD_eq_getElem?_getD]
 |x::r,c+1,a,h,ha=>by
  obtain⟨h1,h2⟩:=qwU (C:=r) (c:=c) (a:=a) (by simpa using h) (by simpa using ha);simp only[List.take_succ_cons,List.flatten_cons,List.length_append,List.getD_cons_succ];refine⟨?_,by omega⟩;rw[List.getD_eq_getElem?_getD,List.getElem?_append_right (by omega),←List.getD_eq_getElem?_getD,show x.length+(r.take c).flatten.length+a-x.length=(r.take c).flatten.length+a by omega,h1]
theorem qGB{ss:List StD}{ts:List TrD}{l:aE}(hC:Chk ss ts l){ks vs:List Int}{arg:Int}{q:Nat}(hq:q<ts.length)(hb:bQ ks vs=true)(hv:(vs.length:Int)=l.v)(hg:(ts.getD q tr0).guard≠[]):sX l.v (ts.getD q tr0).guard vs arg=decide (¬evI (ts.getD q tr0).guard ks vs arg=0):=by
 rcases hC.grd q hq with h|⟨_,t,ht⟩
 ·exact absurd h hg
 ·unfold evI
  rw[if_pos hb,hv,ht];unfold sX;cases hgd:(ts.getD q tr0).guard with
  |nil=>exact absurd hgd hg
  |cons x r=>
   rw[hgd]at ht;simp only[ht]
def stT(n:Int)(ks:List Int)(arg:Int)(vs:List Int)(R:List (List aH))(k:Nat):List Int×List bI:=aL n ks arg vs (R.take k).flatten
theorem qJF(n:Int)(ks:List Int)(arg:Int)(vs:List Int)(R:List (List aH)):stT n ks arg vs R 0=(vs,[]):=by simp[stT,aL]
theorem qJE{n:Int}{ks:List Int}{arg:Int}{vs:List Int}{R:List (List aH)}{k:Nat}(h:k<R.length):stT n ks arg vs R (k+1)=((aL n ks arg (stT n ks arg vs R k).1 (R.getD k [])).1,(stT n ks arg vs R k).2++(aL n ks arg (stT n ks arg vs R k).1 (R.getD k [])).2):=by
 unfold stT;have e:(R.take (k+1)).flatten=(R.take k).flatten++R.getD k []:=by
  rw[List.take_add_one,List.flatten_append,List.getD_eq_getElem?_getD,List.getElem?_eq_getElem h];simp
 rw[e,qoM]
theorem qJC(n:Int)(ks:List Int)(arg:Int)(vs:List Int)(R:List (List aH)):stT n ks arg vs R R.length=aL n ks arg vs R.flatten:=by simp[stT]
theorem qJD{n:Int}{ks:List Int}{arg:Int}{vs:List Int}{R:List (List aH)}{k:Nat}(h:bQ ks vs=true):bQ ks (stT n ks arg vs R k).1=true:=qoN _ h
theorem qyX{n:Int}{ks:List Int}{arg:Int}{vs:List Int}{R:List (List aH)}{k:Nat}:(stT n ks arg vs R k).1.length=vs.length∧(stT n ks arg vs R k).2.length≤R.flatten.length:=by
 obtain⟨h1,h2⟩:=qhW n ks arg (R.take k).flatten vs;refine⟨h1,Nat.le_trans h2 ?_⟩;have e:=congrArg List.length (congrArg List.flatten (List.take_append_drop k R));rw[List.flatten_append,List.length_append]at e;omega
theorem qIJ{ss:List StD}{leaf:Nat}{t:TrD}{k:Nat}(h:k<(exX ss leaf t).length):(iE ss leaf t).getD k []=(ss.getD ((exX ss leaf t).getD k 0) st0).exit:=by
 unfold iE;rw[List.append_assoc,List.getD_eq_getElem?_getD,List.getElem?_append_left (by simpa using h)];simp[h]
theorem qIH{ss:List StD}{leaf:Nat}{t:TrD}:(iE ss leaf t).getD (exX ss leaf t).length []=t.action:=by
 unfold iE;rw[List.append_assoc,List.getD_eq_getElem?_getD,List.getElem?_append_right (by simp)];simp
theorem qII{ss:List StD}{leaf:Nat}{t:TrD}{k:Nat}(h:k<(enX ss t).length):(iE ss leaf t).getD ((exX ss leaf t).length+1+k) []=(ss.getD ((enX ss t).getD k 0) st0).entry:=by
 unfold iE;rw[List.getD_eq_getElem?_getD,List.getElem?_append_right (by simp)];simp[h]
theorem qIK{ss:List StD}{leaf:Nat}{t:TrD}:(iE ss leaf t).length=(exX ss leaf t).length+1+(enX ss t).length:=by
 unfold iE;simp;omega
theorem qwR{f:Nat→Bool}:∀{K:List Nat},(∀i,i<K.length→f (K.getD i 0)=false)→K.find? f=none
 |[],_=>rfl
 |x::r,h=>by
  have h0:f x=false:=h 0 (by simp);rw[List.find?_cons,h0];exact qwR (λi hi=>by have:=h (i+1) (by simpa using hi);simpa using this)
theorem qIE{ss:List StD}{ts:List TrD}{lf:Nat}{sg:Int}{a:Nat}(h:a<(aU ts (up ss lf) sg).length):(iD ss ts lf sg).getD a rw0=bD ss ts lf ((aU ts (up ss lf) sg).getD a 0):=by
 unfold iD;simp[List.getD_eq_getElem?_getD,h]
theorem qF7{ss:List StD}{tn:Nat}(g:uH ss tn){l:Nat}(h:l<(cC ss ss.length).length):sT ss ((cC ss ss.length).getD l 0:Int)=true∧(cC ss ss.length).getD l 0<ss.length:=by
 have hm:(cC ss ss.length).getD l 0∈cC ss ss.length:=by
  rw[List.getD_eq_getElem?_getD,List.getElem?_eq_getElem h];simp
 have h2:=qh1 ss ss.length _ hm;unfold cC at hm;have h3:=(List.mem_filter.1 hm).2;refine⟨?_,h2⟩;rw[qxO g h2];exact h3
end Go.Proofs.YtiimkhepplkocaaGreat
namespace Go.Proofs.YtiimkhepplkocaaGreat
open Go.RowKit Go.Sort
set_option linter.unusedVariables false
attribute [local go_sem ↓] Go.wp_at_zero Go.wp_at_succ
theorem qj3{X:World}{B c:Nat}{ao:Option Addr}{l:List Nat}(h:X.ownsRow B 3 1 (.slice ao l.length c) l.length (aG l)):SliceOf X ao l.length (l.map λ(x:Nat)=>(x:Int)):=by
 obtain⟨ao',c',e,h2⟩:=qHO h;simp only[Value.slice.injEq]at e;rw[e.1];exact h2
theorem qE7{l:List Nat}{i:Nat}(h:i<l.length):(aG l)[i]? =some (.int .i64 (l.getD i 0:Nat)):=by
 simp[aG,List.getD_eq_getElem?_getD,h]
theorem qhB{X Y:World}{B g c:Nat}{l:List Nat}{i:Nat}(h:X.ownsRow B 3 1 (.slice (some ⟨g,0,none⟩) l.length c) l.length (aG l))(hb:Below X.heap.size X Y)(hi:i<l.length):Y.cell? ⟨g,i,none⟩=some (.int .i64 (l.getD i 0:Nat))∧g<Y.heap.size:=by
 obtain⟨g',c',e,_,hl⟩:=World.ownsRow.form h (by omega);simp only[Value.slice.injEq,Option.some.injEq,Addr.mk.injEq,and_true,true_and]at e;obtain⟨rfl,rfl⟩:=e;exact⟨(hb.cell (p:=⟨g,i,none⟩) hl).trans ((World.ownsRow.cellAt h i (by omega)).trans (qE7 hi)),Nat.lt_of_lt_of_le hl hb.size⟩
theorem qdJ{X:World}{B:Nat}{e:TypeId}{size:Nat}{ao:Option Addr}{n c:Nat}{xs:List Value}(h:X.ownsRow B e size (.slice ao n c) n xs)(h0:0<n):∃g,ao=some ⟨g,0,none⟩:=by
 obtain⟨g,c',e,_,_⟩:=World.ownsRow.form h h0;simp only[Value.slice.injEq]at e;exact⟨g,e.1⟩
theorem qyN{X:World}{B g c:Nat}{Rw:List RwD}{R:List (List Value)}{i:Nat}(h:X.ownsRow B 44 4 (.slice (some ⟨g,0,none⟩) Rw.length c) Rw.length R.flatten)(hi:RowsIn X B Rw R)(hl:i<Rw.length):∃xv nv,(X.cell? ⟨g,i*4,none⟩=some (.int .i64 (Rw.getD i rw0).tr)∧X.cell? ⟨g,i*4+1,none⟩=some xv∧X.cell? ⟨g,i*4+2,none⟩=some nv∧X.cell? ⟨g,i*4+3,none⟩=some (.int .i64 (Rw.getD i rw0).nx))∧X.ownsRow B 3 1 xv (Rw.getD i rw0).ex.length (aG (Rw.getD i rw0).ex)∧X.ownsRow B 3 1 nv (Rw.getD i rw0).en.length (aG (Rw.getD i rw0).en)∧g<X.heap.size:=by
 obtain⟨g',c',e,_,hlt⟩:=World.ownsRow.form h (by omega);simp only[Value.slice.injEq,Option.some.injEq,Addr.mk.injEq,and_true,true_and]at e;obtain⟨rfl,rfl⟩:=e;obtain⟨xv,nv,er,h1,h2⟩:=hi.2 i hl;have hl4:∀i,i<R.length→(R.getD i []).length=4:=λi h=>by
  obtain⟨x,n,e,_⟩:=hi.2 i (by rw[←hi.1];exact h);rw[e];rfl
 have at':∀j,j<4→X.cell? ⟨g,i*4+j,none⟩=(R.getD i [])[j]?:=λj hj=>by
  rw[World.ownsRow.cellAt h _ (by omega),qwT hl4 (by rw[hi.1];exact hl) hj]
 have a0:=at' 0 (by omega);have a1:=at' 1 (by omega);have a2:=at' 2 (by omega);have a3:=at' 3 (by omega);rw[er]at a0 a1 a2 a3;exact⟨xv,nv,⟨by simpa using a0,by simpa using a1,by simpa using a2,by simpa using a3⟩,h1,h2,hlt⟩
def nav:List Nat→Code→Code
 |[],c=>c
 |0::p,.seq a _=>nav p a
 |1::p,.seq _ b=>nav p b
 |2::p,.block _ b=>nav p b
 |2::p,.loop b=>nav p b
 |3::p,.cond _ a _=>nav p a
 |4::p,.cond _ _ b=>nav p b
 |_::_,c=>c
theorem qKF{u0 u1 u2 u3 u4 u5 u6 u7 u9 dU tB tC tR u16 tD tE kM kN kO kP kQ nZ oA oF dW rE uV uW dX sA sJ sK pQ pR dZ sL sM sN d8 d9 eA eB eC eD eE eF eG eH eJ eK eL eM gY gZ g8 eN eY eZ fA fC fD fE fF fG fH fI fJ fK fL fM fN fO fP fQ fR fS fT fU fV fW fX fY fZ f7 f8 f9 gA gB gC gD gE gF gG gH eQ eR eT eU eV eW eX iF iG iH gK gL gM gN gR gS gT gU gV gX iI iJ iK iL iM iN iO iP iQ iR iS iT iU iV iW iX iY iZ i4 i5 i6 i7 i9 jA jB jC jD jE jF jG jH jI jJ jK jL jM jN jO jP jQ jR jS jT jU jV jW jX jY jZ j4 j5 j6 j7 j8 j9 kB kC kD kE kF kG kH kJ kK kL lN lO lQ lR lS lT lU lV lW lX lY lZ l5 l6 l7 l8 l9 mC mD mE mF mG mH mI mJ mK mL mM mN mO mP mQ mR mS mT mU mV mW mX mY mZ nA nD nE nF nG nH nJ nK nM kR kT kU kV kW kX kY kZ k6 k8 lA lB lC lD lE lF lG lI lJ lK lL nN nO nP nQ nS nT nU nV nW nX nY tS tT tU pW pX pY pZ p8 p9 qA qB qC qD qE qF qG qH oB oC oD oE tV tW tX qJ qK qL qM qN qO qP qQ qR qS qT qX qY qZ q8 q9 rA rC rD rF rG rI oG oH oI oJ oK oL oM oN oO oP oQ oR oS oT oU oV oW oX o8 o9 tZ t9 uA rJ rK rL rM rN rO rQ rR rS rT rU rV rW rX sB sC sD sE sF sG sH sI pA pB pC pD pE pF pG pH pI pJ pK pL pM pN pO pP gO dY:Value}{HO HT HE c st B sac rac kc vc tc2 sc:Nat}{x0 x1 x4 x5 x6 x7 p0 p1 p2 p5 p6 e0:Value}{sa ra ko vo tt:Option Addr}{St:List Nat}{Rw:List RwD}{R:List (List Value)}{ks vs:List Int}{ts:List TrD}{av:Int}{K:List Nat}{gl:Nat→Bool}{w:World}
  (hHT:w.heap[HT]? =some (.cells #[x0,x1,.slice sa St.length sac,.slice ra Rw.length rac,x4,x5,x6,x7] 46 (0,0)))
  (hHO:w.heap[HO]? =some (.cells #[p0,p1,p2,.slice ko ks.length kc,.slice vo vs.length vc,p5,p6,.slice tt ts.length tc2] 38 (0,0)))
  (hHE:w.heap[HE]? =some (.cells #[e0,.int .i64 av] 51 (0,0)))
  (hS:w.ownsRow B 3 1 (.slice sa St.length sac) St.length (aG St)) (hRo:w.ownsRow B 44 4 (.slice ra Rw.length rac) Rw.length R.flatten) (hRi:RowsIn w B Rw R)
  (hT:TransOf w tt ts.length ts) (hk:SliceOf w ko ks.length ks) (hv:SliceOf w vo vs.length vs) (hkl:ks.length≤4) (hvl:vs.length≤4) (htl:ts.length≤10)
  (hst:St.getD c 0=st) (hst2:St.getD (c+1) 0=st+K.length) (hc:c+1<St.length) (hrl:Rw.length≤1280000000000) (hcl:c≤1000)
  (hK:∀a,a<K.length→K.getD a 0<ts.length∧st+a<Rw.length∧(Rw.getD (st+a) rw0).tr=(K.getD a 0:Nat))
  (hg:∀q,q<ts.length→gl q=(decide ((ts.getD q tr0).guard=[])||decide (¬evI (ts.getD q tr0).guard ks vs av=0)))
  (Q:Exit→Act→World→Prop)
  (hQ:∀(tk v4 v26 v27 v28 zD zE zF zG zH zI zJ zK zL zM zN zO zP zQ zR zS zT zU zV zW zX zY zZ z7 z8 z9 qaA qaB qaC qaD qaE qaF qaG qaH qaI qaJ qaK qaL qaM qaN qaO qaP qaQ qaR qaS qaT qaU qaV qaW qaX:Value) (w':World) (hb:Below w.heap.size w w') (hr:(K.find? gl=none∧tk=.int .i64 (-1))∨∃a,a<K.length∧K.find? gl=some (K.getD a 0)∧tk=.int .i64 ((st+a:Nat):Int)),Q .normal ⟨#[u0,u1,u2,u3,v4,u5,u6,u7,.pointer (some ⟨HO,0,none⟩),u9,.pointer (some ⟨HT,0,none⟩),dU,tB,tC,tR,.pointer (some ⟨HE,0,none⟩),u16,tD,tE,kM,kN,kO,kP,kQ,.int .i64 (c:Int),tk,v26,v27,v28,oF,dW,rE,uV,uW,dX,sA,sJ,sK,pQ,pR,dZ,sL,sM,sN,d8,d9,eA,eB,eC,eD,eE,eF,eG,eH,eJ,eK,eL,eM,gY,gZ,g8,eN,eY,eZ,fA,fC,fD,fE,fF,fG,fH,fI,fJ,fK,fL,fM,fN,fO,fP,fQ,fR,fS,fT,fU,fV,fW,fX,fY,fZ,f7,f8,f9,gA,gB,gC,gD,gE,gF,gG,gH,eQ,eR,eT,eU,eV,eW,eX,iF,iG,iH,gK,gL,gM,gN,gR,gS,gT,gU,gV,gX,iI,iJ,iK,iL,iM,iN,iO,iP,iQ,iR,iS,iT,iU,iV,iW,iX,iY,iZ,i4,i5,i6,i7,i9,jA,jB,jC,jD,jE,jF,jG,jH,jI,jJ,jK,jL,jM,jN,jO,jP,jQ,jR,jS,jT,jU,jV,jW,jX,jY,jZ,j4,j5,j6,j7,j8,j9,kB,kC,kD,kE,kF,kG,kH,kJ,kK,kL,zD,zE,zF,zG,zH,zI,zJ,zK,zL,zM,zN,zO,zP,zQ,zR,zS,zT,zU,zV,zW,zX,zY,zZ,z7,z8,z9,qaA,qaB,qaC,qaD,qaE,qaF,qaG,qaH,qaI,qaJ,qaK,qaL,qaM,qaN,qaO,qaP,qaQ,qaR,qaS,qaT,qaU,qaV,qaW,qaX,kR,kT,kU,kV,kW,kX,kY,kZ,k6,k8,lA,lB,lC,lD,lE,lF,lG,lI,lJ,lK,lL,nN,nO,nP,nQ,nS,nT,nU,nV,nW,nX,nY,tS,tT,tU,pW,pX,pY,pZ,p8,p9,qA,qB,qC,qD,qE,qF,qG,qH,oB,oC,oD,oE,tV,tW,tX,qJ,qK,qL,qM,qN,qO,qP,qQ,qR,qS,qT,qX,qY,qZ,q8,q9,rA,rC,rD,rF,rG,rI,oG,oH,oI,oJ,oK,oL,oM,oN,oO,oP,oQ,oR,oS,oT,oU,oV,oW,oX,o8,o9,tZ,t9,uA,rJ,rK,rL,rM,rN,rO,rQ,rR,rS,rT,rU,rV,rW,rX,sB,sC,sD,sE,sF,sG,sH,sI,pA,pB,pC,pD,pE,pF,pG,pH,pI,pJ,pK,pL,pM,pN,pO,pP,gO,dY],[]⟩ w'):
  Code.wp Tryz.prog (nav [1,1,1,0,1,2,2,1,1,0,2,1,1,1,1,1,1,2,2,1,1,0,2,1,1,2,2,1,0,2,1,1,1,1,1,1,0,1] (Tryz.f3.body.getD .skip)) Q ⟨#[u0,u1,u2,u3,u4,u5,u6,u7,.pointer (some ⟨HO,0,none⟩),u9,.pointer (some ⟨HT,0,none⟩),dU,tB,tC,tR,.pointer (some ⟨HE,0,none⟩),u16,tD,tE,kM,kN,kO,kP,kQ,.int .i64 (c:Int),.int .i64 (-1),.int .i64 (st:Int),nZ,oA,oF,dW,rE,uV,uW,dX,sA,sJ,sK,pQ,pR,dZ,sL,sM,sN,d8,d9,eA,eB,eC,eD,eE,eF,eG,eH,eJ,eK,eL,eM,gY,gZ,g8,eN,eY,eZ,fA,fC,fD,fE,fF,fG,fH,fI,fJ,fK,fL,fM,fN,fO,fP,fQ,fR,fS,fT,fU,fV,fW,fX,fY,fZ,f7,f8,f9,gA,gB,gC,gD,gE,gF,gG,gH,eQ,eR,eT,eU,eV,eW,eX,iF,iG,iH,gK,gL,gM,gN,gR,gS,gT,gU,gV,gX,iI,iJ,iK,iL,iM,iN,iO,iP,iQ,iR,iS,iT,iU,iV,iW,iX,iY,iZ,i4,i5,i6,i7,i9,jA,jB,jC,jD,jE,jF,jG,jH,jI,jJ,jK,jL,jM,jN,jO,jP,jQ,jR,jS,jT,jU,jV,jW,jX,jY,jZ,j4,j5,j6,j7,j8,j9,kB,kC,kD,kE,kF,kG,kH,kJ,kK,kL,lN,lO,lQ,lR,lS,lT,lU,lV,lW,lX,lY,lZ,l5,l6,l7,l8,l9,mC,mD,mE,mF,mG,mH,mI,mJ,mK,mL,mM,mN,mO,mP,mQ,mR,mS,mT,mU,mV,mW,mX,mY,mZ,nA,nD,nE,nF,nG,nH,nJ,nK,nM,kR,kT,kU,kV,kW,kX,kY,kZ,k6,k8,lA,lB,lC,lD,lE,lF,lG,lI,lJ,lK,lL,nN,nO,nP,nQ,nS,nT,nU,nV,nW,nX,nY,tS,tT,tU,pW,pX,pY,pZ,p8,p9,qA,qB,qC,qD,qE,qF,qG,qH,oB,oC,oD,oE,tV,tW,tX,qJ,qK,qL,qM,qN,qO,qP,qQ,qR,qS,qT,qX,qY,qZ,q8,q9,rA,rC,rD,rF,rG,rI,oG,oH,oI,oJ,oK,oL,oM,oN,oO,oP,oQ,oR,oS,oT,oU,oV,oW,oX,o8,o9,tZ,t9,uA,rJ,rK,rL,rM,rN,rO,rQ,rR,rS,rT,rU,rV,rW,rX,sB,sC,sD,sE,sF,sG,sH,sI,pA,pB,pC,pD,pE,pF,pG,pH,pI,pJ,pK,pL,pM,pN,pO,pP,gO,dY],[]⟩ w:=by
 simp only[Tryz.f3,Option.getD,nav];have HHT:=hid hHT;have HHO:=hid hHO;have HHE:=hid hHE;have HS:=hid hS;have HRo:=hid hRo;have HRi:=hid hRi;have HT':=hid hT;have HKv:=hid (And.intro hk hv);have HST:=hid (And.intro hst hst2);have HKK:=hid hK;have HG:=hid hg;have HQ:=hid hQ;have klen:K.length≤1280000000000:=by
  by_cases h:K.length=0
  ·omega
  ·have:=(hK (K.length-1) (by omega)).2.1;omega
 have stl:st≤1280000000000∨K.length=0:=by
  by_cases h:K.length=0
  ·exact .inr h
  ·have:=(hK 0 (by omega)).2.1;exact .inl (by omega)
 have STL:=hid stl;clear hHT hHO hHE hS hRo hRi hT hk hv hst hst2 hK hg hQ stl;go_wp2_with fail;go_loopg [25,26] (K.length+1) (λmm tk r X=>Below w.heap.size w X∧((∃a,a≤K.length∧mm=K.length-a+1∧tk=.int .i64 (-1)∧r=.int .i64 ((st+a:Nat):Int)∧∀i,i<a→gl (K.getD i 0)=false)∨∃a,a<K.length∧mm=0∧tk=.int .i64 ((st+a:Nat):Int)∧r=.int .i64 ((st+a+1:Nat):Int)∧K.find? gl=some (K.getD a 0)))
 case atStart=>exact⟨Below.refl _ _,.inl ⟨0,by omega,by omega,rfl,rfl,λi hi=>absurd hi (by omega)⟩⟩
 case round=>
  obtain⟨hb,hrel⟩:=hrel;have BX:=hid hb;obtain⟨sg',hsg⟩:=qdJ HS.out (by omega);subst hsg;obtain⟨z1,z2⟩:=qhB HS.out hb hc;rw[HST.out.2]at z1;obtain⟨⟨a0,a1,a2,a3⟩,⟨a4,a5,a6,a7⟩,af⟩:=c8 (aA HHT.out hb);have al:=lt_of_block (aA HHT.out hb);have ci:((c:Int)+1)<(St.length:Int):=by omega
  have ci0:(0:Int)≤(c:Int)+1:=by omega
  rcases hrel with⟨a,ha,rfl,rfl,rfl,hlt⟩|⟨a,ha,rfl,rfl,rfl,hf⟩
  ·by_cases hak:a<K.length
   ·have ai:(((st+a:Nat):Int))<((st+K.length:Nat):Int):=by omega
    have az:(0:Int)≤((st+a:Nat):Int):=by omega
    obtain⟨kq,kr,kt⟩:=HKK.out a hak;obtain⟨q,hq⟩:∃q,q=K.getD a 0:=⟨_,rfl⟩;rw[←hq]at kq kt;obtain⟨rg,hrg⟩:=qdJ HRo.out (by omega);subst hrg;obtain⟨xv,nv,⟨r0,_,_,_⟩,_,_,rgl⟩:=qyN (aI HRo.out hb) (HRi.out.below hb) kr;rw[kt]at r0;have ri:(((st+a:Nat):Int))<(Rw.length:Int):=by omega
    have rs:st+a≤1280000000000:=by omega
    obtain⟨tb,toff,htt,htl2,hta⟩:=(HT'.out.below hb).2 (by omega);subst htt;obtain⟨t0,t1,⟨co,cn,cc,t2,cm,hit⟩,t3,t4⟩:=hta q kq;have qi:(q:Int)<(ts.length:Int):=by omega
    have cnl:(ts.getD q tr0).guard.length=cn:=hit.1;have QV:=hid (qEV co cn cc (ts.getD q tr0).guard ko vo ks.length kc vs.length vc ks vs av wr cm (by omega) (by omega) hit (HKv.out.1.below hb) (HKv.out.2.below hb));obtain⟨⟨o0,o1,o2,o3⟩,⟨o4,o5,o6,o7⟩,of'⟩:=c8 (aA HHO.out hb);have ol:=lt_of_block (aA HHO.out hb);obtain⟨e0',e1,e2,e3⟩:=aF (aA HHE.out hb);have el:=lt_of_block (aA HHE.out hb);have GQ:Hid (gl q=(decide ((ts.getD q tr0).guard=[])||decide (¬evI (ts.getD q tr0).guard ks vs av=0))):=hid (HG.out q kq);obtain⟨ev,hev⟩:∃e,e=evI (ts.getD q tr0).guard ks vs av:=⟨_,rfl⟩;rw[←hev]at QV GQ;have FA:Hid (gl q=true→K.find? gl=some (K.getD a 0)):=hid (λh=>qjA hak hlt (by rw[←hq];exact h));have HLT:Hid (gl q=false→∀i,i<a+1→gl (K.getD i 0)=false):=hid (λh i hi=>by
     by_cases e:i=a
     ·rw[e,←hq];exact h
     ·exact hlt i (by omega))
    have GE:Hid ((ts.getD q tr0).guard=[]↔cn=0):=hid (by rw[←cnl];exact List.length_eq_zero_iff.symm);clear hq hev hlt hta hit t4 hb kq kr kt cm cnl;by_cases hcn:cn=0
    ·have GT:Hid (gl q=true):=hid (by rw[GQ.out,decide_eq_true (GE.out.2 hcn)];rfl)
     subst hcn;go_wp2_with fail;go_roundg 0
     case measure=>omega
     case rel=>exact⟨BX.out,.inr ⟨a,hak,rfl,rfl,by go_num,FA.out GT.out⟩⟩
    ·have hcn2:¬(cn:Int)=0:=by omega
     have hcb:((cn:Int)==0)=false:=by simp;omega
     by_cases hev0:ev=0
     ·have GT:Hid (gl q=false):=hid (by rw[GQ.out,decide_eq_false (λh=>hcn (GE.out.1 h)),hev0];rfl)
      subst hev0;go_wp2_with(go_at_call 18;have q':=QV.out;with_reducible refine q'.mono ?_;clear q';rintro e w1 ⟨rfl,hb⟩;have B1:=hid (BX.out.trans (hb.mono BX.out.size));clear hb);go_roundg(K.length-(a+1)+1)
      case measure=>omega
      case rel=>exact⟨B1.out,.inl ⟨a+1,by omega,rfl,rfl,by go_num,HLT.out GT.out⟩⟩
     ·have GT:Hid (gl q=true):=hid (by rw[GQ.out,decide_eq_true hev0];simp)
      have hevb:(ev !=0)=true:=by simpa using hev0
      go_wp2_with(go_at_call 18;have q':=QV.out;with_reducible refine q'.mono ?_;clear q';rintro e w1 ⟨rfl,hb⟩;have B1:=hid (BX.out.trans (hb.mono BX.out.size));clear hb);go_roundg 0
      case measure=>omega
      case rel=>exact⟨B1.out,.inr ⟨a,hak,rfl,rfl,by go_num,FA.out GT.out⟩⟩
   ·obtain rfl:a=K.length:=by omega
    have hn:K.find? gl=none:=qwR hlt;have NN:=hid hn;have ai:¬(((st+K.length:Nat):Int))<((st+K.length:Nat):Int):=by omega
    clear hn hlt hb;go_wp2_with fail;exact HQ.out _ (hb:=BX.out) (hr:=.inl ⟨NN.out,rfl⟩) ..
  ·have FF:=hid hf
   have tz:¬((st+a:Nat):Int)<0:=by omega
   clear hf hb;by_cases hr2:(((st+a+1:Nat):Int))<((st+K.length:Nat):Int)
   all_goals
    go_wp2_with fail;exact HQ.out _ (hb:=BX.out) (hr:=.inr ⟨a,ha,FF.out,rfl⟩) ..
end Go.Proofs.YtiimkhepplkocaaGreat
namespace Go.Proofs.YtiimkhepplkocaaGreat
open Go.RowKit Go.Sort
set_option linter.unusedVariables false
attribute [local go_sem ↓] Go.wp_at_zero Go.wp_at_succ
theorem qKG{u0 u1 u2 u3 u4 u5 u6 u7 u9 yP dU tB tC tR zC u16 tD tE kM kN kO kP kQ tF uQ tG nZ oA oF dW rE uV uW dX sA sJ sK pQ pR dZ sL sM sN d8 d9 eA eB eC eD eE eF eG eH eJ eK eL eM gY gZ g8 eN eY eZ fA fC fD fE fF fG fH fI fJ fK fL fM fN fO fP fQ fR fS fT fU fV fW fX fY fZ f7 f8 f9 gA gB gC gD gE gF gG gH eQ eR eT eU eV eW eX iF iG iH gK gL gM gN gR gS gT gU gV gX iI iJ iK iL iM iN iO iP iQ iR iS iT iU iV iW iX iY iZ i4 i5 i6 i7 i9 jA jB jC jD jE jF jG jH jI jJ jK jL jM jN jO jP jQ jR jS jT jU jV jW jX jY jZ j4 j5 j6 j7 j8 j9 kB kC kD kE kF kG kH kJ kK kL lN lO lQ lR lS lT lU lV lW lX lY lZ l5 l6 l7 l8 l9 mC mD mE mF mG mH mI mJ mK mL mM mN mO mP mQ mR mS mT mU mV mW mX mY mZ nA nD nE nF nG nH nJ nK nM kR kT kU kV kW kX kY kZ k6 k8 lA lB lC lD lE lF lG lI lJ lK lL nN nO nP nQ nS nT nU nV nW nX nY pW pX pY pZ p8 p9 qA qB qC qD qE qF qG qH oB oC oD oE tV tW tX qJ qK qL qM qN qO qP qQ qR qS qT qX qY qZ q8 q9 rA rC rD rF rG rI oG oH oI oJ oK oL oM oN oO oP oQ oR oS oT oU oV oW oX o8 o9 tZ t9 uA rJ rK rL rM rN rO rQ rR rS rT rU rV rW rX sB sC sD sE sF sG sH sI pA pB pC pD pE pF pG pH pI pJ pK pL pM pN pO pP gO dY:Value}{HO B xc sc n:Nat}{p0 p1 p2 p3 p4 p5 p7:Value}{xa so:Option Addr}{X:List Nat}{w:World}
  (hHO:w.heap[HO]? =some (.cells #[p0,p1,p2,p3,p4,p5,.slice so n sc,p7] 38 (0,0)))
  (hX:w.ownsRow B 3 1 (.slice xa X.length xc) X.length (aG X)) (hl:X.length≤10000) (hn:n≤1000) (hx:∀k,k<X.length→X.getD k 0<n)
  (Q:Exit→Act→World→Prop)
  (hQ:∀(v4 xB vQ vR vT vU vV vW vX vY vZ wA wC wD wE wF wG:Value) (w':World) (hb:Below w.heap.size w w'),Q .normal ⟨#[u0,u1,u2,u3,v4,u5,u6,u7,.pointer (some ⟨HO,0,none⟩),u9,yP,dU,tB,tC,tR,zC,u16,tD,tE,kM,kN,kO,kP,kQ,tF,uQ,tG,nZ,oA,oF,dW,xB,uV,uW,dX,sA,sJ,sK,pQ,pR,dZ,sL,sM,sN,d8,d9,eA,eB,eC,eD,eE,eF,eG,eH,eJ,eK,eL,eM,gY,gZ,g8,eN,eY,eZ,fA,fC,fD,fE,fF,fG,fH,fI,fJ,fK,fL,fM,fN,fO,fP,fQ,fR,fS,fT,fU,fV,fW,fX,fY,fZ,f7,f8,f9,gA,gB,gC,gD,gE,gF,gG,gH,eQ,eR,eT,eU,eV,eW,eX,iF,iG,iH,gK,gL,gM,gN,gR,gS,gT,gU,gV,gX,iI,iJ,iK,iL,iM,iN,iO,iP,iQ,iR,iS,iT,iU,iV,iW,iX,iY,iZ,i4,i5,i6,i7,i9,jA,jB,jC,jD,jE,jF,jG,jH,jI,jJ,jK,jL,jM,jN,jO,jP,jQ,jR,jS,jT,jU,jV,jW,jX,jY,jZ,j4,j5,j6,j7,j8,j9,kB,kC,kD,kE,kF,kG,kH,kJ,kK,kL,lN,lO,lQ,lR,lS,lT,lU,lV,lW,lX,lY,lZ,l5,l6,l7,l8,l9,mC,mD,mE,mF,mG,mH,mI,mJ,mK,mL,mM,mN,mO,mP,mQ,mR,mS,mT,mU,mV,mW,mX,mY,mZ,nA,nD,nE,nF,nG,nH,nJ,nK,nM,kR,kT,kU,kV,kW,kX,kY,kZ,k6,k8,lA,lB,lC,lD,lE,lF,lG,lI,lJ,lK,lL,nN,nO,nP,nQ,nS,nT,nU,nV,nW,nX,nY,.slice xa X.length xc,.int .i64 (X.length:Int),vQ,vR,vT,vU,vV,vW,vX,vY,vZ,wA,wC,wD,wE,wF,wG,oB,oC,oD,oE,tV,tW,tX,qJ,qK,qL,qM,qN,qO,qP,qQ,qR,qS,qT,qX,qY,qZ,q8,q9,rA,rC,rD,rF,rG,rI,oG,oH,oI,oJ,oK,oL,oM,oN,oO,oP,oQ,oR,oS,oT,oU,oV,oW,oX,o8,o9,tZ,t9,uA,rJ,rK,rL,rM,rN,rO,rQ,rR,rS,rT,rU,rV,rW,rX,sB,sC,sD,sE,sF,sG,sH,sI,pA,pB,pC,pD,pE,pF,pG,pH,pI,pJ,pK,pL,pM,pN,pO,pP,gO,dY],[]⟩ w'):
  Code.wp Tryz.prog (nav [1,1,1,0,1,2,2,1,1,0,2,1,1,1,1,1,1,2,2,1,1,0,2,1,1,2,2,1,0,2,1,1,1,1,1,1,1,1,1,1,0,1] (Tryz.f3.body.getD .skip)) Q ⟨#[u0,u1,u2,u3,u4,u5,u6,u7,.pointer (some ⟨HO,0,none⟩),u9,yP,dU,tB,tC,tR,zC,u16,tD,tE,kM,kN,kO,kP,kQ,tF,uQ,tG,nZ,oA,oF,dW,rE,uV,uW,dX,sA,sJ,sK,pQ,pR,dZ,sL,sM,sN,d8,d9,eA,eB,eC,eD,eE,eF,eG,eH,eJ,eK,eL,eM,gY,gZ,g8,eN,eY,eZ,fA,fC,fD,fE,fF,fG,fH,fI,fJ,fK,fL,fM,fN,fO,fP,fQ,fR,fS,fT,fU,fV,fW,fX,fY,fZ,f7,f8,f9,gA,gB,gC,gD,gE,gF,gG,gH,eQ,eR,eT,eU,eV,eW,eX,iF,iG,iH,gK,gL,gM,gN,gR,gS,gT,gU,gV,gX,iI,iJ,iK,iL,iM,iN,iO,iP,iQ,iR,iS,iT,iU,iV,iW,iX,iY,iZ,i4,i5,i6,i7,i9,jA,jB,jC,jD,jE,jF,jG,jH,jI,jJ,jK,jL,jM,jN,jO,jP,jQ,jR,jS,jT,jU,jV,jW,jX,jY,jZ,j4,j5,j6,j7,j8,j9,kB,kC,kD,kE,kF,kG,kH,kJ,kK,kL,lN,lO,lQ,lR,lS,lT,lU,lV,lW,lX,lY,lZ,l5,l6,l7,l8,l9,mC,mD,mE,mF,mG,mH,mI,mJ,mK,mL,mM,mN,mO,mP,mQ,mR,mS,mT,mU,mV,mW,mX,mY,mZ,nA,nD,nE,nF,nG,nH,nJ,nK,nM,kR,kT,kU,kV,kW,kX,kY,kZ,k6,k8,lA,lB,lC,lD,lE,lF,lG,lI,lJ,lK,lL,nN,nO,nP,nQ,nS,nT,nU,nV,nW,nX,nY,.slice xa X.length xc,.int .i64 (X.length:Int),.int .i64 0,pW,pX,pY,pZ,p8,p9,qA,qB,qC,qD,qE,qF,qG,qH,oB,oC,oD,oE,tV,tW,tX,qJ,qK,qL,qM,qN,qO,qP,qQ,qR,qS,qT,qX,qY,qZ,q8,q9,rA,rC,rD,rF,rG,rI,oG,oH,oI,oJ,oK,oL,oM,oN,oO,oP,oQ,oR,oS,oT,oU,oV,oW,oX,o8,o9,tZ,t9,uA,rJ,rK,rL,rM,rN,rO,rQ,rR,rS,rT,rU,rV,rW,rX,sB,sC,sD,sE,sF,sG,sH,sI,pA,pB,pC,pD,pE,pF,pG,pH,pI,pJ,pK,pL,pM,pN,pO,pP,gO,dY],[]⟩ w:=by
 simp only[Tryz.f3,Option.getD,nav];have HHO:=hid hHO;have HX:=hid hX;have HXX:=hid hx;have HQ:=hid hQ;clear hHO hX hx hQ;go_wp2_with fail;go_loopg [269] X.length (λmm i Y=>∃k:Nat,k≤X.length∧mm=X.length-k∧i=.int .i64 k∧Below w.heap.size w Y)
 case atStart=>exact⟨0,by omega,by omega,rfl,Below.refl _ _⟩
 case round=>
  obtain⟨k,hk,rfl,rfl,hb⟩:=hrel;have BX:=hid hb;by_cases hlt:k<X.length
  ·have ki:(k:Int)<(X.length:Int):=by omega
   obtain⟨g,hg⟩:=qdJ HX.out (by omega);subst hg;obtain⟨z1,z2⟩:=qhB HX.out hb hlt;have hx:=HXX.out k hlt;obtain⟨x,hxx⟩:∃x,x=X.getD k 0:=⟨_,rfl⟩;rw[←hxx]at z1 hx;have xi:¬(x:Int)<0:=by omega
   have xn:¬(x:Int)≥(n:Int):=by omega
   obtain⟨⟨o0,o1,o2,o3⟩,⟨o4,o5,o6,o7⟩,of'⟩:=c8 (aA HHO.out hb);have ol:=lt_of_block (aA HHO.out hb);clear hxx hb;go_wp2_with fail;go_roundg(X.length-(k+1))
   case measure=>omega
   case rel=>exact⟨k+1,by omega,rfl,by go_num,BX.out⟩
  ·obtain rfl:k=X.length:=by omega
   clear hb;go_wp2_with fail;exact HQ.out (hb:=BX.out) ..
end Go.Proofs.YtiimkhepplkocaaGreat
