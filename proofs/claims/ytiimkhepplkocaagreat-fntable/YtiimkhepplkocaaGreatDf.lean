import Derived.Test.YtiimkhepplkocaaGreatDr13
import Derived.Test.YtiimkhepplkocaaGreatDd
import Derived.Test.YtiimkhepplkocaaGreatT1
import Derived.Test.YtiimkhepplkocaaGreatAo
namespace Go.Proofs.YtiimkhepplkocaaGreat
open Go.RowKit Go.Sort
set_option linter.unusedVariables false
attribute [local go_sem ↓] Go.wp_at_zero Go.wp_at_succ
theorem qpP{X:World}{B:Nat}{e:TypeId}{size:Nat}{v:Value}{n:Nat}{xs:List Value}(h:X.ownsRow B e size v n xs):∃ao c,v=.slice ao n c∧n≤c∧n≤9223372036854775807∧(0<n→∃b off,ao=some ⟨b,off,none⟩∧b<X.heap.size∧∀j,j<n*size→X.cell? ⟨b,off+j,none⟩=xs[j]?):=by
 rcases h.2 with⟨e0,rfl⟩|⟨g,cap,cur,e0,hb,hh,hnc,hcm,hcs,ht⟩
 ·exact⟨none,0,e0,Nat.le_refl _,by omega,λh=>absurd h (by omega)⟩
 ·refine⟨_,cap,e0,hnc,by unfold maxLen at hcm;omega,λ_=>⟨g,0,rfl,lt_of_block hh,λj hj=>?_⟩⟩
  rw[Nat.zero_add,cell_of_row X g j cur e (0,0) hh,←ht,List.getElem?_take,if_pos hj];simp
theorem qiE{X:World}{B:Nat}{v:Value}{zs:List Int}(h:X.ownsRow B 3 1 v zs.length (cV zs)):∃ao c,v=.slice ao zs.length c∧zs.length≤c∧zs.length≤9223372036854775807∧SliceOf X ao zs.length zs:=by
 obtain⟨ao,c,e,h1,h2,h3⟩:=qpP h;refine⟨ao,c,e,h1,h2,rfl,λh0=>?_⟩;obtain⟨b,off,e1,hl,hc⟩:=h3 h0;refine⟨b,off,e1,hl,λi hi=>?_⟩;rw[hc i (by omega)];simp[cV,List.getD_eq_getElem?_getD,hi]
theorem qvK:∀(its:List (Int×Int)) (i:Nat),i<its.length→(cR its)[i*2]? =some (.int .i64 (its.getD i (0,0)).1)∧(cR its)[i*2+1]? =some (.int .i64 (its.getD i (0,0)).2)
 |[],i,h=>absurd h (by simp)
 |p::r,0,_=>by simp[cR]
 |p::r,i+1,h=>by
  have ih:=qvK r i (by simpa using h);have e:cR (p::r)=.int .i64 p.1::.int .i64 p.2::cR r:=by simp[cR]
  rw[e,show(i+1)*2=i*2+1+1 by omega];simpa using ih
theorem qvR{X:World}{B:Nat}{v:Value}{its:List (Int×Int)}(h:CodeV X B v its):∃ao c,v=.slice ao its.length c∧its.length≤9223372036854775807∧ItemsOf X ao its.length its:=by
 obtain⟨ao,c,e,h1,h2,h3⟩:=qpP h;refine⟨ao,c,e,h2,rfl,λh0=>?_⟩;obtain⟨b,off,e1,hl,hc⟩:=h3 h0;refine⟨b,off,e1,hl,λi hi=>?_⟩;obtain⟨c1,c2⟩:=qvK its i hi;refine⟨(hc (i*2) (by omega)).trans c1,?_⟩;rw[Nat.add_assoc];exact(hc (i*2+1) (by omega)).trans c2
theorem qwT{k:Nat}{R:List (List Value)}(hl:∀i,i<R.length→(R.getD i []).length=k):∀{i j:Nat},i<R.length→j<k→R.flatten[i*k+j]? =(R.getD i [])[j]?:=by
 induction R with
 |nil=>intro i j hi;simp at hi
 |cons c r ih=>
  intro i j hi hj;have hc:c.length=k:=hl 0 (by simp);cases i with
  |zero=>simp only[List.flatten_cons,List.getD_cons_zero,Nat.zero_mul,Nat.zero_add];rw[List.getElem?_append_left (by omega)]
  |succ i=>
   have hr:=ih (λk' hk=>by have:=hl (k'+1) (by simp;omega);simpa using this) (i:=i) (j:=j) (by simpa using hi) hj;simp only[List.flatten_cons,List.getD_cons_succ];rw[List.getElem?_append_right (by rw[hc,Nat.succ_mul];omega),←hr,hc,Nat.succ_mul,show i*k+k+j-k=i*k+j by omega]
theorem qjY{X:World}{B:Nat}{e:TypeId}{k:Nat}{v:Value}{n:Nat}{R:List (List Value)}(h:X.ownsRow B e k v n R.flatten)(hn:R.length=n)(hl:∀i,i<n→(R.getD i []).length=k):∃ao c,v=.slice ao n c∧n≤c∧n≤9223372036854775807∧(0<n→∃b off,ao=some ⟨b,off,none⟩∧b<X.heap.size∧∀i j,i<n→j<k→X.cell? ⟨b,off+i*k+j,none⟩=(R.getD i [])[j]?):=by
 obtain⟨ao,c,e0,h1,h2,h3⟩:=qpP h;refine⟨ao,c,e0,h1,h2,λh0=>?_⟩;obtain⟨b,off,e1,hlt,hc⟩:=h3 h0;refine⟨b,off,e1,hlt,λi j hi hj=>?_⟩;have hm:i*k+j<n*k:=by
  have h5:(i+1)*k≤n*k:=Nat.mul_le_mul_right _ hi;rw[Nat.succ_mul]at h5;omega
 rw[Nat.add_assoc,hc _ hm,qwT (by rw[hn];exact hl) (by omega) hj]
theorem qp1{X:World}{B:Nat}{v:Value}{sts:List aH}(h:StmsV X B v sts):∃ao c,v=.slice ao sts.length c∧sts.length≤9223372036854775807∧StmsOf X ao sts.length sts:=by
 obtain⟨R,ho,hi⟩:=h;obtain⟨ao,c,e,h1,h2,h3⟩:=qjY ho hi.1 (λi h=>by obtain⟨cv,e,_⟩:=hi.2 i h;rw[e];rfl);refine⟨ao,c,e,h2,rfl,λh0=>?_⟩;obtain⟨b,off,e1,hl,hc⟩:=h3 h0;refine⟨b,off,e1,hl,λi hi'=>?_⟩;obtain⟨cv,er,hcv⟩:=hi.2 i hi';obtain⟨co,cc,e2,h4,h5⟩:=qvR hcv;have a0:=hc i 0 hi' (by omega);have a1:=hc i 1 hi' (by omega);have a2:=hc i 2 hi' (by omega);have a3:=hc i 3 hi' (by omega);rw[er]at a0 a1 a2 a3;exact⟨by simpa using a0,by simpa using a1,by simpa using a2,co,_,cc,by rw[←e2];simpa using a3,h4,h5⟩
theorem qJG{X:World}{B:Nat}{v:Value}{ss:List StD}{R:List (List Value)}(ho:X.ownsRow B 65 4 v ss.length R.flatten)(hi:StatesIn X B ss R):∃ao c,v=.slice ao ss.length c∧ss.length≤9223372036854775807∧StatesOf X ao ss.length ss:=by
 obtain⟨ao,c,e,h1,h2,h3⟩:=qjY ho hi.1 (λi h=>by obtain⟨ev,xv,e,_⟩:=hi.2 i h;rw[e];rfl);refine⟨ao,c,e,h2,rfl,λh0=>?_⟩;obtain⟨b,off,e1,hl,hc⟩:=h3 h0;refine⟨b,off,e1,hl,λi hi'=>?_⟩;obtain⟨ev,xv,er,hev,hxv⟩:=hi.2 i hi';obtain⟨eo,ec,e2,h4,h5⟩:=qp1 hev;obtain⟨xo,xc,e3,h6,h7⟩:=qp1 hxv;have a0:=hc i 0 hi' (by omega);have a1:=hc i 1 hi' (by omega);have a2:=hc i 2 hi' (by omega);have a3:=hc i 3 hi' (by omega);rw[er]at a0 a1 a2 a3;exact⟨by simpa using a0,by simpa using a1,⟨eo,_,ec,by rw[←e2];simpa using a2,h4,h5⟩,⟨xo,_,xc,by rw[←e3];simpa using a3,h6,h7⟩⟩
theorem qKS{X:World}{B:Nat}{v:Value}{ts:List TrD}{Q:List (List Value)}(ho:X.ownsRow B 60 5 v ts.length Q.flatten)(hi:TrsIn X B ts Q):∃ao c,v=.slice ao ts.length c∧ts.length≤9223372036854775807∧TransOf X ao ts.length ts:=by
 obtain⟨ao,c,e,h1,h2,h3⟩:=qjY ho hi.1 (λi h=>by obtain⟨ev,xv,e,_⟩:=hi.2 i h;rw[e];rfl);refine⟨ao,c,e,h2,rfl,λh0=>?_⟩;obtain⟨b,off,e1,hl,hc⟩:=h3 h0;refine⟨b,off,e1,hl,λi hi'=>?_⟩;obtain⟨gv,av,er,hgv,hav⟩:=hi.2 i hi';obtain⟨eo,ec,e2,h4,h5⟩:=qvR hgv;obtain⟨xo,xc,e3,h6,h7⟩:=qp1 hav;have a0:=hc i 0 hi' (by omega);have a1:=hc i 1 hi' (by omega);have a2:=hc i 2 hi' (by omega);have a3:=hc i 3 hi' (by omega);have a4:=hc i 4 hi' (by omega);rw[er]at a0 a1 a2 a3 a4;exact⟨by simpa using a0,by simpa using a1,⟨eo,_,ec,by rw[←e2];simpa using a2,h4,h5⟩,by simpa using a3,⟨xo,_,xc,by rw[←e3];simpa using a4,h6,h7⟩⟩
def Kt(t:TypeId):Prop:=t=205∨t=210∨t=3∨t=65∨t=60
def FarP(X:World)(B:Nat)(P:Nat→Prop):Prop:=∀b cs t,X.heap[b]? =some (.cells cs t (0,0))→Kt t→B≤b→¬P b
theorem yM{P:Nat→Prop}{X Y:World}{B:Nat}{e:TypeId}{size:Nat}{v:Value}{m:Nat}{xs:List Value}(ho:X.ownsRow B e size v m xs)(hP:OnlyP P X Y)(hn:FarP X B P)(he:Kt e):Y.ownsRow B e size v m xs:=by
 refine hP.own ho (λb e1=>?_);have hl:=(World.ownsRow.lt ho b e1).1;rcases ho.2 with⟨h0,_⟩|⟨g,cap,cur,k1,k2,k3,k4⟩
 ·rw[h0]at e1;cases e1
 ·rw[k1]at e1;simp[Value.ownBlock]at e1;subst e1;exact hn _ _ _ k3 he hl
theorem FarP.sm{X:World}{B:Nat}{P:Nat→Prop}(h:FarP X B P):∀b cs t,X.heap[b]? =some (.cells cs t (0,0))→(t=205∨t=210)→B≤b→¬P b:=λb cs t hb ht=>h b cs t hb (by rcases ht with rfl|rfl;exact .inl rfl;exact .inr (.inl rfl))
def ObIn(X:World)(B:Nat)(d:ObD)(c:List Value):Prop:=∃(kv vv uv sv tv:Value) (R Q:List (List Value)),c=[.int .i64 d.prio,.int .i64 d.qcap,.int .i64 d.dcap,kv,vv,uv,sv,tv]∧X.ownsRow B 3 1 kv d.kinds.length (cV d.kinds)∧X.ownsRow B 3 1 vv d.vals.length (cV d.vals)∧X.ownsRow B 3 1 uv d.subs.length (cV d.subs)∧X.ownsRow B 65 4 sv d.sts.length R.flatten∧StatesIn X B d.sts R∧X.ownsRow B 60 5 tv d.trs.length Q.flatten∧TrsIn X B d.trs Q
def ObsIn(X:World)(B:Nat)(ds:List ObD)(R:List (List Value)):Prop:=R.length=ds.length∧∀i,i<ds.length→ObIn X B (ds.getD i ob0) (R.getD i [])
theorem ObIn.keep{P:Nat→Prop}{X Y:World}{B:Nat}{d:ObD}{c:List Value}(h:ObIn X B d c)(hP:OnlyP P X Y)(hn:FarP X B P):ObIn Y B d c:=by
 obtain⟨kv,vv,uv,sv,tv,R,Q,e,h1,h2,h3,h4,h5,h6,h7⟩:=h;exact⟨kv,vv,uv,sv,tv,R,Q,e,yM h1 hP hn (.inr (.inr (.inl rfl))),yM h2 hP hn (.inr (.inr (.inl rfl))),yM h3 hP hn (.inr (.inr (.inl rfl))),yM h4 hP hn (.inr (.inr (.inr (.inl rfl)))),h5.keep hP hn.sm,yM h6 hP hn (.inr (.inr (.inr (.inr rfl)))),h7.keep hP hn.sm⟩
theorem ObIn.base{X:World}{B C:Nat}{d:ObD}{c:List Value}(h:ObIn X B d c)(hb:C≤B):ObIn X C d c:=by
 obtain⟨kv,vv,uv,sv,tv,R,Q,e,h1,h2,h3,h4,h5,h6,h7⟩:=h;exact⟨kv,vv,uv,sv,tv,R,Q,e,aM h1 hb,aM h2 hb,aM h3 hb,aM h4 hb,h5.base hb,aM h6 hb,h7.base hb⟩
theorem ObsIn.keep{P:Nat→Prop}{X Y:World}{B:Nat}{ds:List ObD}{R:List (List Value)}(h:ObsIn X B ds R)(hP:OnlyP P X Y)(hn:FarP X B P):ObsIn Y B ds R:=⟨h.1,λi hi=>(h.2 i hi).keep hP hn⟩
theorem ObsIn.base{X:World}{B C:Nat}{ds:List ObD}{R:List (List Value)}(h:ObsIn X B ds R)(hb:C≤B):ObsIn X C ds R:=⟨h.1,λi hi=>(h.2 i hi).base hb⟩
theorem ObsIn.snoc{X:World}{B:Nat}{ds:List ObD}{R:List (List Value)}{d:ObD}{c:List Value}(h:ObsIn X B ds R)(hc:ObIn X B d c):ObsIn X B (ds++[d]) (R++[c]):=⟨by simp[h.1],λi hi=>by
 rw[uZ,uZ,h.1];by_cases hl:i<ds.length
 ·rw[if_pos hl,if_pos hl];exact h.2 i hl
 ·obtain rfl:i=ds.length:=by simp at hi;omega
  rw[if_neg hl,if_neg hl,if_pos rfl,if_pos rfl];exact hc⟩
theorem qx6{X:World}{B:Nat}{d:ObD}{c:List Value}(h:ObIn X B d c):∃s:ObS,c=[.int .i64 d.prio,.int .i64 d.qcap,.int .i64 d.dcap,.slice s.ko s.kn s.kc,.slice s.vo s.vn s.vc,.slice s.uo s.un s.uc,.slice s.so s.sn s.sc,.slice s.to s.tn s.tc]∧qnX s∧ObOf X s d:=by
 obtain⟨kv,vv,uv,sv,tv,R,Q,e,h1,h2,h3,h4,h5,h6,h7⟩:=h;obtain⟨ko,kc,rfl,_,k1,k2⟩:=qiE h1;obtain⟨vo,vc,rfl,_,v1,v2⟩:=qiE h2;obtain⟨uo,uc,rfl,u0,u1,u2⟩:=qiE h3;obtain⟨so,sc,rfl,s1,s2⟩:=qJG h4 h5;obtain⟨tt,tc,rfl,t1,t2⟩:=qKS h6 h7;exact⟨⟨ko,_,kc,vo,_,vc,uo,_,uc,so,_,sc,tt,_,tc⟩,e,⟨k1,v1,u1,s1,t1,u0⟩,⟨k2,v2,u2,s2,t2⟩⟩
theorem qHD{X:World}{B:Nat}{v:Value}{ds:List ObD}{R:List (List Value)}(ho:X.ownsRow B 38 8 v ds.length R.flatten)(hi:ObsIn X B ds R):∃ao c,v=.slice ao ds.length c∧ds.length≤9223372036854775807∧ObsOf X ao ds.length ds:=by
 obtain⟨ao,c,e,h1,h2,h3⟩:=qjY ho hi.1 (λi h=>by obtain⟨s,e,_⟩:=qx6 (hi.2 i h);rw[e];rfl);refine⟨ao,c,e,h2,rfl,λh0=>?_⟩;obtain⟨b,off,e1,hl,hc⟩:=h3 h0;refine⟨b,off,e1,hl,λi hi'=>?_⟩;obtain⟨s,er,hm,hof⟩:=qx6 (hi.2 i hi');have a0:=hc i 0 hi' (by omega);have a1:=hc i 1 hi' (by omega);have a2:=hc i 2 hi' (by omega);have a3:=hc i 3 hi' (by omega);have a4:=hc i 4 hi' (by omega);have a5:=hc i 5 hi' (by omega);have a6:=hc i 6 hi' (by omega);have a7:=hc i 7 hi' (by omega);rw[er]at a0 a1 a2 a3 a4 a5 a6 a7;exact⟨s,⟨by simpa using a0,by simpa using a1,by simpa using a2,by simpa using a3,by simpa using a4,by simpa using a5,by simpa using a6,by simpa using a7⟩,hm,hof⟩
end Go.Proofs.YtiimkhepplkocaaGreat
namespace Go.Proofs.YtiimkhepplkocaaGreat
open Go.RowKit Go.Sort
set_option linter.unusedVariables false
attribute [local go_sem ↓] Go.wp_at_zero Go.wp_at_succ
structure ObV (X:World) (B:Nat) (d:ObD) (kv vv uv sv tv:Value):Prop where
 k:X.ownsRow B 3 1 kv d.kinds.length (cV d.kinds)
 v:X.ownsRow B 3 1 vv d.vals.length (cV d.vals)
 u:X.ownsRow B 3 1 uv d.subs.length (cV d.subs)
 s:∃R:List (List Value),X.ownsRow B 65 4 sv d.sts.length R.flatten∧StatesIn X B d.sts R
 t:∃Q:List (List Value),X.ownsRow B 60 5 tv d.trs.length Q.flatten∧TrsIn X B d.trs Q
theorem ObV.in{X:World}{B:Nat}{d:ObD}{kv vv uv sv tv:Value}(h:ObV X B d kv vv uv sv tv):ObIn X B d [.int .i64 d.prio,.int .i64 d.qcap,.int .i64 d.dcap,kv,vv,uv,sv,tv]:=by
 obtain⟨R,h1,h2⟩:=h.s;obtain⟨Q,h3,h4⟩:=h.t;exact⟨kv,vv,uv,sv,tv,R,Q,rfl,h.k,h.v,h.u,h1,h2,h3,h4⟩
theorem ObV.keep{P:Nat→Prop}{X Y:World}{B:Nat}{d:ObD}{kv vv uv sv tv:Value}(h:ObV X B d kv vv uv sv tv)(hP:OnlyP P X Y)(hn:FarP X B P):ObV Y B d kv vv uv sv tv:=by
 obtain⟨R,h1,h2⟩:=h.s;obtain⟨Q,h3,h4⟩:=h.t;exact⟨yM h.k hP hn (.inr (.inr (.inl rfl))),yM h.v hP hn (.inr (.inr (.inl rfl))),yM h.u hP hn (.inr (.inr (.inl rfl))),⟨R,yM h1 hP hn (.inr (.inr (.inr (.inl rfl)))),h2.keep hP hn.sm⟩,⟨Q,yM h3 hP hn (.inr (.inr (.inr (.inr rfl)))),h4.keep hP hn.sm⟩⟩
structure SyI (w:World) (cb:Nat) (co:Option Addr) (n cap A:Nat) (HS:Nat) (sg:Int) (ov tv:Value) (ds:List ObD) (R:List (List Value)) (X:World):Prop where
 cur:Cur X cb co n cap A
 dw:Dw cb w X
 r:X.heap[w.heap.size]? =some (.cells #[.int .i64 0,.slice none 0 0,.slice none 0 0] 26 (0,0))
 s:X.heap[HS]? =some (.cells #[.int .i64 sg,ov,tv] 26 (0,0))
 hs:w.heap.size<HS
 oo:X.ownsRow (w.heap.size+1) 38 8 ov ds.length R.flatten
 oi:ObsIn X (w.heap.size+1) ds R
 cb0:cb<w.heap.size
 g0:0<n→∀g o,co=some ⟨g,o,none⟩→g<w.heap.size
section
variable {w:World} {cb:Nat} {co:Option Addr} {n cap A A' HS HO:Nat} {sg:Int} {ov tv:Value} {ds:List ObD} {R:List (List Value)} {X Y:World} {P:Nat→Prop}
theorem qoP{B:Nat}(h:cb<B):FarP X B (λb=>b=cb):=λb _ _ _ _ hb e=>by omega
theorem qi7{B:Nat}:FarP X B (λ_=>False):=λ_ _ _ _ _ _ e=>e
theorem qhX{B H:Nat}{cs:Array Value}{t:TypeId}(h:X.heap[H]? =some (.cells cs t (0,0)))(ht:¬Kt t):FarP X B (λb=>b=H):=λb cs' t' hb ht' _ e=>by
 rw[e,h]at hb;simp at hb;exact ht (by rw[hb.2];exact ht')
theorem qwM{B C:Nat}{e:TypeId}{size:Nat}{v:Value}{m:Nat}{xs:List Value}(ho:X.ownsRow C e size v m xs)(he:¬Kt e):FarP X B (λb=>v.ownBlock=some b):=λb cs t hb ht _ e1=>by
 rcases ho.2 with⟨h0,_⟩|⟨g,cap,cur,k1,k2,k3,k4⟩
 ·rw[h0]at e1;cases e1
 ·rw[k1]at e1;simp[Value.ownBlock]at e1;subst e1;rw[k3]at hb;simp at hb;exact he (by rw[hb.2];exact ht)
theorem SyI.keep(h:SyI w cb co n cap A HS sg ov tv ds R X)(hP:OnlyP P X Y)(h1:∀q,P q→w.heap.size<q)(h2:∀q,ov.ownBlock=some q→¬P q)(h3:¬P HS)(h4:FarP X (w.heap.size+1) P):SyI w cb co n cap A HS sg ov tv ds R Y:=by
 have c0:=h.cb0;have no:∀q,q<w.heap.size+1→¬P q:=λq hq e=>by have:=h1 q e;omega
 exact⟨h.cur.only hP (no cb (by omega)) (λhn g o e=>no g (by have:=h.g0 hn g o e;omega)),⟨hP.os.trans h.dw.os,hP.tape.trans h.dw.tape,hP.output.trans h.dw.output,Nat.le_trans h.dw.size hP.size,λq hq hn=>(hP.block q (Nat.lt_of_lt_of_le hq h.dw.size) (no q (by omega))).trans (h.dw.block q hq hn)⟩,(hP.block _ (lt_of_block h.r) (no _ (by omega))).trans h.r,(hP.block _ (lt_of_block h.s) h3).trans h.s,h.hs,hP.own h.oo h2,h.oi.keep hP h4,c0,h.g0⟩
theorem SyI.below(h:SyI w cb co n cap A HS sg ov tv ds R X)(hb:Below X.heap.size X Y):SyI w cb co n cap A HS sg ov tv ds R Y:=
 h.keep (Below.toP (P:=λ_=>False) hb) (λ_ e=>e.elim) (λ_ _ e=>e) (λe=>e) qi7
theorem SyI.draw(h:SyI w cb co n cap A HS sg ov tv ds R X)(hd:Dw cb X Y)(hc:Cur Y cb co n cap A'):SyI w cb co n cap A' HS sg ov tv ds R Y:=by
 have c0:=h.cb0;have c1:=h.hs;exact⟨hc,h.dw.trans hd,hd.at h.r (by omega),hd.at h.s (by omega),c1,hd.own h.cur h.oo (by decide),h.oi.keep hd (qoP (by omega)),c0,h.g0⟩
theorem SyI.mono(h:SyI w cb co n cap A HS sg ov tv ds R X)(hA:A≤A'):SyI w cb co n cap A' HS sg ov tv ds R X:=⟨h.cur.mono hA,h.dw,h.r,h.s,h.hs,h.oo,h.oi,h.cb0,h.g0⟩
theorem qJ7{w1:World}(h0:Cur w cb co n cap A')(hd:Dw cb (w.alloc (.cells #[.int .i64 0,.slice none 0 0,.slice none 0 0] 26)) w1)(hc:Cur w1 cb co n cap A):SyI w cb co n cap A w1.heap.size sg (.slice none 0 0) (.slice none 0 0) [] [] (w1.alloc (.cells #[.int .i64 sg,.slice none 0 0,.slice none 0 0] 26)):=by
 have c0:=h0.lt;have hr:w1.heap[w.heap.size]? =some (.cells #[.int .i64 0,.slice none 0 0,.slice none 0 0] 26 (0,0)):=hd.at (heap_alloc_new w _) (by omega);exact⟨hc.below (aB _ _),(dP _ _ _).trans (hd.trans (dP _ _ _)),aA hr (aB _ _),heap_alloc_new _ _,lt_of_block hr,World.ownsRow_nil _ _ _ _,⟨rfl,λi hi=>absurd hi (by simp)⟩,c0,h0.code_lt⟩
structure ObB (w:World) (cb:Nat) (co:Option Addr) (n cap A:Nat) (HS:Nat) (sg:Int) (ov tv:Value) (ds:List ObD) (R:List (List Value)) (HO:Nat) (d:ObD) (kv vv uv sv xv:Value) (X:World):Prop where
 sy:SyI w cb co n cap A HS sg ov tv ds R X
 o:X.heap[HO]? =some (.cells #[.int .i64 d.prio,.int .i64 d.qcap,.int .i64 d.dcap,kv,vv,uv,sv,xv] 38 (0,0))
 ho:w.heap.size<HO
 nv:ov.ownBlock≠some HO
 ob:ObV X (w.heap.size+1) d kv vv uv sv xv
variable {d d':ObD} {kv vv uv sv xv:Value}
theorem qo6:¬Kt 26:=by unfold Kt;decide
theorem qo5:¬Kt 38:=by unfold Kt;decide
theorem ObB.keep(h:ObB w cb co n cap A HS sg ov tv ds R HO d kv vv uv sv xv X)(hP:OnlyP P X Y)(h1:∀q,P q→w.heap.size<q)(h2:∀q,ov.ownBlock=some q→¬P q)(h3:¬P HS)(h4:FarP X (w.heap.size+1) P)(h5:¬P HO):ObB w cb co n cap A HS sg ov tv ds R HO d kv vv uv sv xv Y:=
 ⟨h.sy.keep hP h1 h2 h3 h4,(hP.block _ (lt_of_block h.o) h5).trans h.o,h.ho,h.nv,h.ob.keep hP h4⟩
theorem ObB.below(h:ObB w cb co n cap A HS sg ov tv ds R HO d kv vv uv sv xv X)(hb:Below X.heap.size X Y):ObB w cb co n cap A HS sg ov tv ds R HO d kv vv uv sv xv Y:=
 h.keep (Below.toP (P:=λ_=>False) hb) (λ_ e=>e.elim) (λ_ _ e=>e) (λe=>e) qi7 (λe=>e)
theorem ObB.draw(h:ObB w cb co n cap A HS sg ov tv ds R HO d kv vv uv sv xv X)(hd:Dw cb X Y)(hc:Cur Y cb co n cap A'):ObB w cb co n cap A' HS sg ov tv ds R HO d kv vv uv sv xv Y:=by
 have c0:=h.sy.cb0;have c1:=h.ho;exact⟨h.sy.draw hd hc,hd.at h.o (by omega),c1,h.nv,h.ob.keep hd (qoP (by omega))⟩
theorem ObB.mono(h:ObB w cb co n cap A HS sg ov tv ds R HO d kv vv uv sv xv X)(hA:A≤A'):ObB w cb co n cap A' HS sg ov tv ds R HO d kv vv uv sv xv X:=⟨h.sy.mono hA,h.o,h.ho,h.nv,h.ob⟩
theorem ObB.ne(h:ObB w cb co n cap A HS sg ov tv ds R HO d kv vv uv sv xv X):HS≠HO:=λe=>by
 have h1:=h.sy.s;rw[e,h.o]at h1;simp at h1
theorem ObB.set{q:Nat}{u kv' vv' uv' sv' xv':Value}(h:ObB w cb co n cap A HS sg ov tv ds R HO d kv vv uv sv xv X)(e:(#[.int .i64 d.prio,.int .i64 d.qcap,.int .i64 d.dcap,kv,vv,uv,sv,xv]:Array Value).setIfInBounds q u= #[.int .i64 d'.prio,.int .i64 d'.qcap,.int .i64 d'.dcap,kv',vv',uv',sv',xv'])(hv:ObV X (w.heap.size+1) d' kv' vv' uv' sv' xv'):ObB w cb co n cap A HS sg ov tv ds R HO d' kv' vv' uv' sv' xv' (X.setCell ⟨HO,q,none⟩ u):=by
 have hP:OnlyP (λb=>b=HO) X (X.setCell ⟨HO,q,none⟩ u):=OnlyP.set _ rfl;have f4:FarP X (w.heap.size+1) (λb=>b=HO):=qhX h.o qo5;have c1:=h.ho;refine⟨h.sy.keep hP (λb e=>by omega) (λb e1 e2=>h.nv (by rw[←e2];exact e1)) h.ne f4,?_,c1,h.nv,hv.keep hP f4⟩;rw[heap_setCell_same X HO q _ _ u h.o,e]
theorem ObB.le(h:ObB w cb co n cap A HS sg ov tv ds R HO d kv vv uv sv xv X):w.heap.size+1≤X.heap.size:=Nat.le_trans (show w.heap.size+1≤HO from h.ho) (Nat.le_of_lt (lt_of_block h.o))
theorem SyI.add{v':Value}{c:List Value}(h:SyI w cb co n cap A HS sg ov tv ds R X)(hc:ObIn X (w.heap.size+1) d c)(hg:X.grownBy Y ov.ownBlock)(ho:Y.ownsRow (w.heap.size+1) 38 8 v' (ds.length+1) (R.flatten++c)):SyI w cb co n cap A HS sg v' tv (ds++[d]) (R++[c]) (Y.setCell ⟨HS,1,none⟩ v'):=by
 have c0:=h.cb0;have c1:=h.hs;have gP:=grP hg;have sP:OnlyP (λq=>q=HS) Y (Y.setCell ⟨HS,1,none⟩ v'):=OnlyP.set _ rfl;have g1:∀q,ov.ownBlock=some q→w.heap.size+1≤q:=λq e=>(h.oo.lt q e).1;have gf:FarP X (w.heap.size+1) (λq=>ov.ownBlock=some q):=qwM h.oo qo5;have bY:=(gP.block _ (lt_of_block h.s) (λe=>aJ h.oo (by decide) h.s e)).trans h.s;have sf:FarP Y (w.heap.size+1) (λq=>q=HS):=qhX bY qo6;have aP:OnlyP (λq=>w.heap.size<q) X (Y.setCell ⟨HS,1,none⟩ v'):=(gP.mono (λq e=>by have:=g1 q e;omega)).trans (sP.mono (λq e=>by omega));refine⟨h.cur.only aP (by omega) (λhn g o e=>by have:=h.g0 hn g o e;omega),⟨aP.os.trans h.dw.os,aP.tape.trans h.dw.tape,aP.output.trans h.dw.output,Nat.le_trans h.dw.size aP.size,λq hq hn=>(aP.block q (Nat.lt_of_lt_of_le hq h.dw.size) (by omega)).trans (h.dw.block q hq hn)⟩,(aP.block _ (lt_of_block h.r) (by omega)).trans h.r,by rw[heap_setCell_same Y _ 1 _ _ v' bY];rfl,c1,sP.own (by simpa using ho) (λq e e2=>aJ ho (by decide) bY (by rw[←e2];exact e)),((h.oi.keep gP gf).snoc (hc.keep gP gf)).keep sP sf,c0,h.g0⟩
theorem qHB{q:Int}{ks vs:List Int}(h:SyI w cb co n cap A HS sg ov tv ds R X)(hk:X.ownsRow (w.heap.size+1) 3 1 kv ks.length (cV ks))(hv:X.ownsRow (w.heap.size+1) 3 1 vv vs.length (cV vs)):ObB w cb co n cap A HS sg ov tv ds R X.heap.size ⟨0,q,0,ks,vs,[],[],[]⟩ kv vv (.slice none 0 0) (.slice none 0 0) (.slice none 0 0) (X.alloc (.cells #[.int .i64 0,.int .i64 q,.int .i64 0,kv,vv,.slice none 0 0,.slice none 0 0,.slice none 0 0] 38)):=by
 have hb:=aB X (.cells #[.int .i64 0,.int .i64 q,.int .i64 0,kv,vv,.slice none 0 0,.slice none 0 0,.slice none 0 0] 38);exact⟨h.below hb,heap_alloc_new _ _,Nat.lt_of_le_of_lt (Nat.le_of_lt h.hs) (lt_of_block h.s),λe=>by have:=(h.oo.lt _ e).2;omega,⟨aI hk hb,aI hv hb,World.ownsRow_nil _ _ _ _,⟨[],World.ownsRow_nil _ _ _ _,rfl,λi hi=>absurd hi (by simp)⟩,⟨[],World.ownsRow_nil _ _ _ _,rfl,λi hi=>absurd hi (by simp)⟩⟩⟩
theorem ObB.subs{x:Int}{v':Value}{p qc dc:Int}{ks vs us:List Int}{ss:List StD}{ts:List TrD}(h:ObB w cb co n cap A HS sg ov tv ds R HO ⟨p,qc,dc,ks,vs,us,ss,ts⟩ kv vv uv sv xv X)(hg:(X.alloc (.cells #[.int .i64 x] 3)).grownBy Y (some X.heap.size))(ho:Y.ownsRow X.heap.size 3 1 v' (1+us.length) ([.int .i64 x]++cV us)):ObB w cb co n cap A HS sg ov tv ds R HO ⟨p,qc,dc,ks,vs,x::us,ss,ts⟩ kv vv v' sv xv (Y.setCell ⟨HO,5,none⟩ v'):=by
 have hP:OnlyP (λ_=>False) X Y:=⟨hg.os,hg.tape,hg.output,Nat.le_trans (by simp) hg.size,λq hq hn=>(hg.block q (by simp;omega) (λe=>by simp at e;omega)).trans ((aB X (.cells #[.int .i64 x] 3)).block q hq)⟩;have hY:=h.keep hP (λ_ e=>e.elim) (λ_ _ e=>e) (λe=>e) qi7 (λe=>e);refine hY.set (q:=5) (u:=v') (d':=⟨p,qc,dc,ks,vs,x::us,ss,ts⟩) rfl ⟨hY.ob.k,hY.ob.v,aM ?_ h.le,hY.ob.s,hY.ob.t⟩;rw[Nat.add_comm]at ho;exact ho
theorem ObB.chart{sv' xv':Value}{p qc dc:Int}{ks vs us:List Int}{ss:List StD}{ts:List TrD}{ss0:List StD}{ts0:List TrD}(h:ObB w cb co n cap A HS sg ov tv ds R HO ⟨p,qc,dc,ks,vs,us,ss0,ts0⟩ kv vv uv sv xv X)(h1:∃R:List (List Value),X.ownsRow (w.heap.size+1) 65 4 sv' ss.length R.flatten∧StatesIn X (w.heap.size+1) ss R)(h2:∃Q:List (List Value),X.ownsRow (w.heap.size+1) 60 5 xv' ts.length Q.flatten∧TrsIn X (w.heap.size+1) ts Q):ObB w cb co n cap A HS sg ov tv ds R HO ⟨p,qc,dc,ks,vs,us,ss,ts⟩ kv vv uv sv' xv' ((X.setCell ⟨HO,6,none⟩ sv').setCell ⟨HO,7,none⟩ xv'):=by
 have a:=h.set (q:=6) (u:=sv') (d':=⟨p,qc,dc,ks,vs,us,ss,ts0⟩) (kv':=kv) (vv':=vv) (uv':=uv) (sv':=sv') (xv':=xv) rfl ⟨h.ob.k,h.ob.v,h.ob.u,h1,h.ob.t⟩;have hP:OnlyP (λb=>b=HO) X (X.setCell ⟨HO,6,none⟩ sv'):=OnlyP.set _ rfl;have f4:FarP X (w.heap.size+1) (λb=>b=HO):=qhX h.o qo5;obtain⟨Q,q1,q2⟩:=h2;exact a.set (q:=7) (u:=xv') (d':=⟨p,qc,dc,ks,vs,us,ss,ts⟩) rfl ⟨a.ob.k,a.ob.v,a.ob.u,a.ob.s,⟨Q,yM q1 hP f4 (.inr (.inr (.inr (.inr rfl)))),q2.keep hP f4.sm⟩⟩
structure TmI (w:World) (cb:Nat) (co:Option Addr) (n cap A:Nat) (HS:Nat) (sg:Int) (ov tv:Value) (ds:List ObD) (R:List (List Value)) (tms:List (Int × Int)) (X:World):Prop where
 sy:SyI w cb co n cap A HS sg ov tv ds R X
 tw:X.ownsRow (w.heap.size+1) 173 2 tv tms.length (cR tms)
theorem qFP:¬Kt 173:=by unfold Kt;decide
variable {tms:List (Int×Int)}
theorem qKO(h:SyI w cb co n cap A HS sg ov (.slice none 0 0) ds R X):TmI w cb co n cap A HS sg ov (.slice none 0 0) ds R [] X:=⟨h,World.ownsRow_nil _ _ _ _⟩
theorem TmI.draw(h:TmI w cb co n cap A HS sg ov tv ds R tms X)(hd:Dw cb X Y)(hc:Cur Y cb co n cap A'):TmI w cb co n cap A' HS sg ov tv ds R tms Y:=⟨h.sy.draw hd hc,hd.own h.sy.cur h.tw (by decide)⟩
theorem TmI.below(h:TmI w cb co n cap A HS sg ov tv ds R tms X)(hb:Below X.heap.size X Y):TmI w cb co n cap A HS sg ov tv ds R tms Y:=⟨h.sy.below hb,aI h.tw hb⟩
theorem TmI.mono(h:TmI w cb co n cap A HS sg ov tv ds R tms X)(hA:A≤A'):TmI w cb co n cap A' HS sg ov tv ds R tms X:=⟨h.sy.mono hA,h.tw⟩
theorem TmI.add{v':Value}{a b:Int}(h:TmI w cb co n cap A HS sg ov tv ds R tms X)(hg:X.grownBy Y tv.ownBlock)(ho:Y.ownsRow (w.heap.size+1) 173 2 v' (tms.length+1) (cR tms++[.int .i64 a,.int .i64 b])):TmI w cb co n cap A HS sg ov v' ds R (tms++[(a,b)]) (Y.setCell ⟨HS,2,none⟩ v'):=by
 have gP:=grP hg;have g1:∀q,tv.ownBlock=some q→w.heap.size<q:=λq e=>(h.tw.lt q e).1;have sne:∀q,ov.ownBlock=some q→¬tv.ownBlock=some q:=λq e e2=>by
  rcases h.sy.oo.2 with⟨h0,_⟩|⟨g,cap',cur,k1,k2,k3,k4⟩
  ·rw[h0]at e;cases e
  ·rw[k1]at e;simp[Value.ownBlock]at e;subst e;exact aJ h.tw (by decide) k3 e2
 have hY:=h.sy.keep gP g1 sne (λe=>aJ h.tw (by decide) h.sy.s e) (qwM h.tw qFP);have c0:=h.sy.cb0;have c1:=h.sy.hs;have sP:OnlyP (λq=>q=HS) Y (Y.setCell ⟨HS,2,none⟩ v'):=OnlyP.set _ rfl;have sf:FarP Y (w.heap.size+1) (λq=>q=HS):=qhX hY.s qo6;refine⟨⟨hY.cur.only sP (by omega) (λhn g o e=>by have:=hY.g0 hn g o e;omega),⟨sP.os.trans hY.dw.os,sP.tape.trans hY.dw.tape,sP.output.trans hY.dw.output,Nat.le_trans hY.dw.size sP.size,λq hq hn=>(sP.block q (Nat.lt_of_lt_of_le hq hY.dw.size) (by omega)).trans (hY.dw.block q hq hn)⟩,(sP.block _ (lt_of_block hY.r) (by omega)).trans hY.r,by rw[heap_setCell_same Y _ 2 _ _ v' hY.s];rfl,c1,sP.own hY.oo (λq e e2=>aJ hY.oo (by decide) hY.s (by rw[←e2];exact e)),hY.oi.keep sP sf,c0,hY.g0⟩,sP.own (by simpa[qn9,cR]using ho) (λq e e2=>aJ ho (by decide) hY.s (by rw[←e2];exact e))⟩
end
theorem dS{w:World}{H:Nat}{a b c:Value}{t:TypeId}(k:w.heap[H]? =some (.cells #[a,b,c] t (0,0))):w.cell? ⟨H,0,none⟩=some a∧w.cell? ⟨H,1,none⟩=some b∧w.cell? ⟨H,2,none⟩=some c∧(∀o,w.frozen? ⟨H,o,none⟩=false):=⟨by simp[World.cell?,k],by simp[World.cell?,k],by simp[World.cell?,k],aR k⟩
theorem c8{w:World}{H:Nat}{a b c d e f g h:Value}{t:TypeId}(k:w.heap[H]? =some (.cells #[a,b,c,d,e,f,g,h] t (0,0))):(w.cell? ⟨H,0,none⟩=some a∧w.cell? ⟨H,1,none⟩=some b∧w.cell? ⟨H,2,none⟩=some c∧w.cell? ⟨H,3,none⟩=some d)∧(w.cell? ⟨H,4,none⟩=some e∧w.cell? ⟨H,5,none⟩=some f∧w.cell? ⟨H,6,none⟩=some g∧w.cell? ⟨H,7,none⟩=some h)∧(∀o,w.frozen? ⟨H,o,none⟩=false):=⟨by simp[World.cell?,k],by simp[World.cell?,k],aR k⟩
def qiT(i:Nat)(p:Int):Prop:=(i=0→1≤p∧p≤15)∧(i=1→701≤p∧p≤1000)∧(i=2→71≤p∧p≤85)
def SubsOk(k:Int)(l:List Int):Prop:=l.Pairwise (· > ·)∧∀x,x∈l→0≤x∧x<k
def qdR(m:Nat)(sg:Int)(tm:Nat)(i:Nat)(d:ObD):Prop:=(1≤d.qcap∧d.qcap≤5)∧(0≤d.dcap∧d.dcap≤3)∧qiT i d.prio∧BankD d.kinds d.vals∧d.kinds.length≤4∧SubsOk sg d.subs∧(bJ d.sts d.trs ⟨m,sg,tm,d.vals.length⟩).1=0∧d.sts.length≤9∧d.trs.length≤10
theorem SubsOk.step{k:Nat}{l:List Int}(h:SubsOk (k:Int) l):SubsOk ((k+1:Nat):Int) ((k:Int)::l):=⟨List.pairwise_cons.2 ⟨λx hx=>by have:=h.2 x hx;omega,h.1⟩,λx hx=>by
 rcases List.mem_cons.1 hx with rfl|hx
 ·omega
 ·have:=h.2 x hx;omega⟩
theorem SubsOk.hold{k:Nat}{l:List Int}(h:SubsOk (k:Int) l):SubsOk ((k+1:Nat):Int) l:=⟨h.1,λx hx=>by have:=h.2 x hx;omega⟩
theorem qHC{m:Nat}{sg:Int}{tm:Nat}{ds:List ObD}{d:ObD}(h:∀i,i<ds.length→qdR m sg tm i (ds.getD i ob0))(hd:qdR m sg tm ds.length d):∀i,i<(ds++[d]).length→qdR m sg tm i ((ds++[d]).getD i ob0):=by
 intro i hi;rw[uZ];by_cases hl:i<ds.length
 ·rw[if_pos hl];exact h i hl
 ·obtain rfl:i=ds.length:=by simp at hi;omega
  rw[if_neg hl,if_pos rfl];exact hd
structure qa5 where
 sg:Nat
 ds:List ObD
 tms:List (Int×Int)
structure qiU (y:qa5):Prop where
 sg:1≤y.sg∧y.sg≤4
 n:1≤y.ds.length∧y.ds.length≤3
 t:y.tms.length≤3
 ob:∀i,i<y.ds.length→qdR y.ds.length y.sg y.tms.length i (y.ds.getD i ob0)
 tm:∀i,i<y.tms.length→(0≤(y.tms.getD i (0,0)).1∧(y.tms.getD i (0,0)).1<y.ds.length)∧(0≤(y.tms.getD i (0,0)).2∧(y.tms.getD i (0,0)).2<y.sg)
structure SysV (X:World) (B:Nat) (y:qa5) (ov tv:Value):Prop where
 o:∃R:List (List Value),X.ownsRow B 38 8 ov y.ds.length R.flatten∧ObsIn X B y.ds R
 t:X.ownsRow B 173 2 tv y.tms.length (cR y.tms)
def qn0(w w':World)(cb:Nat)(co:Option Addr)(n cap A:Nat)(e:Ending):Prop:=∃(y:qa5) (ov tv:Value),e=.returned (.agg #[.int .i64 (y.sg:Int),ov,tv])∧SysV w' w.heap.size y ov tv∧qiU y∧Cur w' cb co n cap A∧Dw cb w w'
theorem qKN{m sg:Nat}{tms:List (Int×Int)}{a b:Int}(h:∀i,i<tms.length→(0≤(tms.getD i (0,0)).1∧(tms.getD i (0,0)).1<m)∧(0≤(tms.getD i (0,0)).2∧(tms.getD i (0,0)).2<sg))(ha:0≤a∧a<m)(hb:0≤b∧b<sg):∀i,i<(tms++[(a,b)]).length→(0≤((tms++[(a,b)]).getD i (0,0)).1∧((tms++[(a,b)]).getD i (0,0)).1<m)∧(0≤((tms++[(a,b)]).getD i (0,0)).2∧((tms++[(a,b)]).getD i (0,0)).2<sg):=by
 intro i hi;rw[uZ];by_cases hl:i<tms.length
 ·rw[if_pos hl];exact h i hl
 ·obtain rfl:i=tms.length:=by simp at hi;omega
  rw[if_neg hl,if_pos rfl];exact⟨ha,hb⟩
theorem TmI.ret{w:World}{cb:Nat}{co:Option Addr}{n cap A A' HS:Nat}{sg:Nat}{ov tv:Value}{ds:List ObD}{R:List (List Value)}{tms:List (Int×Int)}{X:World}(h:TmI w cb co n cap A HS (sg:Int) ov tv ds R tms X)(hy:qiU ⟨sg,ds,tms⟩)(hA:A≤A'):qn0 w (((X.setCell ⟨w.heap.size,0,none⟩ (.int .i64 (sg:Int))).setCell ⟨w.heap.size,1,none⟩ ov).setCell ⟨w.heap.size,2,none⟩ tv) cb co n cap A' (.returned (.agg #[.int .i64 (sg:Int),ov,tv])):=by
 obtain⟨Y,hY⟩:∃Y,Y=((X.setCell ⟨w.heap.size,0,none⟩ (.int .i64 (sg:Int))).setCell ⟨w.heap.size,1,none⟩ ov).setCell ⟨w.heap.size,2,none⟩ tv:=⟨_,rfl⟩;have hP:OnlyP (λq=>q=w.heap.size) X Y:=by rw[hY];exact OnlyP.trans (OnlyP.trans (OnlyP.set (P:=λq=>q=w.heap.size) _ rfl) (OnlyP.set (P:=λq=>q=w.heap.size) _ rfl)) (OnlyP.set (P:=λq=>q=w.heap.size) _ rfl)
 rw[←hY];have c0:=h.sy.cb0;have far:FarP X (w.heap.size+1) (λq=>q=w.heap.size):=λb _ _ _ _ hb e=>by omega
 refine⟨⟨sg,ds,tms⟩,ov,tv,rfl,⟨⟨R,aM (hP.own h.sy.oo (λq e e2=>by have:=(h.sy.oo.lt q e).1;omega)) (by omega),(h.sy.oi.keep hP far).base (by omega)⟩,aM (hP.own h.tw (λq e e2=>by have:=(h.tw.lt q e).1;omega)) (by omega)⟩,hy,(h.sy.cur.only hP (by omega) (λhn g o e=>by have:=h.sy.g0 hn g o e;omega)).mono hA,⟨hP.os.trans h.sy.dw.os,hP.tape.trans h.sy.dw.tape,hP.output.trans h.sy.dw.output,Nat.le_trans h.sy.dw.size hP.size,λq hq hn=>(hP.block q (Nat.lt_of_lt_of_le hq h.sy.dw.size) (by omega)).trans (h.sy.dw.block q hq hn)⟩⟩
end Go.Proofs.YtiimkhepplkocaaGreat
