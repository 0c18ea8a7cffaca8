import Derived.Test.YtiimkhepplkocaaGreatTe
import Derived.Test.YtiimkhepplkocaaGreatZ18
import Derived.Test.YtiimkhepplkocaaGreatZt10
set_option maxRecDepth 100000
set_option maxHeartbeats 16000000
namespace Go.Proofs.YtiimkhepplkocaaGreat
open Go.RowKit Go.Sort
set_option linter.unusedVariables false
attribute [local go_sem ↓] Go.wp_at_zero Go.wp_at_succ
def tb0:TbD:=⟨0,[],[],[],rw0⟩
def tbC(ss:List StD)(ts:List TrD)(l:aE):TbD:=if(bJ ss ts l).1=0 then cM ss ts l.s.toNat else tb0
theorem qID{ss:List StD}{ts:List TrD}{l:aE}(hC:Chk ss ts l){leaf:Nat}(hl:leaf<ss.length){q:Nat}(hq:Way ss ts leaf q):(bD ss ts leaf q).ex.length≤400∧(bD ss ts leaf q).en.length≤400:=by
 have n2:=hC.good.n2;have h2:=hC.tgt q hq.lt;unfold bD exX enX;by_cases he:(ts.getD q tr0).target=-1
 ·rw[if_pos he,if_pos he];simp
 ·rw[if_neg he,if_neg he]
  have ht:(ts.getD q tr0).target.toNat<ss.length:=by omega
  have h3:=qgZ hC.good.tree hl (dom ss (ts.getD q tr0).src.toNat (ts.getD q tr0).target.toNat);have h4:=qgZ hC.good.tree ht (dom ss (ts.getD q tr0).src.toNat (ts.getD q tr0).target.toNat);have h5:=qa6 hC.good (ss.length-(ts.getD q tr0).target.toNat) (ts.getD q tr0).target.toNat ht rfl;simp only[gJ,dQ,List.length_append,List.length_reverse];omega
theorem qB1{ss:List StD}{ts:List TrD}{l:aE}(hC:Chk ss ts l){sg:Nat}{L:List Nat}(hL:∀x,x∈L→x<ss.length):∀r,r∈(cA ss ts sg L).flatten→r.ex.length≤400∧r.en.length≤400:=by
 intro r hr;obtain⟨c,hc,hrc⟩:=List.mem_flatten.1 hr;unfold cA at hc;simp only[List.mem_flatMap,List.mem_map,List.mem_range]at hc;obtain⟨x,hx,s,_,rfl⟩:=hc;unfold iD at hrc;obtain⟨q,hq,rfl⟩:=List.mem_map.1 hrc;exact qID hC (hL x hx) (qc6 hC (hL x hx) hq)
theorem qKM{ss:List StD}{ts:List TrD}{l:aE}(hC:Chk ss ts l){sg:Nat}(hs:sg≤64):(cM ss ts sg).lv.length≤200∧(cM ss ts sg).st.length≤12801∧(cM ss ts sg).rw.length≤1280000000∧(cM ss ts sg).bt.ex.length=0∧(cM ss ts sg).bt.en.length≤201:=by
 have n2:=hC.good.n2;have h1:=qbA ss ss.length;have h2:(cA ss ts sg (cC ss ss.length)).length≤200*64:=by
  rw[qdT];exact Nat.mul_le_mul (by omega) hs
 have h3:=qjC (C:=cA ss ts sg (cC ss ss.length)) (m:=100000) (qi2 hC (qh1 ss ss.length));have h4:=Nat.mul_le_mul h2 (Nat.le_refl 100000);have h5:=qu9 hC.good;have h6:(dR (cA ss ts sg (cC ss ss.length))).length=(cA ss ts sg (cC ss ss.length)).length+1:=by unfold dR;rw[List.length_append,qbG,List.length_singleton]
 refine⟨?_,?_,?_,rfl,?_⟩
 ·show(cC ss ss.length).length≤200
  omega
 ·show(dR (cA ss ts sg (cC ss ss.length))).length≤12801
  omega
 ·show(cA ss ts sg (cC ss ss.length)).flatten.length≤1280000000
  omega
 ·exact h5
theorem qKB(ss:List StD)(ts:List TrD)(l:aE):qzQ (tbC ss ts l)∧(tbC ss ts l).lv.length≤200∧(tbC ss ts l).st.length≤12801∧(tbC ss ts l).rw.length≤1280000000∧(tbC ss ts l).bt.ex.length=0∧(tbC ss ts l).bt.en.length≤201:=by
 unfold tbC;by_cases hc:(bJ ss ts l).1=0
 ·rw[if_pos hc]
  have hC:=yI hc;have hlim:=hC.lim.2.1;have hL:=qKM (ts:=ts) hC (sg:=l.s.toNat) (by omega);refine⟨⟨by omega,by omega,by omega,by omega,by omega,λi hi=>?_⟩,hL⟩;have hm:(cM ss ts l.s.toNat).rw.getD i rw0∈(cA ss ts l.s.toNat (cC ss ss.length)).flatten:=by
   rw[List.getD_eq_getElem?_getD,List.getElem?_eq_getElem hi];exact List.getElem_mem hi
  exact qB1 hC (qh1 ss ss.length) _ hm
 ·rw[if_neg hc]
  exact⟨⟨by simp[tb0],by simp[tb0],by simp[tb0,rw0],by simp[tb0,rw0],by simp[tb0],λi hi=>absurd hi (by simp[tb0])⟩,by simp[tb0,rw0]⟩
structure TabO (X:World) (B:Nat) (d:TbD) (lv sv rv bx bn:Value) (R:List (List Value)):Prop where
 l:X.ownsRow B 3 1 lv d.lv.length (aG d.lv)
 s:X.ownsRow B 3 1 sv d.st.length (aG d.st)
 x:X.ownsRow B 3 1 bx d.bt.ex.length (aG d.bt.ex)
 n:X.ownsRow B 3 1 bn d.bt.en.length (aG d.bt.en)
 ri:RowsIn X B d.rw R
 ro:X.ownsRow B 44 4 rv d.rw.length R.flatten
 ap:ApT lv sv rv bx bn (pT R) (lM R) d.rw.length
section
variable {X Y:World} {B:Nat} {d:TbD} {lv sv rv bx bn:Value} {R:List (List Value)} {P:Nat→Prop}
theorem TabO.below(h:TabO X B d lv sv rv bx bn R)(hb:Below X.heap.size X Y):TabO Y B d lv sv rv bx bn R:=⟨aI h.l hb,aI h.s hb,aI h.x hb,aI h.n hb,h.ri.below hb,aI h.ro hb,h.ap⟩
theorem TabO.base{C:Nat}(h:TabO X B d lv sv rv bx bn R)(hb:C≤B):TabO X C d lv sv rv bx bn R:=⟨aM h.l hb,aM h.s hb,aM h.x hb,aM h.n hb,h.ri.base hb,aM h.ro hb,h.ap⟩
theorem TbI.tabO{w:World}{HB C r:Nat}(h:TbI w HB d lv sv rv bx bn R X)(hP:OnlyP (λb=>b=r) X Y)(hr:r<w.heap.size)(hB:C≤w.heap.size):TabO Y C d lv sv rv bx bn R:=by
 have no:∀{u:Value} {t:TypeId} {k n:Nat} {xs:List Value},X.ownsRow w.heap.size t k u n xs→Y.ownsRow C t k u n xs:=λhu=>aM (hP.own hu (λb e e2=>by have:=(hu.lt b e).1;omega)) hB;exact⟨no h.l,no h.s,no h.x,no h.n,(h.ri.keep hP (λb hi e=>by have:=(h.inner b hi).1;omega)).base hB,no h.ro,h.ap⟩
theorem qy1(X:World)(B:Nat):TabO X B tb0 (.slice none 0 0) (.slice none 0 0) (.slice none 0 0) (.slice none 0 0) (.slice none 0 0) []:=by
 have off:∀u:Value,Off (.slice none 0 0) u:=λu b e=>by simp[Value.ownBlock]at e
 refine⟨World.ownsRow_nil _ _ _ _,World.ownsRow_nil _ _ _ _,World.ownsRow_nil _ _ _ _,World.ownsRow_nil _ _ _ _,⟨rfl,λi hi=>absurd hi (by simp[tb0])⟩,World.ownsRow_nil _ _ _ _,⟨off _,off _,off _,off _,off _,off _,λb e=>?_,λi j hi=>absurd hi (by simp[tb0])⟩⟩;rcases e with e|e|e|e<;>simp[Value.ownBlock]at e
end
section
variable {w W:World} {bs:quR} {d:TbD} {lv sv rv bx bn:Value} {R:List (List Value)} {X Y:World} {l2 s2 r2 x2 n2:Value} {R2:List (List Value)} {es:List StD} {xs:List TrD} {y1 y2:Value}
end
end Go.Proofs.YtiimkhepplkocaaGreat
namespace Go.Proofs.YtiimkhepplkocaaGreat
open Go.RowKit Go.Sort
set_option linter.unusedVariables false
attribute [local go_sem ↓] Go.wp_at_zero Go.wp_at_succ
theorem qES(so tq:Option Addr)(n sc tn tc:Nat)(ss:List StD)(ts:List TrD)(o s t v:Int)(w:World)(hn:n≤9223372036854775807)(htn:tn≤9223372036854775807)(hs:StatesOf w so n ss)(ht:TransOf w tq tn ts)(hc:¬(bJ ss ts ⟨o,s,t,v⟩).1=0):
  Calls Tryz.prog 10 #[.agg #[.slice so n sc,.slice tq tn tc],.agg #[.int .i64 o,.int .i64 s,.int .i64 t,.int .i64 v]] w λe w'=>e=.returned (zB tb0 (.slice none 0 0) (.slice none 0 0) (.slice none 0 0) (.slice none 0 0) (.slice none 0 0))∧Below w.heap.size w w':=by
 have EN:=hid (qvV w #[.slice so n sc,.slice tq tn tc] #[.int .i64 o,.int .i64 s,.int .i64 t,.int .i64 v]);have C:=hid (qxT so tq n sc tn tc ss ts o s t v _ hn htn (hs.below EN.out.bel) (ht.below EN.out.bel) hc);clear hs ht hc;go_enter Tryz.func10,Tryz.ntmps10;go_wp2_with(go_at_call 43;refine C.out.mono ?_;rintro e w1 ⟨rfl,hb⟩;have B1:=hid (EN.out.below hb);obtain⟨r0,r1,r2,r3,r4,r5,r6,r7⟩:=dF B1.out.r;have fz:=zA B1.out.r;have rl:=lt_of_block B1.out.r;clear hb);obtain⟨c0,c1,c2,c3,c4,c5,c6,c7⟩:=dF (qh9 (a:=.int .i64 0) (b:=.slice none 0 0) (c:=.slice none 0 0) (d:=.slice none 0 0) (e:=.int .i64 0) (f:=.slice none 0 0) (g:=.slice none 0 0) (i:=.int .i64 0) B1.out.r);refine bodyPost_ret (v:=zB tb0 (.slice none 0 0) (.slice none 0 0) (.slice none 0 0) (.slice none 0 0) (.slice none 0 0)) (by simp[results,Tryz.results10,go_sem,c0,c1,c2,c3,c4,c5,c6,c7,tb0,rw0]) rfl ?_;exact⟨rfl,B1.out.bel.trans (qdZ.toBelow (λb e=>by omega) B1.out.bel.size)⟩
theorem qI5(so tq:Option Addr)(n sc tn tc:Nat)(ss:List StD)(ts:List TrD)(o s t v:Int)(w:World)(hn:n≤9223372036854775807)(htn:tn≤9223372036854775807)(hs:StatesOf w so n ss)(ht:TransOf w tq tn ts)(hc:¬(bJ ss ts ⟨o,s,t,v⟩).1=0):
  Calls Tryz.prog 11 #[.agg #[.slice so n sc,.slice tq tn tc],.agg #[.int .i64 o,.int .i64 s,.int .i64 t,.int .i64 v]] w λe w'=>e=.returned (zB tb0 (.slice none 0 0) (.slice none 0 0) (.slice none 0 0) (.slice none 0 0) (.slice none 0 0))∧Below w.heap.size w w':=by
 have EN:=hid (qvW w #[.slice so n sc,.slice tq tn tc] #[.int .i64 o,.int .i64 s,.int .i64 t,.int .i64 v]);have C:=hid (qpX so tq n sc tn tc ss ts o s t v _ hn htn (hs.below EN.out.bel) (ht.below EN.out.bel));obtain⟨f0,hf0⟩:∃f,f=(bJ ss ts ⟨o,s,t,v⟩).1:=⟨_,rfl⟩;obtain⟨f1,hf1⟩:∃f,f=(bJ ss ts ⟨o,s,t,v⟩).2:=⟨_,rfl⟩;rw[←hf0,←hf1]at C;rw[←hf0]at hc;clear hs ht hf0 hf1;go_enter Tryz.func11,Tryz.ntmps11;go_wp2_with(go_at_call 48;refine C.out.mono ?_;rintro e w1 ⟨rfl,hb⟩;have B1:=hid (EN.out.below hb);obtain⟨r0,r1,r2,r3,r4,r5,r6,r7⟩:=dF B1.out.r;have fz:=zA B1.out.r;have rl:=lt_of_block B1.out.r;clear hb);obtain⟨c0,c1,c2,c3,c4,c5,c6,c7⟩:=dF (qh9 (a:=.int .i64 0) (b:=.slice none 0 0) (c:=.slice none 0 0) (d:=.slice none 0 0) (e:=.int .i64 0) (f:=.slice none 0 0) (g:=.slice none 0 0) (i:=.int .i64 0) B1.out.r);refine bodyPost_ret (v:=zB tb0 (.slice none 0 0) (.slice none 0 0) (.slice none 0 0) (.slice none 0 0) (.slice none 0 0)) (by simp[results,Tryz.results11,go_sem,c0,c1,c2,c3,c4,c5,c6,c7,tb0,rw0]) rfl ?_;exact⟨rfl,B1.out.bel.trans (qdZ.toBelow (λb e=>by omega) B1.out.bel.size)⟩
theorem qER(so tq:Option Addr)(n sc tn tc:Nat)(ss:List StD)(ts:List TrD)(o s t v:Int)(w:World)(hn:n≤9223372036854775807)(htn:tn≤9223372036854775807)(hs:StatesOf w so n ss)(ht:TransOf w tq tn ts):
  Calls Tryz.prog 10 #[.agg #[.slice so n sc,.slice tq tn tc],.agg #[.int .i64 o,.int .i64 s,.int .i64 t,.int .i64 v]] w λe w'=>∃lv sv rv bx bn R,e=.returned (zB (tbC ss ts ⟨o,s,t,v⟩) lv sv rv bx bn)∧TabO w' w.heap.size (tbC ss ts ⟨o,s,t,v⟩) lv sv rv bx bn R∧Below w.heap.size w w':=by
 by_cases hc:(bJ ss ts ⟨o,s,t,v⟩).1=0
 ·have e:tbC ss ts ⟨o,s,t,v⟩=cM ss ts s.toNat:=by unfold tbC;rw[if_pos hc]
  rw[e];exact(qET so tq n sc tn tc ss ts o s t v w hn htn hs ht hc).mono (by
   rintro e w' ⟨lv,sv,rv,bx,bn,R,HB,w1,rfl,hz,⟨X,hT,hP,hr⟩,hb⟩;exact⟨lv,sv,rv,bx,bn,R,rfl,hT.tabO hP hr hz,hb⟩)
 ·have e:tbC ss ts ⟨o,s,t,v⟩=tb0:=by unfold tbC;rw[if_neg hc]
  rw[e];exact(qES so tq n sc tn tc ss ts o s t v w hn htn hs ht hc).mono (by
   rintro e w' ⟨rfl,hb⟩;exact⟨_,_,_,_,_,[],rfl,qy1 _ _,hb⟩)
theorem qI4(so tq:Option Addr)(n sc tn tc:Nat)(ss:List StD)(ts:List TrD)(o s t v:Int)(w:World)(hn:n≤9223372036854775807)(htn:tn≤9223372036854775807)(hs:StatesOf w so n ss)(ht:TransOf w tq tn ts):
  Calls Tryz.prog 11 #[.agg #[.slice so n sc,.slice tq tn tc],.agg #[.int .i64 o,.int .i64 s,.int .i64 t,.int .i64 v]] w λe w'=>∃lv sv rv bx bn R,e=.returned (zB (tbC ss ts ⟨o,s,t,v⟩) lv sv rv bx bn)∧TabO w' w.heap.size (tbC ss ts ⟨o,s,t,v⟩) lv sv rv bx bn R∧Below w.heap.size w w':=by
 by_cases hc:(bJ ss ts ⟨o,s,t,v⟩).1=0
 ·have e:tbC ss ts ⟨o,s,t,v⟩=cM ss ts s.toNat:=by unfold tbC;rw[if_pos hc]
  rw[e];exact(qI6 so tq n sc tn tc ss ts o s t v w hn htn hs ht hc).mono (by
   rintro e w' ⟨lv,sv,rv,bx,bn,R,HB,w1,rfl,hz,⟨X,hT,hP,hr⟩,hb⟩;exact⟨lv,sv,rv,bx,bn,R,rfl,hT.tabO hP hr hz,hb⟩)
 ·have e:tbC ss ts ⟨o,s,t,v⟩=tb0:=by unfold tbC;rw[if_neg hc]
  rw[e];exact(qI5 so tq n sc tn tc ss ts o s t v w hn htn hs ht hc).mono (by
   rintro e w' ⟨rfl,hb⟩;exact⟨_,_,_,_,_,[],rfl,qy1 _ _,hb⟩)
end Go.Proofs.YtiimkhepplkocaaGreat
