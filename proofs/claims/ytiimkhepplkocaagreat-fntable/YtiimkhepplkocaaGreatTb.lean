import Derived.Test.YtiimkhepplkocaaGreatTa
import Derived.Test.YtiimkhepplkocaaGreatZd
namespace Go.Proofs.YtiimkhepplkocaaGreat
open Go.RowKit Go.Sort
set_option linter.unusedVariables false
attribute [local go_sem ↓] Go.wp_at_zero Go.wp_at_succ
def cC(ss:List StD)(n:Nat):List Nat:=(List.range n).filter (λi=>decide (ini ss i<0))
def bD(ss:List StD)(ts:List TrD)(leaf q:Nat):RwD:=⟨(q:Int),exX ss leaf (ts.getD q tr0),enX ss (ts.getD q tr0),(nxX ss leaf (ts.getD q tr0):Nat)⟩
def iD(ss:List StD)(ts:List TrD)(leaf:Nat)(sg:Int):List RwD:=(aU ts (up ss leaf) sg).map (bD ss ts leaf)
def cA(ss:List StD)(ts:List TrD)(sg:Nat)(L:List Nat):List (List RwD):=L.flatMap (λlf=>(List.range sg).map (λ(s:Nat)=>iD ss ts lf (s:Int)))
def stB(C:List (List RwD)):List Nat:=(List.range C.length).map (λi=>((C.take i).flatten).length)
def dR(C:List (List RwD)):List Nat:=stB C++[C.flatten.length]
theorem qyV(C:List (List RwD))(x:List RwD):stB (C++[x])=stB C++[C.flatten.length]:=by
 unfold stB;rw[List.length_append,List.length_singleton,List.range_succ,List.map_append];congr 1
 ·apply List.map_congr_left
  intro i hi;rw[List.take_append_of_le_length (by have:=List.mem_range.1 hi;omega)]
 ·simp
theorem qJB(C:List (List RwD))(x:List RwD):dR (C++[x])=dR C++[(C++[x]).flatten.length]:=by
 unfold dR;rw[qyV]
theorem qxQ(ss:List StD)(n:Nat):cC ss (n+1)=cC ss n++(if ini ss n<0 then [n]else []):=by
 unfold cC;rw[List.range_succ,List.filter_append];congr 1;by_cases h:ini ss n<0<;>simp[h]
theorem qvM(ss:List StD)(ts:List TrD)(sg:Nat)(L:List Nat)(x:Nat):cA ss ts sg (L++[x])=cA ss ts sg L++(List.range sg).map (λ(s:Nat)=>iD ss ts x (s:Int)):=by simp[cA]
def pT(R:List (List Value))(i:Nat):Value:=(R.getD i []).getD 1 undef
def lM(R:List (List Value))(i:Nat):Value:=(R.getD i []).getD 2 undef
structure TbI (w:World) (HB:Nat) (d:TbD) (lv sv rv bx bn:Value) (R:List (List Value)) (X:World):Prop where
 bel:Below w.heap.size w X
 box:X.heap[HB]? =some (.cells #[.int .i64 d.sg,lv,sv,rv,.int .i64 d.bt.tr,bx,bn,.int .i64 d.bt.nx] 46 (0,0))
 hB:w.heap.size≤HB
 l:X.ownsRow w.heap.size 3 1 lv d.lv.length (aG d.lv)
 s:X.ownsRow w.heap.size 3 1 sv d.st.length (aG d.st)
 x:X.ownsRow w.heap.size 3 1 bx d.bt.ex.length (aG d.bt.ex)
 n:X.ownsRow w.heap.size 3 1 bn d.bt.en.length (aG d.bt.en)
 ri:RowsIn X w.heap.size d.rw R
 ro:X.ownsRow w.heap.size 44 4 rv d.rw.length R.flatten
 ap:ApT lv sv rv bx bn (pT R) (lM R) d.rw.length
theorem TbI.below{w:World}{HB:Nat}{d:TbD}{lv sv rv bx bn:Value}{R:List (List Value)}{X Y:World}(h:TbI w HB d lv sv rv bx bn R X)(hb:Below X.heap.size X Y):TbI w HB d lv sv rv bx bn R Y:=
 ⟨h.bel.trans (hb.mono h.bel.size),aA h.box hb,h.hB,aI h.l hb,aI h.s hb,aI h.x hb,aI h.n hb,h.ri.below hb,aI h.ro hb,h.ap⟩
theorem RowIn.vals{X:World}{B:Nat}{d:RwD}{c:List Value}(h:RowIn X B d c):X.ownsRow B 3 1 (c.getD 1 undef) d.ex.length (aG d.ex)∧X.ownsRow B 3 1 (c.getD 2 undef) d.en.length (aG d.en):=by
 obtain⟨xv,nv,rfl,h1,h2⟩:=h;exact⟨h1,h2⟩
theorem RowsIn.vals{X:World}{B:Nat}{ds:List RwD}{R:List (List Value)}(h:RowsIn X B ds R){i:Nat}(hi:i<ds.length):X.ownsRow B 3 1 (pT R i) (ds.getD i rw0).ex.length (aG (ds.getD i rw0).ex)∧X.ownsRow B 3 1 (lM R i) (ds.getD i rw0).en.length (aG (ds.getD i rw0).en):=(h.2 i hi).vals
theorem RowsIn.keep{P:Nat→Prop}{X Y:World}{B:Nat}{ds:List RwD}{R:List (List Value)}(h:RowsIn X B ds R)(hP:OnlyP P X Y)(hn:∀b,qa3 (pT R) (lM R) ds.length b→¬P b):RowsIn Y B ds R:=⟨h.1,λi hi=>by
 obtain⟨xv,nv,e,h1,h2⟩:=h.2 i hi;have e1:pT R i=xv:=by unfold pT;rw[e];rfl
 have e2:lM R i=nv:=by unfold lM;rw[e];rfl
 exact⟨xv,nv,e,hP.own h1 (λb hb=>hn b ⟨i,hi,.inl (by rw[e1];exact hb)⟩),hP.own h2 (λb hb=>hn b ⟨i,hi,.inr (by rw[e2];exact hb)⟩)⟩⟩
theorem qg6{v:Value}{X Y:World}(hg:X.grownBy Y v.ownBlock):OnlyP (λb=>v.ownBlock=some b) X Y:=⟨hg.os,hg.tape,hg.output,hg.size,λq hq hn=>hg.block q hq (λe=>hn e.symm)⟩
theorem tM{X:World}{B:Nat}{v:Value}{n:Nat}{xs:List Value}(h:X.ownsRow B 3 1 v n xs){H:Nat}{cs:Array Value}(hb:X.heap[H]? =some (.cells cs 46 (0,0))):∀b,v.ownBlock=some b→b≠H:=λb e e2=>qh6 h hb (by decide) (by rw[e,e2])
theorem qd3{X:World}{B:Nat}{v:Value}{n:Nat}{xs:List Value}(h:X.ownsRow B 44 4 v n xs){H:Nat}{cs:Array Value}(hb:X.heap[H]? =some (.cells cs 46 (0,0))):∀b,v.ownBlock=some b→b≠H:=λb e e2=>qh6 h hb (by decide) (by rw[e,e2])
theorem ApT.updL{lv sv rv bx bn v':Value}{xv nv:Nat→Value}{n N:Nat}(h:ApT lv sv rv bx bn xv nv n)(hf:∀b,v'.ownBlock=some b→lv.ownBlock=some b∨N≤b)(hlt:∀b,(sv.ownBlock=some b∨bx.ownBlock=some b∨bn.ownBlock=some b)∨(rv.ownBlock=some b∨qa3 xv nv n b)→b<N):ApT v' sv rv bx bn xv nv n:=by
 have off:∀{u:Value},Off lv u→(∀b,u.ownBlock=some b→b<N)→Off v' u:=λho hl b e e2=>by
  rcases hf b e with h1|h1
  ·exact ho b h1 e2
  ·have:=hl b e2;omega
 refine⟨off h.ls (λb e=>hlt b (.inl (.inl e))),off h.lx (λb e=>hlt b (.inl (.inr (.inl e)))),off h.ln (λb e=>hlt b (.inl (.inr (.inr e)))),h.sx,h.sn,h.xn,λb e hi=>?_,h.row⟩;rcases e with e|e
 ·rcases hf b e with h1|h1
  ·exact h.inn b (.inl h1) hi
  ·have:=hlt b (.inr hi);omega
 ·exact h.inn b (.inr e) hi
theorem ApT.updS{lv sv rv bx bn v':Value}{xv nv:Nat→Value}{n N:Nat}(h:ApT lv sv rv bx bn xv nv n)(hf:∀b,v'.ownBlock=some b→sv.ownBlock=some b∨N≤b)(hlt:∀b,(lv.ownBlock=some b∨bx.ownBlock=some b∨bn.ownBlock=some b)∨(rv.ownBlock=some b∨qa3 xv nv n b)→b<N):ApT lv v' rv bx bn xv nv n:=by
 have off:∀{u:Value},Off sv u→(∀b,u.ownBlock=some b→b<N)→Off v' u:=λho hl b e e2=>by
  rcases hf b e with h1|h1
  ·exact ho b h1 e2
  ·have:=hl b e2;omega
 refine⟨λb e e2=>?_,h.lx,h.ln,off h.sx (λb e=>hlt b (.inl (.inr (.inl e)))),off h.sn (λb e=>hlt b (.inl (.inr (.inr e)))),h.xn,λb e hi=>?_,h.row⟩
 ·rcases hf b e2 with h1|h1
  ·exact h.ls b e h1
  ·have:=hlt b (.inl (.inl e));omega
 ·rcases e with e|e|e
  ·exact h.inn b (.inl e) hi
  ·rcases hf b e with h1|h1
   ·exact h.inn b (.inr (.inl h1)) hi
   ·have:=hlt b (.inr hi);omega
  ·exact h.inn b (.inr (.inr e)) hi
theorem qzE(R:List (List Value))(c:List Value)(i:Nat):pT (R++[c]) i=if i<R.length then pT R i else if i=R.length then c.getD 1 undef else undef:=by
 unfold pT;rw[qg5];split
 ·rfl
 ·split
  ·rfl
  ·rfl
theorem qx5(R:List (List Value))(c:List Value)(i:Nat):lM (R++[c]) i=if i<R.length then lM R i else if i=R.length then c.getD 2 undef else undef:=by
 unfold lM;rw[qg5];split
 ·rfl
 ·split
  ·rfl
  ·rfl
theorem ApT.updR{lv sv rv bx bn r':Value}{R:List (List Value)}{c:List Value}{n N:Nat}(h:ApT lv sv rv bx bn (pT R) (lM R) n)(hR:R.length=n)(hrow:∀b,qdS lv sv bx bn b→r'.ownBlock≠some b)(hx:∀b,((c.getD 1 undef).ownBlock=some b∨(c.getD 2 undef).ownBlock=some b)→N≤b)(hne:Off (c.getD 1 undef) (c.getD 2 undef))(hlt:∀b,qdS lv sv bx bn b∨qa3 (pT R) (lM R) n b→b<N):ApT lv sv r' bx bn (pT (R++[c])) (lM (R++[c])) (n+1):=by
 have xo:∀i,i<n→pT (R++[c]) i=pT R i:=λi hi=>by rw[qzE,if_pos (by omega)]
 have no:∀i,i<n→lM (R++[c]) i=lM R i:=λi hi=>by rw[qx5,if_pos (by omega)]
 have xn:pT (R++[c]) n=c.getD 1 undef:=by rw[qzE,if_neg (by omega),if_pos hR.symm]
 have nn:lM (R++[c]) n=c.getD 2 undef:=by rw[qx5,if_neg (by omega),if_pos hR.symm]
 refine⟨h.ls,h.lx,h.ln,h.sx,h.sn,h.xn,λb e hi=>?_,λi j hi hj=>?_⟩
 ·rcases hi with hi|⟨i,hi,e2⟩
  ·exact hrow b e hi
  ·by_cases hin:i<n
   ·rw[xo i hin,no i hin]at e2
    exact h.inn b e (.inr ⟨i,hin,e2⟩)
   ·obtain rfl:i=n:=by omega
    rw[xn,nn]at e2;have:=hx b e2;have:=hlt b (.inl e);omega
 ·by_cases hi':i<n
  ·by_cases hj':j<n
   ·rw[xo i hi',no j hj',xo j hj',no i hi']
    exact h.row i j hi' hj'
   ·obtain rfl:j=n:=by omega
    rw[xo i hi',nn,xn,no i hi'];have old:∀b,((pT R i).ownBlock=some b∨(lM R i).ownBlock=some b)→b<N:=λb e=>hlt b (.inr ⟨i,hi',e⟩);exact⟨λb e e2=>by have:=old b (.inl e);have:=hx b (.inr e2);omega,λ_=>⟨λb e e2=>by have:=old b (.inl e);have:=hx b (.inl e2);omega,λb e e2=>by have:=old b (.inr e);have:=hx b (.inr e2);omega⟩⟩
  ·obtain rfl:i=n:=by omega
   by_cases hj':j<i
   ·rw[xn,nn,no j hj',xo j hj']
    have old:∀b,((pT R j).ownBlock=some b∨(lM R j).ownBlock=some b)→b<N:=λb e=>hlt b (.inr ⟨j,hj',e⟩);exact⟨λb e e2=>by have:=old b (.inr e2);have:=hx b (.inl e);omega,λ_=>⟨λb e e2=>by have:=old b (.inl e2);have:=hx b (.inl e);omega,λb e e2=>by have:=old b (.inr e2);have:=hx b (.inr e);omega⟩⟩
   ·obtain rfl:j=i:=by omega
    rw[xn,nn];exact⟨hne,λh=>absurd rfl h⟩
end Go.Proofs.YtiimkhepplkocaaGreat
namespace Go.Proofs.YtiimkhepplkocaaGreat
open Go.RowKit Go.Sort
set_option linter.unusedVariables false
attribute [local go_sem ↓] Go.wp_at_zero Go.wp_at_succ
theorem OnlyP.toBelow{P:Nat→Prop}{B:Nat}{X Y:World}(h:OnlyP P X Y)(hP:∀b,P b→B≤b)(hB:B≤X.heap.size):Below B X Y:=⟨h.os,h.tape,h.output,h.size,λk hk=>h.block k (by omega) (λe=>by have:=hP k e;omega)⟩
section
variable {w:World} {HB:Nat} {d:TbD} {lv sv rv bx bn:Value} {R:List (List Value)} {X Z:World} {v':Value} {x:Nat}
theorem TbI.inner(h:TbI w HB d lv sv rv bx bn R X):∀b,qa3 (pT R) (lM R) d.rw.length b→w.heap.size≤b∧b<X.heap.size:=by
 rintro b ⟨i,hi,e|e⟩
 ·exact(h.ri.vals hi).1.lt b e
 ·exact(h.ri.vals hi).2.lt b e
theorem TbI.innerBox(h:TbI w HB d lv sv rv bx bn R X):∀b,qa3 (pT R) (lM R) d.rw.length b→b≠HB:=by
 rintro b ⟨i,hi,e|e⟩
 ·exact tM (h.ri.vals hi).1 h.box b e
 ·exact tM (h.ri.vals hi).2 h.box b e
theorem TbI.addL(h:TbI w HB d lv sv rv bx bn R X)(hg:X.grownBy Z lv.ownBlock)(ho:Z.ownsRow w.heap.size 3 1 v' (d.lv.length+1) (aG (d.lv++[x])))(hat:∀b,v'.ownBlock=some b→lv.ownBlock=some b∨X.heap.size≤b):TbI w HB ⟨d.sg,d.lv++[x],d.st,d.rw,d.bt⟩ v' sv rv bx bn R (Z.setCell ⟨HB,1,none⟩ v'):=by
 have gP:=qg6 hg;have boxZ:=(gP.block HB (lt_of_block h.box) (λe=>tM h.l h.box HB e rfl)).trans h.box;have sP:OnlyP (λb=>b=HB) Z (Z.setCell ⟨HB,1,none⟩ v'):=OnlyP.set _ rfl;have keepI:∀{u:Value} {n:Nat} {xs:List Value},X.ownsRow w.heap.size 3 1 u n xs→(∀b,u.ownBlock=some b→lv.ownBlock≠some b)→(Z.setCell ⟨HB,1,none⟩ v').ownsRow w.heap.size 3 1 u n xs:=λhu hoff=>
  sP.own (gP.own hu (λb e e2=>hoff b e e2)) (λb e=>tM hu h.box b e)
 have lt:=h.inner;refine⟨(h.bel.trans (gP.toBelow (λb e=>(h.l.lt b e).1) h.bel.size)).setCell h.hB _,by rw[heap_setCell_same Z HB 1 _ _ _ boxZ];rfl,h.hB,sP.own (by simpa using ho) (λb e=>tM ho boxZ b e),keepI h.s (λb e e2=>h.ap.ls b e2 e),keepI h.x (λb e e2=>h.ap.lx b e2 e),keepI h.n (λb e e2=>h.ap.ln b e2 e),(h.ri.keep gP (λb hi e=>h.ap.inn b (.inl e) (.inr hi))).keep sP (λb hi=>h.innerBox b hi),sP.own (gP.own h.ro (λb e e2=>h.ap.inn b (.inl e2) (.inl e))) (λb e=>qd3 h.ro h.box b e),h.ap.updL (N:=X.heap.size) hat (λb e=>by
  rcases e with(e|e|e)|(e|e)
  ·exact(h.s.lt b e).2
  ·exact(h.x.lt b e).2
  ·exact(h.n.lt b e).2
  ·exact(h.ro.lt b e).2
  ·exact(lt b e).2)⟩
theorem TbI.addS(h:TbI w HB d lv sv rv bx bn R X)(hg:X.grownBy Z sv.ownBlock)(ho:Z.ownsRow w.heap.size 3 1 v' (d.st.length+1) (aG (d.st++[x])))(hat:∀b,v'.ownBlock=some b→sv.ownBlock=some b∨X.heap.size≤b):TbI w HB ⟨d.sg,d.lv,d.st++[x],d.rw,d.bt⟩ lv v' rv bx bn R (Z.setCell ⟨HB,2,none⟩ v'):=by
 have gP:=qg6 hg;have boxZ:=(gP.block HB (lt_of_block h.box) (λe=>tM h.s h.box HB e rfl)).trans h.box;have sP:OnlyP (λb=>b=HB) Z (Z.setCell ⟨HB,2,none⟩ v'):=OnlyP.set _ rfl;have keepI:∀{u:Value} {n:Nat} {xs:List Value},X.ownsRow w.heap.size 3 1 u n xs→(∀b,u.ownBlock=some b→sv.ownBlock≠some b)→(Z.setCell ⟨HB,2,none⟩ v').ownsRow w.heap.size 3 1 u n xs:=λhu hoff=>
  sP.own (gP.own hu (λb e e2=>hoff b e e2)) (λb e=>tM hu h.box b e)
 have lt:=h.inner;refine⟨(h.bel.trans (gP.toBelow (λb e=>(h.s.lt b e).1) h.bel.size)).setCell h.hB _,by rw[heap_setCell_same Z HB 2 _ _ _ boxZ];rfl,h.hB,keepI h.l (λb e e2=>h.ap.ls b e e2),sP.own (by simpa using ho) (λb e=>tM ho boxZ b e),keepI h.x (λb e e2=>h.ap.sx b e2 e),keepI h.n (λb e e2=>h.ap.sn b e2 e),(h.ri.keep gP (λb hi e=>h.ap.inn b (.inr (.inl e)) (.inr hi))).keep sP (λb hi=>h.innerBox b hi),sP.own (gP.own h.ro (λb e e2=>h.ap.inn b (.inr (.inl e2)) (.inl e))) (λb e=>qd3 h.ro h.box b e),h.ap.updS (N:=X.heap.size) hat (λb e=>by
  rcases e with(e|e|e)|(e|e)
  ·exact(h.l.lt b e).2
  ·exact(h.x.lt b e).2
  ·exact(h.n.lt b e).2
  ·exact(h.ro.lt b e).2
  ·exact(lt b e).2)⟩
theorem TbI.addR{r':Value}{t:RwD}{c:List Value}{N:Nat}(h:TbI w HB d lv sv rv bx bn R X)(hN:∀b,qdS lv sv bx bn b∨qa3 (pT R) (lM R) d.rw.length b→b<N)(hc:RowIn X w.heap.size t c)(hx:∀b,((c.getD 1 undef).ownBlock=some b∨(c.getD 2 undef).ownBlock=some b)→N≤b)(hne:Off (c.getD 1 undef) (c.getD 2 undef))(hg:X.grownBy Z rv.ownBlock)(ho:Z.ownsRow w.heap.size 44 4 r' (d.rw.length+1) (R.flatten++c)):TbI w HB ⟨d.sg,d.lv,d.st,d.rw++[t],d.bt⟩ lv sv r' bx bn (R++[c]) (Z.setCell ⟨HB,3,none⟩ r'):=by
 have gP:=qg6 hg;have boxZ:=(gP.block HB (lt_of_block h.box) (λe=>qd3 h.ro h.box HB e rfl)).trans h.box;have sP:OnlyP (λb=>b=HB) Z (Z.setCell ⟨HB,3,none⟩ r'):=OnlyP.set _ rfl;have keepI:∀{u:Value} {n:Nat} {xs:List Value},X.ownsRow w.heap.size 3 1 u n xs→(Z.setCell ⟨HB,3,none⟩ r').ownsRow w.heap.size 3 1 u n xs:=λhu=>
  sP.own (gP.own hu (λb e e2=>qhF hu h.ro b e e2)) (λb e=>tM hu h.box b e)
 have ri':RowsIn (Z.setCell ⟨HB,3,none⟩ r') w.heap.size d.rw R:=(h.ri.keep gP (λb hi e=>by
  obtain⟨i,hi,e2|e2⟩:=hi
  ·exact qhF (h.ri.vals hi).1 h.ro b e2 e
  ·exact qhF (h.ri.vals hi).2 h.ro b e2 e)).keep sP (λb hi=>h.innerBox b hi)
 have hc':RowIn (Z.setCell ⟨HB,3,none⟩ r') w.heap.size t c:=by
  obtain⟨xv,nv,e,o1,o2⟩:=hc;exact⟨xv,nv,e,keepI o1,keepI o2⟩
 have hrow:∀b,qdS lv sv bx bn b→r'.ownBlock≠some b:=λb e e2=>by
  have own:∀{u:Value} {n:Nat} {xs:List Value},X.ownsRow w.heap.size 3 1 u n xs→u.ownBlock=some b→False:=λhu e3=>by
   have hz:=gP.own hu (λb e e2=>qhF hu h.ro b e e2);exact qhF hz ho b e3 e2
  rcases e with e|e|e|e
  ·exact own h.l e
  ·exact own h.s e
  ·exact own h.x e
  ·exact own h.n e
 refine⟨(h.bel.trans (gP.toBelow (λb e=>(h.ro.lt b e).1) h.bel.size)).setCell h.hB _,by rw[heap_setCell_same Z HB 3 _ _ _ boxZ];rfl,h.hB,keepI h.l,keepI h.s,keepI h.x,keepI h.n,⟨by simp[h.ri.1],λi hi=>?_⟩,sP.own (by simpa using ho) (λb e=>qd3 ho boxZ b e),by simpa using h.ap.updR h.ri.1 hrow hx hne hN⟩
 ·rw[qg5,qg5,h.ri.1]
  by_cases hl:i<d.rw.length
  ·rw[if_pos hl,if_pos hl];exact ri'.2 i hl
  ·obtain rfl:i=d.rw.length:=by simp at hi;omega
   rw[if_neg hl,if_neg hl,if_pos rfl,if_pos rfl];exact hc'
end
end Go.Proofs.YtiimkhepplkocaaGreat
namespace Go.Proofs.YtiimkhepplkocaaGreat
open Go.RowKit Go.Sort
set_option linter.unusedVariables false
attribute [local go_sem ↓] Go.wp_at_zero Go.wp_at_succ
theorem qiB{ss:List StD}{ts:List TrD}{l:aE}(hC:Chk ss ts l){leaf:Nat}(hl:leaf<ss.length)(sg:Int):(iD ss ts leaf sg).length≤100000:=by
 unfold iD;rw[List.length_map];have h1:=qg3 ts sg (up ss leaf);have h2:=pS hC.good.tree leaf hl;have h3:=hC.good.n2;have h4:=hC.good.tn;have h5:=Nat.mul_le_mul (show(up ss leaf).length≤200 by omega) h4;omega
theorem qjC{C:List (List RwD)}{m:Nat}(h:∀c,c∈C→c.length≤m):C.flatten.length≤C.length*m:=by
 induction C with
 |nil=>simp
 |cons x r ih=>
  have h1:=h x (by simp);have h2:=ih (λc hc=>h c (by simp[hc]));rw[List.flatten_cons,List.length_append,List.length_cons,Nat.succ_mul];omega
theorem qi2{ss:List StD}{ts:List TrD}{l:aE}(hC:Chk ss ts l){sg:Nat}{L:List Nat}(hL:∀x,x∈L→x<ss.length):∀c,c∈cA ss ts sg L→c.length≤100000:=by
 intro c hc;unfold cA at hc;simp only[List.mem_flatMap,List.mem_map,List.mem_range]at hc;obtain⟨x,hx,s,hs,rfl⟩:=hc;exact qiB hC (hL x hx) _
theorem qdT(ss:List StD)(ts:List TrD)(sg:Nat)(L:List Nat):(cA ss ts sg L).length=L.length*sg:=by
 unfold cA
 induction L with
 |nil=>simp
 |cons x r ih=>rw[List.flatMap_cons,List.length_append,ih,List.length_map,List.length_range,List.length_cons,Nat.succ_mul];omega
theorem qh1(ss:List StD)(n:Nat):∀x,x∈cC ss n→x<n:=by
 intro x hx;unfold cC at hx;exact List.mem_range.1 (List.mem_filter.1 hx).1
theorem qbA(ss:List StD)(n:Nat):(cC ss n).length≤n:=by
 unfold cC;have:=List.length_filter_le (λi=>decide (ini ss i<0)) (List.range n);simpa using this
theorem qbG(C:List (List RwD)):(stB C).length=C.length:=by simp[stB]
def cM(ss:List StD)(ts:List TrD)(sg:Nat):TbD:=⟨(sg:Int),cC ss ss.length,dR (cA ss ts sg (cC ss ss.length)),(cA ss ts sg (cC ss ss.length)).flatten,⟨-1,[],bR ss,(dD ss:Nat)⟩⟩
def cU(ss:List StD)(ts:List TrD)(sg:Nat)(Lv:List Nat)(C:List (List RwD))(m:List RwD):TbD:=⟨(sg:Int),Lv,dR C,C.flatten++m,⟨-1,[],bR ss,(dD ss:Nat)⟩⟩
theorem qyO{w w' X:World}{B:Nat}{tr nx:Int}{ge ce gn cn:Nat}{ex en:List Nat}(h1:bO w w' (.slice (some ⟨ge,0,none⟩) ex.length ce) ex)(h2:bO w w' (.slice (some ⟨gn,0,none⟩) en.length cn) en)(hb:Below w'.heap.size w' X)(hB:B≤w.heap.size):RowIn X B ⟨tr,ex,en,nx⟩ [.int .i64 tr,.slice (some ⟨ge,0,none⟩) ex.length ce,.slice (some ⟨gn,0,none⟩) en.length cn,.int .i64 nx]:=
 ⟨_,_,rfl,aI (aM h1 hB) hb,aI (aM h2 hB) hb⟩
theorem qGZ{X Z:World}{B C HB o:Nat}{v rv u:Value}{n m:Nat}{xs ys:List Value}{cs:Array Value}(h:X.ownsRow B 120 6 v n xs)(hro:X.ownsRow C 44 4 rv m ys)(hg:X.grownBy Z rv.ownBlock)(hb:X.heap[HB]? =some (.cells cs 46 (0,0))):(Z.setCell ⟨HB,o,none⟩ u).ownsRow B 120 6 v n xs:=by
 have gP:=qg6 hg;have hz:=gP.own h (λb e e2=>by obtain⟨ds,hd⟩:=qjT h b e;exact qh6 hro hd (by decide) e2);exact(OnlyP.set (P:=λb=>b=HB) u rfl).own hz (λb e e2=>by rw[e2]at e;exact qh6 h hb (by decide) e)
theorem qy3{ss:List StD}{ts:List TrD}{leaf:Nat}{K:List Nat}{a:Nat}(h:a<K.length):(K.map (bD ss ts leaf)).take (a+1)=(K.map (bD ss ts leaf)).take a++[bD ss ts leaf (K.getD a 0)]:=by
 rw[←List.map_take,←List.map_take,qp2 h,List.map_append];rfl
theorem qyJ{α:Type}(f:Nat→α)(j:Nat):(List.range (j+1)).map f=(List.range j).map f++[f j]:=by rw[List.range_succ,List.map_append];rfl
theorem qw5:(Tryz.prog.info? 44).map (λi=>(i.zero,i.size,i.bytes))=some (some (.agg #[.int .i64 0,.slice none 0 0,.slice none 0 0,.int .i64 0]),4,64):=by kernel_rfl
end Go.Proofs.YtiimkhepplkocaaGreat
