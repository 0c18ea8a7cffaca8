import Derived.Test.YtiimkhepplkocaaGreatTc
import Derived.Test.YtiimkhepplkocaaGreatZj
import Derived.Test.YtiimkhepplkocaaGreatZg
set_option maxRecDepth 100000
set_option maxHeartbeats 16000000
namespace Go.Proofs.YtiimkhepplkocaaGreat
open Go.RowKit Go.Sort
set_option linter.unusedVariables false
attribute [local go_sem ↓] Go.wp_at_zero Go.wp_at_succ
def uF(sg:Nat)(Lv:List Nat)(C:List (List RwD)):TbD:=⟨(sg:Int),Lv,stB C,C.flatten,rw0⟩
def pV(sg:Nat)(Lv:List Nat)(C:List (List RwD))(m:List RwD):TbD:=⟨(sg:Int),Lv,dR C,C.flatten++m,rw0⟩
theorem qn3{lv v':Value}{g n cap N H:Nat}(hv:v'=.slice (some ⟨g,0,none⟩) n cap)(hat:lv.ownBlock=some g∨g=H)(hH:N≤H):∀b,v'.ownBlock=some b→lv.ownBlock=some b∨N≤b:=λb e=>by
 subst hv;simp[Value.ownBlock]at e;subst e;rcases hat with h|h
 ·exact .inl h
 ·exact .inr (by omega)
theorem qEP{X Z:World}{B C HB o:Nat}{v rv u:Value}{n m:Nat}{xs ys:List Value}{cs:Array Value}(h:X.ownsRow B 3 1 v n xs)(hro:X.ownsRow C 44 4 rv m ys)(hg:X.grownBy Z rv.ownBlock)(hb:X.heap[HB]? =some (.cells cs 46 (0,0))):(Z.setCell ⟨HB,o,none⟩ u).ownsRow B 3 1 v n xs:=by
 have gP:=qg6 hg;have hz:=gP.own h (λb e e2=>qhF h hro b e e2);exact(OnlyP.set (P:=λb=>b=HB) u rfl).own hz (λb e=>tM h hb b e)
abbrev qiD(X:World)(r:Nat)(e f g i:Value):World:=(((X.setCell ⟨r,4,none⟩ e).setCell ⟨r,5,none⟩ f).setCell ⟨r,6,none⟩ g).setCell ⟨r,7,none⟩ i
theorem qHH{X:World}{r:Nat}{e f g i:Value}:OnlyP (λq=>q=r) X (qiD X r e f g i):=
 have s:∀{Y:World} {o:Nat} {u:Value},OnlyP (λq=>q=r) Y (Y.setCell ⟨r,o,none⟩ u):=OnlyP.set _ rfl
 ((s.trans s).trans s).trans s
theorem qIA{X:World}{r:Nat}{e f g i x0 x1 x2 x3 x4 x5 x6 x7:Value}{t:TypeId}(h:X.heap[r]? =some (.cells #[x0,x1,x2,x3,x4,x5,x6,x7] t (0,0))):(qiD X r e f g i).heap[r]? =some (.cells #[x0,x1,x2,x3,e,f,g,i] t (0,0)):=by
 have m5:=heap_setCell_same X r 4 _ _ e h;have m6:=heap_setCell_same _ r 5 _ _ f m5;have m7:=heap_setCell_same _ r 6 _ _ g m6;have m8:=heap_setCell_same _ r 7 _ _ i m7;rw[m8];simp
section
variable {w:World} {HB:Nat} {d:TbD} {lv sv rv bx bn:Value} {R:List (List Value)} {X Y:World} {P:Nat→Prop}
abbrev TbB(d:TbD)(lv sv rv bx bn:Value)(R:List (List Value))(b:Nat):Prop:=qdS lv sv bx bn b∨rv.ownBlock=some b∨qa3 (pT R) (lM R) d.rw.length b
theorem TbI.lt(h:TbI w HB d lv sv rv bx bn R X):∀b,TbB d lv sv rv bx bn R b→b<X.heap.size:=by
 rintro b ((e|e|e|e)|e|e)
 ·exact(h.l.lt b e).2
 ·exact(h.s.lt b e).2
 ·exact(h.x.lt b e).2
 ·exact(h.n.lt b e).2
 ·exact(h.ro.lt b e).2
 ·exact(h.inner b e).2
theorem TbI.keep(h:TbI w HB d lv sv rv bx bn R X)(hP:OnlyP P X Y)(h0:∀b,P b→w.heap.size≤b)(hB:¬P HB)(hn:∀b,TbB d lv sv rv bx bn R b→¬P b):TbI w HB d lv sv rv bx bn R Y:=
 ⟨h.bel.trans (hP.toBelow h0 h.bel.size),(hP.block HB (lt_of_block h.box) hB).trans h.box,h.hB,hP.own h.l (λb e=>hn b (.inl (.inl e))),hP.own h.s (λb e=>hn b (.inl (.inr (.inl e)))),hP.own h.x (λb e=>hn b (.inl (.inr (.inr (.inl e))))),hP.own h.n (λb e=>hn b (.inl (.inr (.inr (.inr e))))),h.ri.keep hP (λb hi=>hn b (.inr (.inr hi))),hP.own h.ro (λb e=>hn b (.inr (.inl e))),h.ap⟩
theorem TbI.boot{N:Nat}{v':Value}{L:List Nat}{tr nx:Int}(h:TbI w HB d lv sv rv bx bn R X)(hlt:∀b,TbB d lv sv rv bx bn R b→b<N)(hN:w.heap.size≤N)(ho:X.ownsRow N 3 1 v' L.length (aG L)):TbI w HB ⟨d.sg,d.lv,d.st,d.rw,⟨tr,[],L,nx⟩⟩ lv sv rv (.slice none 0 0) v' R (qiD X HB (.int .i64 tr) (.slice none 0 0) v' (.int .i64 nx)):=by
 have hP:OnlyP (λq=>q=HB) X (qiD X HB (.int .i64 tr) (.slice none 0 0) v' (.int .i64 nx)):=qHH;have iB:∀{u:Value} {B n:Nat} {xs:List Value},X.ownsRow B 3 1 u n xs→∀b,u.ownBlock=some b→¬b=HB:=λhu b e=>tM hu h.box b e;have nv:∀b,v'.ownBlock=some b→N≤b:=λb e=>(ho.lt b e).1;refine⟨h.bel.trans (hP.toBelow (λb e=>by have:=h.hB;omega) h.bel.size),qIA h.box,h.hB,hP.own h.l (iB h.l),hP.own h.s (iB h.s),World.ownsRow_nil _ _ _ _,hP.own (aM ho hN) (iB ho),h.ri.keep hP (λb hi=>h.innerBox b hi),hP.own h.ro (λb e=>qd3 h.ro h.box b e),⟨h.ap.ls,λb e e2=>by simp[Value.ownBlock]at e2,λb e e2=>?_,λb e e2=>by simp[Value.ownBlock]at e2,λb e e2=>?_,λb e e2=>by simp[Value.ownBlock]at e,λb e hi=>?_,h.ap.row⟩⟩
 ·have:=nv b e2;have:=hlt b (.inl (.inl e));omega
 ·have:=nv b e2;have:=hlt b (.inl (.inr (.inl e)));omega
 ·rcases e with e|e|e|e
  ·exact h.ap.inn b (.inl e) hi
  ·exact h.ap.inn b (.inr (.inl e)) hi
  ·simp[Value.ownBlock]at e
  ·have:=nv b e;have:=hlt b (.inr hi);omega
theorem RowsIn.base{X:World}{B C:Nat}{ds:List RwD}{R:List (List Value)}(h:RowsIn X B ds R)(hb:C≤B):RowsIn X C ds R:=⟨h.1,λi hi=>by
 obtain⟨xv,nv,e,h1,h2⟩:=h.2 i hi;exact⟨xv,nv,e,aM h1 hb,aM h2 hb⟩⟩
end
theorem qHV{ss:List StD}{ts:List TrD}{l:aE}(hC:Chk ss ts l)(so tq:Option Addr)(n sc tn tc:Nat)(htn:ts.length=tn){leaf:Nat}(hl:leaf<n){q:Nat}(h:Way ss ts leaf q)(w:World)(hs:StatesOf w so n ss)(ht:TransOf w tq tn ts):
  Calls Tryz.prog 51 #[.agg #[.slice so n sc,.slice tq tn tc],.int .i64 leaf,.int .i64 q] w λe w'=>∃ge ce gn cn,e=.returned (.tuple #[.slice (some ⟨ge,0,none⟩) (exX ss leaf (ts.getD q tr0)).length ce,.slice (some ⟨gn,0,none⟩) (enX ss (ts.getD q tr0)).length cn,.int .i64 (nxX ss leaf (ts.getD q tr0):Nat)])∧bO w w' (.slice (some ⟨ge,0,none⟩) (exX ss leaf (ts.getD q tr0)).length ce) (exX ss leaf (ts.getD q tr0))∧bO w w' (.slice (some ⟨gn,0,none⟩) (enX ss (ts.getD q tr0)).length cn) (enX ss (ts.getD q tr0))∧ge≠gn∧Below w.heap.size w w':=by
 have h1:=hC.src q h.lt;have h2:=hC.tgt q h.lt;have hn:=hs.1;have G:=hC.good;have ht2:tn≤500:=by rw[←htn];exact G.tn
 have hq:q<tn:=by rw[←htn];exact h.lt
 by_cases he:(ts.getD q tr0).target=-1
 ·have k:=qxL so tq n sc tn tc ts ht2 leaf q hq (by omega) w ht
  unfold exX enX nxX;rw[if_pos he,if_pos he,if_pos he];exact k.mono (by
   rintro e w' ⟨ge,gn,rfl,h1,h2,h3,h4⟩;exact⟨ge,0,gn,0,rfl,h1,h2,h3,h4⟩)
 ·have k:=qxM so tq n sc tn tc ss ts (by rw[←htn];exact G) leaf hl q hq (ts.getD q tr0).src.toNat (ts.getD q tr0).target.toNat (by omega) (by omega) (by omega) (by omega) h.src w hs ht
  unfold exX enX nxX;rw[if_neg he,if_neg he,if_neg he];exact k.mono (by
   rintro e w' ⟨ge,ce,gn,cn,rfl,h1,h2,h3,h4⟩;exact⟨ge,ce,gn,cn,rfl,h1,h2,h3,h4⟩)
structure Cr0 (w:World) (cx lx:Array Value) (X:World):Prop where
 bel:Below w.heap.size w X
 c:X.heap[w.heap.size]? =some (.cells cx 36 (0,0))
 l:X.heap[w.heap.size+1]? =some (.cells lx 40 (0,0))
 r:X.heap[w.heap.size+1+1]? =some (.cells #[.int .i64 0,.slice none 0 0,.slice none 0 0,.slice none 0 0,.int .i64 0,.slice none 0 0,.slice none 0 0,.int .i64 0] 46 (0,0))
theorem Cr0.below{w:World}{cx lx:Array Value}{X Y:World}(h:Cr0 w cx lx X)(hb:Below X.heap.size X Y):Cr0 w cx lx Y:=⟨h.bel.trans (hb.mono h.bel.size),aA h.c hb,aA h.l hb,aA h.r hb⟩
theorem qvW(w:World)(cx lx:Array Value):Cr0 w cx lx (((w.alloc (.cells cx 36)).alloc (.cells lx 40)).alloc (.cells #[.int .i64 0,.slice none 0 0,.slice none 0 0,.slice none 0 0,.int .i64 0,.slice none 0 0,.slice none 0 0,.int .i64 0] 46)):=by
 have h2:=heap_alloc_new (w.alloc (.cells cx 36)) (.cells lx 40);have h3:=heap_alloc_new ((w.alloc (.cells cx 36)).alloc (.cells lx 40)) (.cells #[.int .i64 0,.slice none 0 0,.slice none 0 0,.slice none 0 0,.int .i64 0,.slice none 0 0,.slice none 0 0,.int .i64 0] 46);simp only[World.size_alloc]at h2 h3;exact⟨yW _ _ _ _,aA (aA (heap_alloc_new w _) (aB _ _)) (aB _ _),aA h2 (aB _ _),h3⟩
theorem qKL(w:World)(sg:Int):TbI w w.heap.size ⟨sg,[],[],[],rw0⟩ (.slice none 0 0) (.slice none 0 0) (.slice none 0 0) (.slice none 0 0) (.slice none 0 0) [] (w.alloc (.cells #[.int .i64 sg,.slice none 0 0,.slice none 0 0,.slice none 0 0,.int .i64 0,.slice none 0 0,.slice none 0 0,.int .i64 0] 46)):=by
 have off:∀u:Value,Off (.slice none 0 0) u:=λu b e=>by simp[Value.ownBlock]at e
 refine⟨aB _ _,heap_alloc_new _ _,Nat.le_refl _,World.ownsRow_nil _ _ _ _,World.ownsRow_nil _ _ _ _,World.ownsRow_nil _ _ _ _,World.ownsRow_nil _ _ _ _,⟨rfl,λi hi=>absurd hi (by simp)⟩,World.ownsRow_nil _ _ _ _,⟨off _,off _,off _,off _,off _,off _,λb e=>?_,λi j hi=>absurd hi (by simp)⟩⟩;rcases e with e|e|e|e<;>simp[Value.ownBlock]at e
end Go.Proofs.YtiimkhepplkocaaGreat
namespace Go.Proofs.YtiimkhepplkocaaGreat
open Go.RowKit Go.Sort
set_option linter.unusedVariables false
attribute [local go_sem ↓] Go.wp_at_zero Go.wp_at_succ
theorem qI6(so tq:Option Addr)(n sc tn tc:Nat)(ss:List StD)(ts:List TrD)(o s t v:Int)(w:World)(hn:n≤9223372036854775807)(htn:tn≤9223372036854775807)(hs:StatesOf w so n ss)(ht:TransOf w tq tn ts)(hc:(bJ ss ts ⟨o,s,t,v⟩).1=0):
  Calls Tryz.prog 11 #[.agg #[.slice so n sc,.slice tq tn tc],.agg #[.int .i64 o,.int .i64 s,.int .i64 t,.int .i64 v]] w λe w'=>∃lv sv rv bx bn R HB w1,e=.returned (zB (cM ss ts s.toNat) lv sv rv bx bn)∧w.heap.size≤w1.heap.size∧(∃X,TbI w1 HB (cM ss ts s.toNat) lv sv rv bx bn R X∧OnlyP (λb=>b=w.heap.size+1+1) X w'∧w.heap.size+1+1<w1.heap.size)∧Below w.heap.size w w':=by
 have hC:=yI hc;have HL:=hid hs.1;have TL:=hid ht.1;have EN:=hid (qvW w #[.slice so n sc,.slice tq tn tc] #[.int .i64 o,.int .i64 s,.int .i64 t,.int .i64 v]);have C:=hid (qpX so tq n sc tn tc ss ts o s t v _ hn htn (hs.below EN.out.bel) (ht.below EN.out.bel));obtain⟨f1,hf1⟩:∃f,f=(bJ ss ts ⟨o,s,t,v⟩).2:=⟨_,rfl⟩;rw[hc,←hf1]at C;obtain⟨S,hS⟩:∃S:Nat,S=s.toNat:=⟨_,rfl⟩;have hlim:=hC.lim.2.1;have hsS:s=(S:Int):=by have:=hlim.1;simp only at this;omega
 have S64:S≤64:=by have:=hlim.2;simp only at this;omega
 rw[←hS];have HC:=hid hC;obtain⟨i0,hi0,hz0,hz1,hz2⟩:=info_parts Tryz.infoInt0;obtain⟨i1,hi1,hy0,hy1,hy2⟩:=info_parts qw5;subst hsS;have n2:n≤200:=by rw[←HL.out];exact hC.good.n2
 have HX:Hid (∀w',Below w.heap.size w w'→StatesOf w' so n ss∧TransOf w' tq tn ts):=hid (λw' h=>⟨hs.below h,ht.below h⟩);clear hs ht hc hlim hS hC hf1;go_enter Tryz.func11,Tryz.ntmps11;go_upto_region 5 with(go_at_call 48;refine C.out.mono ?_;rintro e w0 ⟨rfl,hb⟩;have B0:=hid (EN.out.below hb);obtain⟨l0,l1,l2,l3⟩:=aC B0.out.l;obtain⟨c0,c1⟩:=bL B0.out.c;clear hb);have T0:=hid (qKL w0 (S:Int));obtain⟨HB,hHB⟩:∃x,x=w0.heap.size:=⟨_,rfl⟩;obtain⟨W1,hW1⟩:∃x,x=w0.alloc (.cells #[.int .i64 (S:Int),.slice none 0 0,.slice none 0 0,.slice none 0 0,.int .i64 0,.slice none 0 0,.slice none 0 0,.int .i64 0] 46):=⟨_,rfl⟩;rw[←hW1]at T0⊢;rw[←hHB]at T0⊢;have cl9:=lt_of_block B0.out.c;have HBl:Hid (w0.heap.size≤HB):=hid (by omega);have BX:Hid (∀X,Below w0.heap.size w0 X→Cr0 w #[.slice so n sc,.slice tq tn tc] #[.int .i64 o,.int .i64 (S:Int),.int .i64 t,.int .i64 v] X):=hid (λX hb=>B0.out.below hb);have LI:Hid (∀k,k<ss.length→decide (¬bK ss ss.length k=[])=!(decide (ini ss k<0))):=hid (λk hk=>by rw[←qxP HC.out.good hk];by_cases e:bK ss ss.length k=[]<;>simp[e]);obtain⟨k0,k1⟩:=bL (BX.out _ T0.out.bel).c;clear hHB hW1 C c0 c1 l0 l1 l2 l3 cl9;go_wp2_with fail;go_loopg [33] n (λmm i X=>∃(k:Nat) (lv:Value),k≤n∧mm=n-k∧i=.int .i64 k∧TbI w0 HB (uF S (cC ss k) []) lv (.slice none 0 0) (.slice none 0 0) (.slice none 0 0) (.slice none 0 0) [] X)
 case atStart=>exact⟨0,_,by omega,by omega,rfl,by simpa[cC,uF,stB]using T0.out⟩
 case round=>
  obtain⟨k,lv,hk,rfl,rfl,hT⟩:=hrel;have TT:=hid hT;have X0:=BX.out _ hT.bel;obtain⟨c0,c1⟩:=bL X0.c;clear k0 k1 T0;by_cases hlt:k<n
  ·have hks:k<ss.length:=by rw[HL.out];exact hlt
   have ki:(k:Int)<(n:Int):=by omega
   have CH:=hid (qo8 so tq n sc tn tc ss k wr hn (HX.out _ X0.bel).1);rw[LI.out k hks]at CH;have LS:=hid (qxQ ss k);by_cases hlf:ini ss k<0
   case neg=>
    rw[decide_eq_false hlf]at CH;rw[if_neg hlf,List.append_nil]at LS;clear hT X0;go_wp2_with(go_at_call 49;refine CH.out.mono ?_;rintro e wa ⟨rfl,hb⟩;have T1:=hid (TT.out.below hb);clear hb);go_roundg(n-(k+1))
    case measure=>omega
    case rel=>exact⟨k+1,lv,by omega,rfl,by go_num,by rw[LS.out];exact T1.out⟩
   case pos=>
    rw[decide_eq_true hlf]at CH;rw[if_pos hlf]at LS;obtain⟨la,lc,hlv⟩:∃la lc,lv=.slice la (cC ss k).length lc:=aO hT.l;subst hlv;have LLn:Hid ((cC ss k).length≤200):=hid (by have:=qbA ss k;omega);obtain⟨Lv,hLv⟩:∃x,x=cC ss k:=⟨_,rfl⟩;rw[←hLv]at TT LLn LS;have ln2:Lv.length≤200:=LLn.out;have F63:Hid (Lv.length+1≤maxLen∧(Lv.length+1)*8≤140737488355328):=hid (by unfold maxLen;omega);clear hT X0 hLv;go_wp2_with(first
     |(go_at_call 49;refine CH.out.mono ?_;rintro e wa ⟨rfl,hb⟩;have T1:=hid (TT.out.below hb);obtain⟨x0',x1,x2,x3,x4,x5,x6,x7⟩:=dF T1.out.box;have hbl:=lt_of_block T1.out.box;have TA:=hid (T1.out.below (aB wa (.cells #[.int .i64 (k:Int)] 3)));have OLa:Hid ((wa.alloc (.cells #[.int .i64 (k:Int)] 3)).ownsRow w0.heap.size 3 1 (.slice la Lv.length lc) Lv.length (aG Lv)):=hid TA.out.l;have NW:=hid (World.news_of_block (heap_alloc_new wa (.cells #[.int .i64 (k:Int)] 3)));clear hb)
     |(at_builtin;refine wpList_append_lies _ rfl (.tmp 41) (.tmp 43) 30 rfl w0.heap.size 3 i0 _ 1 8 Tryz.underlying30 hi0 hz0 hz1 hz2 rfl (by decide) (.slice la Lv.length lc) Lv.length (aG Lv) rfl OLa.out ⟨wa.heap.size,0,none⟩ 1 1 [.int .i64 (k:Int)] rfl rfl NW.out (by intro u hu;simp at hu;subst hu;rfl) (by omega) F63.out.1 F63.out.2 TA.out.bel.size (wa.heap.size+1) (by simp) ?_))
    intro g3 cap3 w3 hown hgrow hat3 _;have X3:=(hgrow.block _ (lt_of_block TA.out.box) (λe=>tM OLa.out TA.out.box _ e.symm rfl)).trans TA.out.box;obtain⟨q0,q1,q2,q3,q4,q5,q6,q7⟩:=dF X3;have fr1:=frozen_of_row w3 HB 1 _ _ X3;have AL:=hid (TbI.addL (x:=k) TA.out hgrow (show w3.ownsRow w0.heap.size 3 1 (.slice (some ⟨g3,0,none⟩) (Lv.length+1) cap3) (Lv.length+1) (aG (Lv++[k])) by simpa[aG]using hown) (qn3 rfl hat3 (by simp)));clear hown hgrow hat3 X3;go_wp2_with fail;go_roundg(n-(k+1))
    case measure=>omega
    case rel=>exact⟨k+1,_,by omega,rfl,by go_num,by rw[LS.out];exact AL.out⟩
  ·obtain rfl:k=n:=by omega
   obtain⟨la,lc,hlv⟩:∃la lc,lv=.slice la (cC ss k).length lc:=aO hT.l;subst hlv;have LLn:Hid ((cC ss k).length≤200):=hid (by have:=qbA ss k;omega);have LM:=hid (qh1 ss k);obtain⟨Lv,hLv⟩:∃x,x=cC ss k:=⟨_,rfl⟩;have HLv:=hid hLv;rw[←hLv]at TT LLn LM;obtain⟨m2,hm2⟩:∃x,x=Lv.length:=⟨_,rfl⟩;have EM2:=hid hm2;rw[←hm2]at TT LLn;have m200:m2≤200:=LLn.out;obtain⟨x0',x1,x2,x3,x4,x5,x6,x7⟩:=dF TT.out.box;have hbl:=lt_of_block TT.out.box;clear hT X0 hLv hm2;go_wp2_with fail;go_loopg [50] m2 (λmm i X=>∃(p:Nat) (sv rv:Value) (R:List (List Value)),p≤m2∧mm=m2-p∧i=.int .i64 p∧TbI w0 HB (uF S Lv (cA ss ts S (Lv.take p))) (.slice la m2 lc) sv rv (.slice none 0 0) (.slice none 0 0) R X)
   case atStart=>exact⟨0,_,_,[],by omega,by omega,rfl,by simpa[cA]using TT.out⟩
   case round=>
    obtain⟨p,sv,rv,R,hp,rfl,rfl,hT⟩:=hrel;have T2:=hid hT;clear TT x0' x1 x2 x3 x4 x5 x6 x7 hbl c0 c1;by_cases hpl:p<m2
    ·have hpL:p<Lv.length:=by rw[←EM2.out];exact hpl
     obtain⟨gv,cap9,hgv,_,hgl⟩:=World.ownsRow.form hT.l (show 0<Lv.length by omega);obtain⟨f,hf⟩:∃f,f=Lv.getD p 0:=⟨_,rfl⟩;have hgv2:Value.slice la m2 lc=.slice (some ⟨gv,0,none⟩) Lv.length cap9:=hgv;simp only[Value.slice.injEq]at hgv2;obtain⟨rfl,hm9,rfl⟩:=hgv2;clear hm9;have cf:wr.cell? ⟨gv,p,none⟩=some (.int .i64 (f:Int)):=by
      have h1:wr.ownsRow w0.heap.size 3 1 (.slice (some ⟨gv,0,none⟩) m2 lc) m2 (aG Lv):=by have h:=hT.l;rw[show(uF S Lv (cA ss ts S (Lv.take p))).lv.length=m2 from EM2.out.symm]at h;exact h
      rw[World.ownsRow.cellAt h1 p (by omega),hf];simp[aG,hpL]
     have fm:f∈Lv:=by rw[hf,List.getD_eq_getElem?_getD,List.getElem?_eq_getElem hpL];simp
     have fk:f<k:=LM.out f fm;have hfs:f<ss.length:=by rw[HL.out];exact fk
     have TKs:Hid (cA ss ts S (Lv.take (p+1))=cA ss ts S (Lv.take p)++(List.range S).map (λ(s:Nat)=>iD ss ts f (s:Int))):=hid (by rw[qp2 hpL,qvM,hf]);obtain⟨C0,hC0⟩:∃x,x=cA ss ts S (Lv.take p):=⟨_,rfl⟩;have HC0:=hid hC0;rw[←hC0]at T2 TKs;have pi:(p:Int)<(m2:Int):=by omega
     clear hT hf hgv fm hC0;go_wp2_with fail;go_loopg [11] S (λmm i X=>∃(j:Nat) (sv rv:Value) (R:List (List Value)),j≤S∧mm=S-j∧i=.int .i64 j∧TbI w0 HB (uF S Lv (C0++(List.range j).map (λ(s:Nat)=>iD ss ts f (s:Int)))) (.slice (some ⟨gv,0,none⟩) m2 lc) sv rv (.slice none 0 0) (.slice none 0 0) R X)
     case atStart=>exact⟨0,_,_,_,by omega,by omega,rfl,by simpa using T2.out⟩
     case round=>
      obtain⟨j,sv,rv,R,hj,rfl,rfl,hT⟩:=hrel;have TJ:=hid hT;have X0:=BX.out _ hT.bel;obtain⟨l0,l1,l2,l3⟩:=aC X0.l;have ll:=lt_of_block X0.l;clear T2 cf;by_cases hjt:j<S
      ·obtain⟨K,hK⟩:∃K,K=aU ts (up ss f) (j:Int):=⟨_,rfl⟩
       have CC:=hid (λX (hb:Below w0.heap.size w0 X)=>qxK so tq k sc tn tc ss ts HC.out.good.tree n2 (by rw[←TL.out];exact HC.out.good.tn) f fk (j:Int) X (HX.out X (BX.out X hb).bel).1 (HX.out X (BX.out X hb).bel).2);have WY:=hid (λq (hq:q∈aU ts (up ss f) (j:Int))=>qc6 HC.out hfs hq);have RX:Hid (iD ss ts f (j:Int)=K.map (bD ss ts f)):=hid (by rw[hK];rfl);have RL:Hid (K.length≤100000):=hid (by have:=qiB HC.out hfs (j:Int);rw[RX.out,List.length_map]at this;exact this);rw[←hK]at CC WY;obtain⟨m,hm⟩:∃m,m=K.length:=⟨_,rfl⟩;have EM:=hid hm;rw[←hm]at CC RL;obtain⟨Cj,hCj⟩:∃x,x=C0++(List.range j).map (λ(s:Nat)=>iD ss ts f (s:Int)):=⟨_,rfl⟩;have HCj:=hid hCj;rw[←hCj]at TJ;have CjN:Hid (Cj.length≤200*64):=hid (by
        rw[hCj,List.length_append,List.length_map,List.length_range,HC0.out,qdT,List.length_take];have h4:min p Lv.length*S≤199*S:=Nat.mul_le_mul (by omega) (Nat.le_refl _);omega)
       have CjL:Hid (Cj.flatten.length≤1280000000):=hid (by
        have hmem:∀c,c∈Cj→c.length≤100000:=by
         intro c hc;rw[hCj]at hc;rcases List.mem_append.1 hc with h|h
         ·rw[HC0.out]at h
          exact qi2 HC.out (λx hx=>by have:=LM.out x (List.mem_of_mem_take hx);rw[HL.out];exact this) c h
         ·obtain⟨s,_,rfl⟩:=List.mem_map.1 h
          exact qiB HC.out hfs _
        have h1:=qjC hmem;have h3:=Nat.mul_le_mul CjN.out (Nat.le_refl 100000);omega)
       have JN:Hid (pV S Lv Cj (K.map (bD ss ts f))=uF S Lv (C0++(List.range (j+1)).map (λ(s:Nat)=>iD ss ts f (s:Int)))):=hid (by
        rw[qyJ,←List.append_assoc,←hCj,RX.out];simp only[pV,uF,dR,qyV,List.flatten_append,List.flatten_cons,List.flatten_nil,List.append_nil])
       obtain⟨DR,hDR⟩:∃x,x=Cj.flatten:=⟨_,rfl⟩;have HDR:=hid hDR;have DRl:DR.length≤1280000000:=by rw[hDR];exact CjL.out
       obtain⟨ra,rc,hrv⟩:∃ra rc,rv=.slice ra DR.length rc:=by rw[hDR];exact aO TJ.out.ro
       subst hrv;obtain⟨st,hst⟩:∃x,x=stB Cj:=⟨_,rfl⟩;have HST:=hid hst;have stl:st.length≤100000:=by rw[hst,qbG];have:=CjN.out;omega
       obtain⟨sa,sc2,hsv⟩:∃sa sc2,sv=.slice sa st.length sc2:=by rw[hst];exact aO TJ.out.s
       have TA:=hid (TJ.out.below (aB wr (.cells #[.int .i64 (DR.length:Int)] 3)));have OSa:Hid ((wr.alloc (.cells #[.int .i64 (DR.length:Int)] 3)).ownsRow w0.heap.size 3 1 (.slice sa st.length sc2) st.length (aG st)):=hid (by have h:=TA.out.s;rw[hsv,show(uF S Lv Cj).st=st from HST.out.symm]at h;exact h);have NW:=hid (World.news_of_block (heap_alloc_new wr (.cells #[.int .i64 (DR.length:Int)] 3)));obtain⟨x0',x1,x2,x3,x4,x5,x6,x7⟩:=dF TJ.out.box;have hbl:=lt_of_block TJ.out.box;have HSV:=hid hsv;rw[hsv]at x2;have ji:(j:Int)<(S:Int):=by omega
       clear hT hK hm hCj hDR hst hsv X0;go_wp2_with(at_builtin;refine wpList_append_lies _ rfl (.tmp 61) (.tmp 65) 30 rfl w0.heap.size 3 i0 _ 1 8 Tryz.underlying30 hi0 hz0 hz1 hz2 rfl (by decide) (.slice sa st.length sc2) st.length (aG st) rfl OSa.out ⟨wr.heap.size,0,none⟩ 1 1 [.int .i64 (DR.length:Int)] rfl rfl NW.out (by intro u hu;simp at hu;subst hu;rfl) (by omega) (by unfold maxLen;omega) (by omega) TA.out.bel.size (wr.heap.size+1) (by simp) ?_);intro g4 cap4 w4 hown hgrow hat4 _;have X4:=(hgrow.block _ (lt_of_block TA.out.box) (λe=>tM OSa.out TA.out.box _ e.symm rfl)).trans TA.out.box;obtain⟨q0,q1,q2,q3,q4,q5,q6,q7⟩:=dF X4;have fr2:=frozen_of_row w4 HB 2 _ _ X4;have AS:Hid (TbI w0 HB (pV S Lv Cj []) (.slice (some ⟨gv,0,none⟩) m2 lc) (.slice (some ⟨g4,0,none⟩) (st.length+1) cap4) (.slice ra DR.length rc) (.slice none 0 0) (.slice none 0 0) R (w4.setCell ⟨HB,2,none⟩ (.slice (some ⟨g4,0,none⟩) (st.length+1) cap4))):=hid (by
        have h:=TbI.addS (x:=DR.length) TA.out (by rw[HSV.out];exact hgrow) (show w4.ownsRow w0.heap.size 3 1 (.slice (some ⟨g4,0,none⟩) (st.length+1) cap4) ((uF S Lv Cj).st.length+1) (aG ((uF S Lv Cj).st++[DR.length])) by rw[show(uF S Lv Cj).st=st from HST.out.symm];simpa[aG]using hown) (by rw[HSV.out];exact qn3 rfl hat4 (by simp));simpa[pV,uF,dR,HDR.out]using h)
       clear hown hgrow hat4 X4 q0 q1 q3 q4 q5 q6 q7 x0' x1 x2 x3 x4 x5 x6 x7 l0 l1 l2 l3;go_upto_region 18 with fail;obtain⟨W,hW⟩:∃W,W=w4.setCell ⟨HB,2,none⟩ (.slice (some ⟨g4,0,none⟩) (st.length+1) cap4):=⟨_,rfl⟩;rw[←hW]at AS⊢;obtain⟨c0,c1⟩:=bL (BX.out _ AS.out.bel).c;clear hW q2 fr2 OSa TA NW hbl;go_wp2_with(go_at_call 50;refine(CC.out _ AS.out.bel).mono ?_;rintro e w5 ⟨gc,cc,rfl,ho,hb⟩;have T5:=hid (AS.out.below hb);have OM:Hid (w5.ownsRow w0.heap.size 3 1 (.slice (some ⟨gc,0,none⟩) m cc) m (aG K)):=hid (by have h:=aM ho AS.out.bel.size;rw[←EM.out]at h;exact h);clear ho hb);go_loopg [73] m (λmm i X=>∃(a:Nat) (rv:Value) (R:List (List Value)),a≤m∧mm=m-a∧i=.int .i64 a∧TbI w0 HB (pV S Lv Cj ((K.map (bD ss ts f)).take a)) (.slice (some ⟨gv,0,none⟩) m2 lc) (.slice (some ⟨g4,0,none⟩) (st.length+1) cap4) rv (.slice none 0 0) (.slice none 0 0) R X∧X.ownsRow w0.heap.size 3 1 (.slice (some ⟨gc,0,none⟩) m cc) m (aG K))
       case atStart=>exact⟨0,_,_,by omega,by omega,rfl,by simpa using T5.out,OM.out⟩
       case round=>
        obtain⟨a,rv,R,ha,rfl,rfl,hT,hO⟩:=hrel;have TT:=hid hT;have X0:=BX.out _ hT.bel;obtain⟨c0,c1⟩:=bL X0.c;by_cases hat:a<m
        ·obtain⟨q,hq⟩:∃q,q=K.getD a 0:=⟨_,rfl⟩
         have hak:a<K.length:=by rw[←EM.out];exact hat
         have hqm:q∈K:=by rw[hq,List.getD_eq_getElem?_getD,List.getElem?_eq_getElem hak];simp
         have cq:wr.cell? ⟨gc,a,none⟩=some (.int .i64 (q:Int)):=by
          rw[World.ownsRow.cellAt hO a (by omega),hq];simp[aG,hak]
         have gcl:gc<wr.heap.size:=(World.ownsRow.lt hO gc rfl).2;have WQ:=hid (WY.out q hqm);have CP:=hid (qHV HC.out so tq k sc tn tc TL.out fk WQ.out wr (HX.out _ X0.bel).1 (HX.out _ X0.bel).2);have TKa:Hid ((K.map (bD ss ts f)).take (a+1)=(K.map (bD ss ts f)).take a++[bD ss ts f q]):=hid (by rw[hq];exact qy3 hak);obtain⟨ex,hex⟩:∃x,x=exX ss f (ts.getD q tr0):=⟨_,rfl⟩;obtain⟨en,hen⟩:∃x,x=enX ss (ts.getD q tr0):=⟨_,rfl⟩;obtain⟨nx,hnx⟩:∃x,x=nxX ss f (ts.getD q tr0):=⟨_,rfl⟩;have RWX:Hid (bD ss ts f q=⟨(q:Int),ex,en,(nx:Nat)⟩):=hid (by rw[hex,hen,hnx];rfl);rw[←hex,←hen,←hnx]at CP;obtain⟨DQ,hDQ⟩:∃x,x=Cj.flatten++(K.map (bD ss ts f)).take a:=⟨_,rfl⟩;have HDQ:=hid hDQ;have DQl:DQ.length≤1280100000:=by
          rw[hDQ,List.length_append,List.length_take,List.length_map];have:=CjL.out;have:=RL.out;omega
         obtain⟨ra,rc,hrv⟩:∃ra rc,rv=.slice ra DQ.length rc:=by rw[hDQ];exact aO hT.ro
         subst hrv;have ai:(a:Int)<(m:Int):=by omega
         have a5:a≤100000:=by have:=RL.out;omega
         have F63:Hid (DQ.length+1≤maxLen∧(DQ.length+1)*64≤140737488355328):=hid (by unfold maxLen;omega);have OV:=hid hO;clear hT hO hq hqm hak X0 hex hen hnx hDQ;go_wp2_with(first
          |(go_at_call 51;refine CP.out.mono ?_;rintro e w6 ⟨ge,ce,gn,cn,rfl,o1,o2,hne,hb⟩;have T6:=hid (TT.out.below hb);have TA:=hid (T6.out.below (aB w6 (.cells #[.int .i64 (q:Int),.slice (some ⟨ge,0,none⟩) ex.length ce,.slice (some ⟨gn,0,none⟩) en.length cn,.int .i64 (nx:Nat)] 44)));have OA:Hid ((w6.alloc (.cells #[.int .i64 (q:Int),.slice (some ⟨ge,0,none⟩) ex.length ce,.slice (some ⟨gn,0,none⟩) en.length cn,.int .i64 (nx:Nat)] 44)).ownsRow w0.heap.size 44 4 (.slice ra DQ.length rc) DQ.length R.flatten):=hid (by have h:=TA.out.ro;rw[show(pV S Lv Cj ((K.map (bD ss ts f)).take a)).rw=DQ from HDQ.out.symm]at h;exact h);have MA:=hid (aI (aI OV.out hb) (aB w6 (.cells #[.int .i64 (q:Int),.slice (some ⟨ge,0,none⟩) ex.length ce,.slice (some ⟨gn,0,none⟩) en.length cn,.int .i64 (nx:Nat)] 44)));have RI:=hid (qyO (tr:=(q:Int)) (nx:=((nx:Nat):Int)) o1 o2 (aB w6 (.cells #[.int .i64 (q:Int),.slice (some ⟨ge,0,none⟩) ex.length ce,.slice (some ⟨gn,0,none⟩) en.length cn,.int .i64 (nx:Nat)] 44)) TT.out.bel.size);have GE:Hid (wr.heap.size≤ge∧wr.heap.size≤gn∧ge≠gn):=hid ⟨(World.ownsRow.lt o1 ge rfl).1,(World.ownsRow.lt o2 gn rfl).1,hne⟩;have NW:=hid (World.news_of_block (heap_alloc_new w6 (.cells #[.int .i64 (q:Int),.slice (some ⟨ge,0,none⟩) ex.length ce,.slice (some ⟨gn,0,none⟩) en.length cn,.int .i64 (nx:Nat)] 44)));have SZ:=hid TA.out.bel.size;obtain⟨p0,p1,p2,p3,p4,p5,p6,p7⟩:=dF T6.out.box;have hbl2:=lt_of_block T6.out.box;clear o1 o2 hne hb)
          |(at_builtin;refine wpList_append_lies _ rfl (.tmp 86) (.tmp 92) 42 rfl w0.heap.size 44 i1 _ 4 64 Tryz.underlying42 hi1 hy0 hy1 hy2 rfl (by decide) (.slice ra DQ.length rc) DQ.length R.flatten rfl OA.out ⟨w6.heap.size,0,none⟩ 1 1 [.int .i64 (q:Int),.slice (some ⟨ge,0,none⟩) ex.length ce,.slice (some ⟨gn,0,none⟩) en.length cn,.int .i64 (nx:Nat)] rfl rfl NW.out (by intro u hu;simp at hu;rcases hu with rfl|rfl|rfl|rfl<;>rfl) (by omega) F63.out.1 F63.out.2 SZ.out (w6.heap.size+1) (by simp) ?_))
         intro g7 cap7 w7 hown hgrow hat7 _;have X7:=(hgrow.block _ (lt_of_block TA.out.box) (λe=>qd3 OA.out TA.out.box _ e.symm rfl)).trans TA.out.box;obtain⟨q0,q1,q2,q3,q4,q5,q6,q7⟩:=dF X7;have fr3:=frozen_of_row w7 HB 3 _ _ X7;have AR:=hid (TbI.addR (t:=bD ss ts f q) (c:=[.int .i64 (q:Int),.slice (some ⟨ge,0,none⟩) ex.length ce,.slice (some ⟨gn,0,none⟩) en.length cn,.int .i64 (nx:Nat)]) (N:=wr.heap.size) TA.out (λb e=>by
          rcases e with(e|e|e|e)|e
          ·exact(TT.out.l.lt b e).2
          ·exact(TT.out.s.lt b e).2
          ·exact(TT.out.x.lt b e).2
          ·exact(TT.out.n.lt b e).2
          ·exact(TT.out.inner b e).2) (by rw[RWX.out];exact RI.out) (λb e=>by
          have h1:=GE.out;rcases e with e|e
          ·simp[Value.ownBlock]at e;omega
          ·simp[Value.ownBlock]at e;omega) (λb e e2=>by have h1:=GE.out;simp[Value.ownBlock]at e e2;omega) hgrow (by
          rw[show(pV S Lv Cj ((K.map (bD ss ts f)).take a)).rw=DQ from HDQ.out.symm];exact hown))
         have MK:=hid (qEP (o:=3) (u:=.slice (some ⟨g7,0,none⟩) (DQ.length+1) cap7) MA.out OA.out hgrow TA.out.box);have EQ:Hid ((⟨(pV S Lv Cj ((K.map (bD ss ts f)).take a)).sg,(pV S Lv Cj ((K.map (bD ss ts f)).take a)).lv,(pV S Lv Cj ((K.map (bD ss ts f)).take a)).st,(pV S Lv Cj ((K.map (bD ss ts f)).take a)).rw++[bD ss ts f q],(pV S Lv Cj ((K.map (bD ss ts f)).take a)).bt⟩:TbD)=pV S Lv Cj ((K.map (bD ss ts f)).take (a+1))):=hid (by rw[TKa.out];simp[pV]);clear hown hgrow hat7 X7;go_wp2_with fail;go_roundg(m-(a+1))
         case measure=>omega
         case rel=>exact⟨a+1,_,_,by omega,rfl,by go_num,by rw[←EQ.out];exact AR.out,MK.out⟩
        ·obtain rfl:a=m:=by omega
         have TK:(K.map (bD ss ts f)).take a=K.map (bD ss ts f):=List.take_of_length_le (by rw[List.length_map,EM.out];exact Nat.le_refl _);rw[TK,JN.out]at TT;clear hT hO TK X0;go_wp2_with fail;go_roundg(S-(j+1))
         case measure=>omega
         case rel=>exact⟨j+1,_,_,_,by omega,rfl,by go_num,TT.out⟩
      ·obtain rfl:j=S:=by omega
       rw[←TKs.out]at TJ;clear hT X0;go_wp2_with fail;go_roundg(m2-(p+1))
       case measure=>omega
       case rel=>exact⟨p+1,_,_,_,by omega,rfl,by go_num,TJ.out⟩
    ·obtain rfl:p=m2:=by omega
     have TKp:Lv.take p=Lv:=List.take_of_length_le (by rw[EM2.out];exact Nat.le_refl _);rw[TKp]at T2;obtain⟨C9,hC9⟩:∃x,x=cA ss ts S Lv:=⟨_,rfl⟩;rw[←hC9]at T2;have TX:Hid ((⟨(S:Int),Lv,dR C9,C9.flatten++[],⟨-1,[],bR ss,(dD ss:Nat)⟩⟩:TbD)=cM ss ts S):=hid (by rw[hC9,HLv.out,List.append_nil];simp only[cM,HL.out]);have CjN:Hid (C9.length≤200*64):=hid (by
      rw[hC9,qdT];have h4:Lv.length*S≤200*S:=Nat.mul_le_mul (by rw[←EM2.out];omega) (Nat.le_refl _);omega)
     have CjL:Hid (C9.flatten.length≤1280000000):=hid (by
      have h1:=qjC (C:=C9) (m:=100000) (λc hc=>by rw[hC9]at hc;exact qi2 HC.out (λx hx=>by have:=LM.out x hx;rw[HL.out];exact this) c hc);have h3:=Nat.mul_le_mul CjN.out (Nat.le_refl 100000);omega)
     obtain⟨DR,hDR⟩:∃x,x=C9.flatten:=⟨_,rfl⟩;have HDR:=hid hDR;have DRl:DR.length≤1280000000:=by rw[hDR];exact CjL.out
     obtain⟨ra,rc,hrv⟩:∃ra rc,rv=.slice ra DR.length rc:=by rw[hDR];exact aO T2.out.ro
     subst hrv;obtain⟨st,hst⟩:∃x,x=stB C9:=⟨_,rfl⟩;have HST:=hid hst;have stl:st.length≤100000:=by rw[hst,qbG];have:=CjN.out;omega
     obtain⟨sa,sc2,hsv⟩:∃sa sc2,sv=.slice sa st.length sc2:=by rw[hst];exact aO T2.out.s
     have TA:=hid (T2.out.below (aB wr (.cells #[.int .i64 (DR.length:Int)] 3)));have OSa:Hid ((wr.alloc (.cells #[.int .i64 (DR.length:Int)] 3)).ownsRow w0.heap.size 3 1 (.slice sa st.length sc2) st.length (aG st)):=hid (by have h:=TA.out.s;rw[hsv,show(uF S Lv C9).st=st from HST.out.symm]at h;exact h);have NW:=hid (World.news_of_block (heap_alloc_new wr (.cells #[.int .i64 (DR.length:Int)] 3)));obtain⟨x0',x1,x2,x3,x4,x5,x6,x7⟩:=dF T2.out.box;have hbl:=lt_of_block T2.out.box;have HSV:=hid hsv;rw[hsv]at x2;clear hT hC9 hDR hst hsv TKp;go_wp2_with(at_builtin;refine wpList_append_lies _ rfl (.tmp 98) (.tmp 102) 30 rfl w0.heap.size 3 i0 _ 1 8 Tryz.underlying30 hi0 hz0 hz1 hz2 rfl (by decide) (.slice sa st.length sc2) st.length (aG st) rfl OSa.out ⟨wr.heap.size,0,none⟩ 1 1 [.int .i64 (DR.length:Int)] rfl rfl NW.out (by intro u hu;simp at hu;subst hu;rfl) (by omega) (by unfold maxLen;omega) (by omega) TA.out.bel.size (wr.heap.size+1) (by simp) ?_);intro g4 cap4 w4 hown hgrow hat4 _;have X4:=(hgrow.block _ (lt_of_block TA.out.box) (λe=>tM OSa.out TA.out.box _ e.symm rfl)).trans TA.out.box;obtain⟨q0,q1,q2,q3,q4,q5,q6,q7⟩:=dF X4;have fr2:=frozen_of_row w4 HB 2 _ _ X4;have AS:Hid (TbI w0 HB (pV S Lv C9 []) (.slice la p lc) (.slice (some ⟨g4,0,none⟩) (st.length+1) cap4) (.slice ra DR.length rc) (.slice none 0 0) (.slice none 0 0) R (w4.setCell ⟨HB,2,none⟩ (.slice (some ⟨g4,0,none⟩) (st.length+1) cap4))):=hid (by
      have h:=TbI.addS (x:=DR.length) TA.out (by rw[HSV.out];exact hgrow) (show w4.ownsRow w0.heap.size 3 1 (.slice (some ⟨g4,0,none⟩) (st.length+1) cap4) ((uF S Lv C9).st.length+1) (aG ((uF S Lv C9).st++[DR.length])) by rw[show(uF S Lv C9).st=st from HST.out.symm];simpa[aG]using hown) (by rw[HSV.out];exact qn3 rfl hat4 (by simp));simpa[pV,uF,dR,HDR.out]using h)
     clear hown hgrow hat4 X4 q0 q1 q3 q4 q5 q6 q7 x0' x1 x2 x3 x4 x5 x6 x7;go_upto_region 26 with fail;obtain⟨W,hW⟩:∃W,W=w4.setCell ⟨HB,2,none⟩ (.slice (some ⟨g4,0,none⟩) (st.length+1) cap4):=⟨_,rfl⟩;rw[←hW]at AS⊢;have G:=HC.out.good;rw[TL.out]at G;have A1:=hid (AS.out.below (aB W (.cells #[.int .i64 0] 3)));have OW:Hid ((W.alloc (.cells #[.int .i64 0] 3)).ownsRow W.heap.size 3 1 (.slice (some ⟨W.heap.size,0,none⟩) 1 1) 1 (aG [0])):=hid (by simpa[aG]using qdL W W 0 (Nat.le_refl _));have CD:=hid (qxJ so tq k sc tn tc ss G (k-0) 0 (by have:=G.n1;rw[HL.out]at this;omega) rfl (W.alloc (.cells #[.int .i64 0] 3)) (HX.out _ (BX.out _ A1.out.bel).bel).1);have DL:=hid (qa6 G (ss.length-0) 0 G.n1 rfl);have NB:=hid G.n2;have BN:=hid (qu9 G);obtain⟨c0,c1⟩:=bL (BX.out _ A1.out.bel).c;have WL:Hid (w0.heap.size≤W.heap.size∧HB<W.heap.size):=hid ⟨AS.out.bel.size,lt_of_block AS.out.box⟩;have LT:=hid AS.out.lt;clear hW q2 fr2 OSa TA NW hbl G;go_wp2_with(first
      |(go_at_call 52;refine CD.out.mono ?_;rintro e w5 ⟨g1,c5,rfl,ho,hb⟩;have T5:=hid (A1.out.below hb);have I5:=hid ho;have O5:=hid (aI OW.out hb);have Z5:Hid (W.heap.size≤w5.heap.size):=hid (Nat.le_trans (by simp) hb.size);clear ho hb)
      |(at_builtin;refine wpList_append_own _ rfl (.tmp 105) (.tmp 107) 30 rfl W.heap.size 3 i0 (.int .i64 0) 1 8 Tryz.underlying30 hi0 hz0 hz1 hz2 rfl (by decide) (.slice (some ⟨W.heap.size,0,none⟩) 1 1) 1 (aG [0]) rfl O5.out ⟨g1,0,none⟩ (bM ss 0).length c5 (aG (bM ss 0)) rfl (by rw[yZ];omega) (qd1 I5.out) (y6 _) (by have:=DL.out;have:=NB.out;unfold maxLen;omega) (by have:=DL.out;have:=NB.out;omega) Z5.out ?_))
     intro v' w6 hown hgrow _;have LB:Hid (1+(bM ss 0).length=(bR ss).length):=hid (by unfold bR;simp;omega);have hown2:w6.ownsRow W.heap.size 3 1 v' (bR ss).length (aG (bR ss)):=by rw[←LB.out];simpa[bR,aG]using hown
     have T6:=hid (T5.out.keep (qg6 hgrow) (λb e=>by simp[Value.ownBlock]at e;have:=WL.out;omega) (λe=>by simp[Value.ownBlock]at e;have:=WL.out;omega) (λb hb e=>by simp[Value.ownBlock]at e;have:=LT.out b hb;omega));obtain⟨g6,cap6,hv6,_,hgl6⟩:=World.ownsRow.form hown2 (by rw[←LB.out];omega);subst hv6;have O6:=hid hown2;obtain⟨q,hq⟩:∃q,(bR ss).length=q+1:=⟨(bM ss 0).length,by rw[←LB.out];omega⟩;have cq:w6.cell? ⟨g6,q,none⟩=some (.int .i64 (dD ss:Nat)):=by
      rw[World.ownsRow.cellAt O6.out q (by omega)];unfold dD;simp[aG,hq]
     have HQ:=hid hq;obtain⟨nx,hnx⟩:∃x:Nat,x=dD ss:=⟨_,rfl⟩;rw[←hnx]at cq;have NX:=hid hnx;have qn:(q:Int)<(q:Int)+1:=by omega
     have q0':(0:Int)≤(q:Int):=by omega
     have q3:q≤1000:=by have:=BN.out;omega
     have qI:(q:Int)≤1000:=by omega
     have qw:IntKind.i64.wrap (q:Int)=q:=IntWalk.i64_in _ (by omega);obtain⟨b0,b1,b2,b3,b4,b5,b6,b7⟩:=dF T6.out.box;have fb:=zA T6.out.box;have bl6:=lt_of_block T6.out.box;have TF:=hid (TbI.boot (tr:=-1) (nx:=(nx:Int)) T6.out LT.out WL.out.1 O6.out);have TB:Hid ((⟨(pV S Lv C9 []).sg,(pV S Lv C9 []).lv,(pV S Lv C9 []).st,(pV S Lv C9 []).rw,⟨-1,[],bR ss,(nx:Int)⟩⟩:TbD)=cM ss ts S):=hid (by rw[←TX.out,NX.out];rfl);rw[TB.out]at TF;have B6:=hid (BX.out _ T6.out.bel);clear hown hgrow hown2 hq hnx
     try rw[LB.out]
     rw[HQ.out];go_upto_region 28 with fail;rw[HQ.out]at TF;obtain⟨W9,hW9⟩:∃x,x=(((w6.setCell ⟨HB,4,none⟩ (.int .i64 (-1))).setCell ⟨HB,5,none⟩ (.slice none 0 0)).setCell ⟨HB,6,none⟩ (.slice (some ⟨g6,0,none⟩) (q+1) cap6)).setCell ⟨HB,7,none⟩ (.int .i64 (nx:Int)):=⟨_,rfl⟩;rw[show qiD w6 HB (.int .i64 (-1)) (.slice none 0 0) (.slice (some ⟨g6,0,none⟩) (q+1) cap6) (.int .i64 (nx:Int))=W9 from hW9.symm]at TF;rw[←hW9];have RB:=hid (BX.out _ TF.out.bel).r;have RL0:w.heap.size+1+1<w0.heap.size:=lt_of_block B0.out.r;have RLw:w.heap.size+1+1<W9.heap.size:=lt_of_block RB.out;obtain⟨x0',x1,x2,x3,x4,x5,x6,x7⟩:=dF TF.out.box;have hbl:=lt_of_block TF.out.box;obtain⟨r0,r1,r2,r3,r4,r5,r6,r7⟩:=dF RB.out;have fz:=zA RB.out;have nHB:¬(HB=w.heap.size+1+1):=by have:=HBl.out;omega
     have nHB2:¬(w.heap.size+1+1=HB):=λe=>nHB e.symm;clear hW9 b0 b1 b2 b3 b4 b5 b6 b7 fb bl6 cq;go_wp2_with fail;obtain⟨c0,c1,c2,c3,c4,c5',c6,c7⟩:=dF (qh9 (a:=.int .i64 (cM ss ts S).sg) (b:=.slice la p lc) (c:=.slice (some ⟨g4,0,none⟩) (st.length+1) cap4) (d:=.slice ra DR.length rc) (e:=.int .i64 (cM ss ts S).bt.tr) (f:=.slice none 0 0) (g:=.slice (some ⟨g6,0,none⟩) (q+1) cap6) (i:=.int .i64 (cM ss ts S).bt.nx) RB.out);refine bodyPost_ret (v:=zB (cM ss ts S) (.slice la p lc) (.slice (some ⟨g4,0,none⟩) (st.length+1) cap4) (.slice ra DR.length rc) (.slice none 0 0) (.slice (some ⟨g6,0,none⟩) (q+1) cap6)) (by simp[results,Tryz.results11,go_sem,c0,c1,c2,c3,c4,c5',c6,c7]) rfl ?_;exact⟨_,_,_,_,_,R,HB,w0,rfl,B0.out.bel.size,⟨W9,TF.out,qdZ,RL0⟩,(B0.out.bel.trans (TF.out.bel.mono B0.out.bel.size)).trans (qdZ.toBelow (λb e=>by omega) (Nat.le_trans B0.out.bel.size TF.out.bel.size))⟩
end Go.Proofs.YtiimkhepplkocaaGreat
