import Derived.Test.YtiimkhepplkocaaGreatDa
import Derived.Test.YtiimkhepplkocaaGreatXb
import Derived.Deep.RegionHeld3
import Derived.OrdersHeld
import Derived.Test.YtiimkhepplkocaaGreatP1
set_option maxRecDepth 100000
set_option maxHeartbeats 16000000
namespace Go.Proofs.YtiimkhepplkocaaGreat
open Go.RowKit Go.Sort
set_option linter.unusedVariables false
attribute [local go_sem ↓] Go.wp_at_zero Go.wp_at_succ
abbrev cV(l:List Int):List Value:=l.map (Value.int .i64)
structure BkI (w:World) (cb:Nat) (co:Option Addr) (n cap A:Nat) (kv vv:Value) (ks vs:List Int) (X:World):Prop where
 cur:Cur X cb co n cap A
 dw:Dw cb w X
 r:X.heap[w.heap.size]? =some (.cells #[.slice none 0 0,.slice none 0 0] 32 (0,0))
 b:X.heap[w.heap.size+1]? =some (.cells #[kv,vv] 32 (0,0))
 k:X.ownsRow (w.heap.size+1+1) 3 1 kv ks.length (cV ks)
 v:X.ownsRow (w.heap.size+1+1) 3 1 vv vs.length (cV vs)
 ne:∀q,kv.ownBlock=some q→vv.ownBlock≠some q
 cb0:cb<w.heap.size
 g0:0<n→∀g o,co=some ⟨g,o,none⟩→g<w.heap.size
section
variable {w:World} {cb:Nat} {co:Option Addr} {n cap A A':Nat} {kv vv:Value} {ks vs:List Int} {X Y:World}
theorem BkI.draw(h:BkI w cb co n cap A kv vv ks vs X)(hd:Dw cb X Y)(hc:Cur Y cb co n cap A'):BkI w cb co n cap A' kv vv ks vs Y:=
 ⟨hc,h.dw.trans hd,hd.at h.r (by have:=h.cb0;omega),hd.at h.b (by have:=h.cb0;omega),hd.own h.cur h.k (by decide),hd.own h.cur h.v (by decide),h.ne,h.cb0,h.g0⟩
theorem BkI.below(h:BkI w cb co n cap A kv vv ks vs X)(hb:Below X.heap.size X Y):BkI w cb co n cap A kv vv ks vs Y:=
 ⟨h.cur.below hb,h.dw.trans (Below.toP hb),aA h.r hb,aA h.b hb,aI h.k hb,aI h.v hb,h.ne,h.cb0,h.g0⟩
theorem BkI.only{P:Nat→Prop}(h:BkI w cb co n cap A kv vv ks vs X)(hP:OnlyP P X Y)(h1:∀q,P q→w.heap.size+1≤q):Cur Y cb co n cap A∧Dw cb w Y:=by
 have c0:=h.cb0;refine⟨h.cur.only hP (λe=>by have:=h1 cb e;omega) (λhn g o e e2=>by have:=h.g0 hn g o e;have:=h1 g e2;omega),⟨hP.os.trans h.dw.os,hP.tape.trans h.dw.tape,hP.output.trans h.dw.output,Nat.le_trans h.dw.size hP.size,λq hq hn=>(hP.block q (Nat.lt_of_lt_of_le hq h.dw.size) (λe=>by have:=h1 q e;omega)).trans (h.dw.block q hq hn)⟩⟩
theorem BkI.addK{v':Value}{x:Int}(h:BkI w cb co n cap A kv vv ks vs X)(hg:X.grownBy Y kv.ownBlock)(ho:Y.ownsRow (w.heap.size+1+1) 3 1 v' (ks.length+1) (cV (ks++[x])))(hat:∀q,v'.ownBlock=some q→kv.ownBlock=some q∨X.heap.size≤q):BkI w cb co n cap A v' vv (ks++[x]) vs (Y.setCell ⟨w.heap.size+1,0,none⟩ v'):=by
 have gP:=grP hg;have bY:=(gP.block _ (lt_of_block h.b) (λe=>aJ h.k (by decide) h.b e)).trans h.b;have sP:OnlyP (λq=>q=w.heap.size+1) Y (Y.setCell ⟨w.heap.size+1,0,none⟩ v'):=OnlyP.set _ rfl;have aP:OnlyP (λq=>w.heap.size+1≤q) X (Y.setCell ⟨w.heap.size+1,0,none⟩ v'):=(gP.mono (λq e=>by have:=(h.k.lt q e).1;omega)).trans (sP.mono (λq e=>by omega));obtain⟨hc,hd⟩:=h.only aP (λq e=>e);have no:∀{u:Value} {m:Nat} {xs:List Value} {Z:World},Z.ownsRow (w.heap.size+1+1) 3 1 u m xs→∀q,u.ownBlock=some q→¬q=w.heap.size+1:=λhu q e e2=>by have:=(hu.lt q e).1;omega
 refine⟨hc,hd,(aP.block _ (lt_of_block h.r) (by omega)).trans h.r,by rw[heap_setCell_same Y _ 0 _ _ v' bY];rfl,sP.own (by simpa using ho) (no ho),sP.own (gP.own h.v (λq e e2=>h.ne q e2 e)) (no h.v),λq e e2=>?_,h.cb0,h.g0⟩;rcases hat q e with h1|h1
 ·exact h.ne q h1 e2
 ·have:=(h.v.lt q e2).2;omega
theorem BkI.addV{v':Value}{x:Int}(h:BkI w cb co n cap A kv vv ks vs X)(hg:X.grownBy Y vv.ownBlock)(ho:Y.ownsRow (w.heap.size+1+1) 3 1 v' (vs.length+1) (cV (vs++[x])))(hat:∀q,v'.ownBlock=some q→vv.ownBlock=some q∨X.heap.size≤q):BkI w cb co n cap A kv v' ks (vs++[x]) (Y.setCell ⟨w.heap.size+1,1,none⟩ v'):=by
 have gP:=grP hg;have bY:=(gP.block _ (lt_of_block h.b) (λe=>aJ h.v (by decide) h.b e)).trans h.b;have sP:OnlyP (λq=>q=w.heap.size+1) Y (Y.setCell ⟨w.heap.size+1,1,none⟩ v'):=OnlyP.set _ rfl;have aP:OnlyP (λq=>w.heap.size+1≤q) X (Y.setCell ⟨w.heap.size+1,1,none⟩ v'):=(gP.mono (λq e=>by have:=(h.v.lt q e).1;omega)).trans (sP.mono (λq e=>by omega));obtain⟨hc,hd⟩:=h.only aP (λq e=>e);have no:∀{u:Value} {m:Nat} {xs:List Value} {Z:World},Z.ownsRow (w.heap.size+1+1) 3 1 u m xs→∀q,u.ownBlock=some q→¬q=w.heap.size+1:=λhu q e e2=>by have:=(hu.lt q e).1;omega
 refine⟨hc,hd,(aP.block _ (lt_of_block h.r) (by omega)).trans h.r,by rw[heap_setCell_same Y _ 1 _ _ v' bY];rfl,sP.own (gP.own h.k (λq e e2=>h.ne q e e2)) (no h.k),sP.own (by simpa using ho) (no ho),λq e e2=>?_,h.cb0,h.g0⟩;rcases hat q e2 with h1|h1
 ·exact h.ne q e h1
 ·have:=(h.k.lt q e).2;omega
theorem qBG(h:Cur w cb co n cap A):BkI w cb co n cap A (.slice none 0 0) (.slice none 0 0) [] [] ((w.alloc (.cells #[.slice none 0 0,.slice none 0 0] 32)).alloc (.cells #[.slice none 0 0,.slice none 0 0] 32)):=by
 have h2:=heap_alloc_new (w.alloc (.cells #[.slice none 0 0,.slice none 0 0] 32)) (.cells #[.slice none 0 0,.slice none 0 0] 32);simp only[World.size_alloc]at h2;exact⟨h.below (aD _ _ _),(dP _ _ _).trans (dP _ _ _),aA (heap_alloc_new w _) (aB _ _),h2,World.ownsRow_nil _ _ _ _,World.ownsRow_nil _ _ _ _,λq e=>by simp[Value.ownBlock]at e,h.lt,h.code_lt⟩
end
def BankD(ks vs:List Int):Prop:=ks.length=vs.length∧∀i,i<ks.length→(1≤ks.getD i 0∧ks.getD i 0≤7)∧∃z,I64 z∧vs.getD i 0=conv (ks.getD i 0) z
def quQ(w w':World)(cb:Nat)(co:Option Addr)(n cap A:Nat)(e:Ending):Prop:=∃(kv vv:Value) (ks vs:List Int),e=.returned (.agg #[kv,vv])∧w'.ownsRow w.heap.size 3 1 kv ks.length (cV ks)∧w'.ownsRow w.heap.size 3 1 vv vs.length (cV vs)∧(∀q,kv.ownBlock=some q→vv.ownBlock≠some q)∧BankD ks vs∧ks.length≤4∧Cur w' cb co n cap A∧Dw cb w w'
end Go.Proofs.YtiimkhepplkocaaGreat
namespace Go.Proofs.YtiimkhepplkocaaGreat
open Go.RowKit Go.Sort
set_option linter.unusedVariables false
attribute [local go_sem ↓] Go.wp_at_zero Go.wp_at_succ
theorem BankD.snoc{ks vs:List Int}{x z:Int}(h:BankD ks vs)(hx:1≤x∧x≤7)(hz:I64 z):BankD (ks++[x]) (vs++[conv x z]):=by
 have ge:∀(l:List Int) (y:Int) (i:Nat),(l++[y]).getD i 0=if i<l.length then l.getD i 0 else if i=l.length then y else 0:=λl y i=>by
  by_cases h:i<l.length
  ·rw[if_pos h];simp[List.getD_eq_getElem?_getD,List.getElem?_append_left h]
  ·rw[if_neg h]
   by_cases e:i=l.length
   ·subst e;simp
   ·rw[if_neg e,List.getD_eq_getElem?_getD,List.getElem?_eq_none (by simp;omega)];rfl
 refine⟨by simp[h.1],λi hi=>?_⟩;rw[ge,ge,←h.1];by_cases hl:i<ks.length
 ·rw[if_pos hl,if_pos hl];exact h.2 i hl
 ·obtain rfl:i=ks.length:=by simp at hi;omega
  rw[if_neg hl,if_neg hl,if_pos rfl,if_pos rfl];exact⟨hx,z,hz,rfl⟩
theorem quW{lv v':Value}{g n cap N H:Nat}(hv:v'=.slice (some ⟨g,0,none⟩) n cap)(hat:lv.ownBlock=some g∨g=H)(hH:N≤H):∀b,v'.ownBlock=some b→lv.ownBlock=some b∨N≤b:=λb e=>by
 subst hv;simp[Value.ownBlock]at e;subst e;rcases hat with h|h
 ·exact .inl h
 ·exact .inr (by omega)
theorem qDM(cb:Nat)(co:Option Addr)(n cap A:Nat)(w:World)(hA:A≤80000000)(h:Cur w cb co n cap A):
  Calls Tryz.prog 95 #[.pointer (some ⟨cb,0,none⟩)] w λe w'=>quQ w w' cb co n cap (A+100) e:=by
 have H0:=hid h;have S0:=hid (qBG h);have P5:=hid (uN cb co n cap A 5 (by omega) _ (by omega) S0.out.cur);have P7:=hid (λB w' (hB:B≤10000000000) (h':Cur w' cb co n cap B)=>uN cb co n cap B 7 (by omega) w' (by omega) h');have DI:=hid (λB w' (hB:B≤10000000000) (h':Cur w' cb co n cap B)=>qv0 cb co n cap B w' hB h');obtain⟨i0,hi0,hz0,hz1,hz2⟩:=info_parts Tryz.infoInt0;clear h;go_enter Tryz.func95,Tryz.ntmps95;go_wp2_with(go_at_call 94;refine P5.out.mono ?_;rintro e w1 ⟨r,rfl,hr,hc,hd⟩;have r5:r<5:=(by omega);have S1:=hid (S0.out.draw hd hc);clear hc hd hr);obtain⟨m,hm⟩:∃m:Nat,(4:Int)-r=m:=⟨4-r,by omega⟩;have m4:m≤4:=by omega
 rw[hm];clear hm r5;go_loopg [5] m (λmm i X=>∃(k:Nat) (kv vv:Value) (ks vs:List Int),k≤m∧mm=m-k∧i=.int .i64 k∧ks.length=k∧BankD ks vs∧BkI w cb co n cap (A+2+k*20) kv vv ks vs X)
 case atStart=>exact⟨0,_,_,[],[],by omega,by omega,rfl,rfl,⟨rfl,λi hi=>absurd hi (by simp)⟩,S1.out⟩
 case round=>
  obtain⟨k,kv,vv,ks,vs,hk,rfl,rfl,hlen,hB,hI⟩:=hrel;have I:=hid hI;have HB:=hid hB;have HLn:=hid hlen;by_cases hlt:k<m
  ·have ki:(k:Int)<(m:Int):=by omega
   obtain⟨ka,kc,hkv⟩:=aO hI.k;obtain⟨va,vc,hvv⟩:=aO hI.v;subst hkv;subst hvv;have kl:ks.length≤4:=by omega
   have vl:vs.length≤4:=by rw[←hB.1];omega
   have PK:=hid (P7.out (A+2+k*20) wr (by omega) hI.cur);clear hI hB hlen;go_upto_region 8 with(first
    |(go_at_call 94;have q:=PK.out;with_reducible refine q.mono ?_;clear q;rintro e w2 ⟨x,rfl,hx,hc,hd⟩;have x7:x<7:=(by omega);have I2:=hid (I.out.draw hd hc);have IA:=hid (I2.out.below (aB w2 (.cells #[.int .i64 (1+(x:Int))] 3)));have NW:=hid (World.news_of_block (heap_alloc_new w2 (.cells #[.int .i64 (1+(x:Int))] 3)));obtain⟨b0,b1,b2,b3⟩:=aF I2.out.b;have bl:=lt_of_block I2.out.b;clear hc hd hx)
    |(at_builtin;refine wpList_append_lies _ rfl (.tmp 20) (.tmp 22) 30 rfl (w.heap.size+1+1) 3 i0 _ 1 8 Tryz.underlying30 hi0 hz0 hz1 hz2 rfl (by decide) (.slice ka ks.length kc) ks.length (cV ks) rfl IA.out.k ⟨w2.heap.size,0,none⟩ 1 1 [.int .i64 (1+(x:Int))] rfl rfl NW.out (by intro u hu;simp at hu;subst hu;rfl) (by omega) (by unfold maxLen;omega) (by omega) (by have:=lt_of_block IA.out.b;omega) (w2.heap.size+1) (by simp) ?_;intro g3 cap3 w3 hown hgrow hat3 _;have X3:=(hgrow.block _ (lt_of_block IA.out.b) (λe=>aJ IA.out.k (by decide) IA.out.b e.symm)).trans IA.out.b;obtain⟨q0,q1,q2,q3⟩:=aF X3;have ql:=lt_of_block X3;have I3:=hid (BkI.addK (x:=1+(x:Int)) IA.out hgrow (by simpa using hown) (quW rfl hat3 (by simp)));clear hown hgrow hat3 X3))
   obtain⟨W,hW⟩:∃W,W=w3.setCell ⟨w.heap.size+1,0,none⟩ (.slice (some ⟨g3,0,none⟩) (ks.length+1) cap3):=⟨_,rfl⟩;rw[←hW]at I3⊢;obtain⟨y0,y1,y2,y3⟩:=aF I3.out.b;have yl:=lt_of_block I3.out.b;have ID:=hid (I3.out.below ((Below.refl _ _).drew));have DK:=hid (DI.out (A+2+k*20+2) _ (by omega) ID.out.cur);have CV:=hid (λz w'=>qjH (1+(x:Int)) z w' (by omega) (by omega));clear hW q0 q1 q2 q3 ql b0 b1 b2 b3 bl IA NW;go_region_law
    (first
     |(refine step_append_lies _ (by rfl) _ _ _ (by rfl) (w.heap.size+1+1) 3 i0 _ 1 8 Tryz.underlying30 hi0 hz0 hz1 hz2 rfl (by omega) (.slice va vs.length vc) vs.length (cV vs) (by simp[Act.eval]) IB.out.v ⟨w5.heap.size,0,none⟩ 1 1 [.int .i64 cz] (by simp[Act.eval]) (by simp) NW.out (by intro u hu;simp at hu;subst hu;rfl) (by omega) (by unfold maxLen;omega) (by omega) (by have:=lt_of_block IB.out.b;omega) (w5.heap.size+1) (by simp) ?_;intro g6 cap6 w6 hown hgrow hat6 _;have X6:=(hgrow.block _ (lt_of_block IB.out.b) (λe=>aJ IB.out.v (by decide) IB.out.b e.symm)).trans IB.out.b;obtain⟨q0,q1,q2,q3⟩:=aF X6;have ql:=lt_of_block X6;have I6:=hid (BkI.addV (x:=cz) IB.out hgrow (by simpa using hown) (quW rfl hat6 (by simp)));clear hown hgrow hat6 X6)
     |(go_simp;go_wp2_with(first
       |(go_at_call 136;refine DK.out.mono ?_;rintro e w4 ⟨z,rfl,hz,hc,hd⟩;have I4:=hid (ID.out.draw hd hc);have HZ:=hid hz;obtain⟨u0,u1,u2,u3⟩:=aF I4.out.b;have ul:=lt_of_block I4.out.b;clear hc hd hz)
       |(go_at_call 73;refine(CV.out z _).mono ?_;rintro e w5 ⟨rfl,hb⟩;have I5:=hid (I4.out.below hb);obtain⟨cz,hcz⟩:∃c,c=conv (1+(x:Int)) z:=⟨_,rfl⟩;rw[←hcz];have HCZ:=hid hcz;have IB:=hid (I5.out.below (aB w5 (.cells #[.int .i64 cz] 3)));have NW:=hid (World.news_of_block (heap_alloc_new w5 (.cells #[.int .i64 cz] 3)));obtain⟨v0,v1,v2,v3⟩:=aF I5.out.b;have vl5:=lt_of_block I5.out.b;clear hb hcz))))
   all_goals
    go_wp2_with fail;go_roundg(m-(k+1))
    case measure=>omega
    case rel=>exact⟨k+1,_,_,ks++[1+(x:Int)],vs++[cz],by omega,rfl,by go_num,by simp[HLn.out],by rw[HCZ.out];exact HB.out.snoc (by omega) HZ.out,⟨I6.out.cur.mono (by omega),I6.out.dw,I6.out.r,I6.out.b,I6.out.k,I6.out.v,I6.out.ne,I6.out.cb0,I6.out.g0⟩⟩
  ·obtain rfl:k=m:=by omega
   obtain⟨ka,kc,hkv⟩:=aO hI.k;obtain⟨va,vc,hvv⟩:=aO hI.v;subst hkv;subst hvv;obtain⟨b0,b1,b2,b3⟩:=aF hI.b;have bl:=lt_of_block hI.b;obtain⟨r0,r1,r2,r3⟩:=aF hI.r;have rl:=lt_of_block hI.r;clear hI hB hlen;go_wp2_with fail;have hP:OnlyP (λq=>q=w.heap.size) wr ((wr.setCell ⟨w.heap.size,0,none⟩ (.slice ka ks.length kc)).setCell ⟨w.heap.size,1,none⟩ (.slice va vs.length vc)):=OnlyP.trans (OnlyP.set (P:=λq=>q=w.heap.size) _ rfl) (OnlyP.set (P:=λq=>q=w.heap.size) _ rfl);have m1:=heap_setCell_same wr w.heap.size 0 _ _ (.slice ka ks.length kc) I.out.r;have m2:=heap_setCell_same _ w.heap.size 1 _ _ (.slice va vs.length vc) m1;have m3:((wr.setCell ⟨w.heap.size,0,none⟩ (.slice ka ks.length kc)).setCell ⟨w.heap.size,1,none⟩ (.slice va vs.length vc)).heap[w.heap.size]? =some (.cells #[.slice ka ks.length kc,.slice va vs.length vc] 32 (0,0)):=by rw[m2];simp
   obtain⟨c0,c1,_,_⟩:=aF m3;refine bodyPost_ret (v:=.agg #[.slice ka ks.length kc,.slice va vs.length vc]) (by simp[results,Tryz.results95,go_sem,c0,c1]) rfl ?_;have z0:=I.out.cb0;refine⟨_,_,ks,vs,rfl,aM (hP.own I.out.k (λq e e2=>by have:=(I.out.k.lt q e).1;omega)) (by omega),aM (hP.own I.out.v (λq e e2=>by have:=(I.out.v.lt q e).1;omega)) (by omega),I.out.ne,HB.out,by rw[HLn.out];exact m4,(I.out.cur.only hP (by omega) (λhn g o e e2=>by have:=I.out.g0 hn g o e;omega)).mono (by omega),⟨hP.os.trans I.out.dw.os,hP.tape.trans I.out.dw.tape,hP.output.trans I.out.dw.output,Nat.le_trans I.out.dw.size hP.size,λq hq hn=>(hP.block q (Nat.lt_of_lt_of_le hq I.out.dw.size) (by omega)).trans (I.out.dw.block q hq hn)⟩⟩
end Go.Proofs.YtiimkhepplkocaaGreat
namespace Go.Proofs.YtiimkhepplkocaaGreat
open Go.RowKit Go.Sort
set_option linter.unusedVariables false
theorem qDV{ss:List StD}{ts:List TrD}{l:aE}(hn:1≤ss.length∧ss.length≤16)(ht:ts.length≤500)(hl:cO l)(h0:par ss 0=-1)(hp:∀i,0<i→i<ss.length→0≤par ss i∧par ss i<i)
  (hi:∀i,i<ss.length→(bK ss ss.length i=[]∧ini ss i=-1)∨(0≤ini ss i∧ini ss i<ss.length∧par ss (ini ss i).toNat=i)) (ha:∀i,i<ss.length→cK l (ss.getD i st0).entry=true∧cK l (ss.getD i st0).exit=true) (hT:∀j,j<ts.length→dN ss.length l (ts.getD j tr0)=true):(bJ ss ts l).1=0:=by
 have bp:∀j,j<ss.length→cY ss j=false:=λj hj=>by
  unfold cY;by_cases e:j=0
  ·rw[if_pos e];simp[h0]
  ·rw[if_neg e]
   have:=hp j (by omega) hj;simp;omega
 have T:=qj6 (by omega) bp;have bd:∀j,j<ss.length→uE ss j=false:=λj hj=>by
  unfold uE;have:=pS T j hj;exact decide_eq_false (by omega)
 have bi:∀j,j<ss.length→gI ss j=false:=λj hj=>by
  unfold gI;rcases hi j hj with⟨h1,h2⟩|⟨h1,h2,h3⟩
  ·rw[if_pos h1,decide_eq_true h2];rfl
  ·have hk:¬bK ss ss.length j=[]:=λe=>by
    have hm:(ini ss j).toNat∈bK ss ss.length j:=qdG.2 ⟨by omega,h3⟩;rw[e]at hm;simp at hm
   rw[if_neg hk,decide_eq_true ⟨h1,h2,h3⟩];rfl
 have f0:(bN ss ts.length (bC l)).1=0:=by
  unfold bN;rw[if_pos ⟨hn.1,by omega,ht,by unfold bC;exact decide_eq_true hl⟩,vM bp,vM bd,vM bi]
 rw[qoA f0 (λj hj=>by unfold uI;rw[(ha j hj).1,(ha j hj).2];rfl) (λj hj=>by unfold uJ;rw[hT j hj];rfl)]
def qa2(ss:List StD)(m i:Nat):Prop:=(bK ss m i=[]∧ini ss i=-1)∨(0≤ini ss i∧ini ss i<ss.length∧par ss (ini ss i).toNat=i)
theorem qE5{ss:List StD}{m i:Nat}(h:qa2 ss m i)(hn:¬par ss m=i):qa2 ss (m+1) i:=by
 rcases h with⟨h1,h2⟩|h1
 ·exact .inl ⟨by rw[qxF,if_neg hn];exact h1,h2⟩
 ·exact .inr h1
theorem qE4{ss:List StD}{m i:Nat}(h:qa2 ss m i)(hp:0≤ini ss i):qa2 ss (m+1) i:=by
 rcases h with⟨h1,h2⟩|h1
 ·omega
 ·exact .inr h1
theorem qw8{ss:List StD}{i:Nat}(h0:par ss 0=-1)(hp:∀j,0<j→j<ss.length→0≤par ss j∧par ss j<j)(hi:i<ss.length)(hini:ini ss i=-1):qa2 ss (i+1) i:=by
 refine .inl ⟨?_,hini⟩;unfold bK;rw[List.filter_eq_nil_iff];intro j hj;have hj':=List.mem_range.1 hj;simp only[decide_eq_true_eq];intro e;by_cases z:j=0
 ·subst z;omega
 ·have:=hp j (by omega) (by omega);omega
end Go.Proofs.YtiimkhepplkocaaGreat
