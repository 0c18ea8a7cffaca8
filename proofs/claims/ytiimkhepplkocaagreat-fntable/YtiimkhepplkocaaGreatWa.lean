import Derived.Test.YtiimkhepplkocaaGreatIa
import Derived.Deep.LoopGhost
import Derived.Test.YtiimkhepplkocaaGreatVd
import Derived.Deep.RegionHeld3
import Derived.Test.YtiimkhepplkocaaGreatV7
set_option maxRecDepth 100000
set_option maxHeartbeats 16000000
namespace Go.Proofs.YtiimkhepplkocaaGreat
open Go.RowKit Go.Sort
set_option linter.unusedVariables false
attribute [local go_sem ↓] Go.wp_at_zero Go.wp_at_succ
theorem qIM{P:Program}{w:World}{t:TypeId}{x y:Option Addr}{b:Bool}(h:(binOp .eql t (.pointer x) (.pointer y)).run P w=.ok (.bool b) w):(binOp .neq t (.pointer x) (.pointer y)).run P w=.ok (.bool (!b)) w:=by
 simp only[binOp]at h⊢;simp only[Sem.run_bind,Sem.run_pure]at h⊢;cases hq:(Op.equal t (.pointer x) (.pointer y)).run P w with
 |ok a w'=>
  rw[hq]at h;simp only[Result.andThen_ok,Result.ok.injEq,Value.bool.injEq]at h⊢;obtain⟨rfl,rfl⟩:=h;exact⟨rfl,rfl⟩
 |_=>rw[hq]at h;simp[Result.andThen]at h
theorem qxZ{w:World}{N:Nat→Nat}{ss:List StD}{n:Nat}(hN:Nodes w N ss n)(hB:NodeB w N n){i j:Nat}(hi:i<n)(hj:j<n){b:Bool}(hb:b=decide (¬i=j)):
  (binOp .neq 110 (.pointer (some ⟨N i,0,none⟩)) (.pointer (some ⟨N j,0,none⟩))).run Tryz.prog w=.ok (.bool b) w:=by
 rw[qIM (qhV hN hB hi hj rfl),hb];by_cases e:i=j<;>simp[e]
theorem qxB(N:Nat→Nat)(ss:List StD)(k:Nat)(hk:k<ss.length)(w:World)(hN:NodesI w N ss ss.length):
  Calls Tryz.prog 45 #[.pointer (some ⟨N k,0,none⟩)] w λe w'=>e=.returned (.bool (decide (ini ss k<0)))∧w'=w:=by
 have c2:=hN.2 k hk;unfold qdX at c2;clear hN;by_cases h:ini ss k<0
 ·rw[if_pos h]at c2
  have D:Hid (decide (ini ss k<0)=true):=hid (decide_eq_true h);rw[D.out];clear h D;go_enter Tryz.func45,Tryz.ntmps45;go_wp2;go_ret;exact⟨rfl,rfl⟩
 ·rw[if_neg h]at c2
  have D:Hid (decide (ini ss k<0)=false):=hid (decide_eq_false h);rw[D.out];clear h D;go_enter Tryz.func45,Tryz.ntmps45;go_wp2;go_ret;exact⟨rfl,rfl⟩
theorem qHS(N:Nat→Nat)(ss:List StD)(T:cN ss)(h200:ss.length≤200)(k d:Nat)(hk:k<ss.length)(hd:d<ss.length)(pre:List Nat)(hpre:up ss k=pre++up ss d)(w:World)(hN:Nodes w N ss ss.length)(hNB:NodeB w N ss.length):
  Calls Tryz.prog 104 #[.pointer (some ⟨N k,0,none⟩),.pointer (some ⟨N d,0,none⟩)] w λe w'=>∃v,e=.returned v∧uX w w' v N pre∧Below w.heap.size w w':=by
 obtain⟨i0,hi,hz0,hz1,hz2⟩:=info_parts Tryz.info110;have HN:=hid hN;have HNB:=hid hNB;have HPre:=hid hpre;clear hN hNB hpre;have HU:=hid (pS T k hk);go_enter Tryz.func104,Tryz.ntmps104;go_wp2;go_loopg [5,6] (k+1) (λm l p wr=>Below w.heap.size w wr∧∃done rest:List Nat,∃j:Nat,wr.ownsRow w.heap.size 110 1 l done.length (b8 N done)∧pre=done++rest∧j<ss.length∧m=j+1∧p=.pointer (some ⟨N j,0,none⟩)∧up ss j=rest++up ss d)
 case atStart=>exact⟨Below.refl _ _,[],pre,k,World.ownsRow_nil _ _ _ _,rfl,hk,rfl,rfl,HPre.out⟩
 case round=>
  obtain⟨hb,done,rest,j,ho,hp,hj,rfl,rfl,hup⟩:=hrel;have HB:=hid hb;have HO:=hid ho;have HP:=hid hp;have HUJ:=hid hup;obtain⟨ao,cap,hv⟩:=cG ho;subst hv;have hlen:done.length+1≤300:=by
   have h1:=HU.out;rw[HPre.out,hp]at h1;simp only[List.length_append]at h1;have h2:0<(up ss d).length:=by rw[tH T hd];simp
   omega
  clear ho hp hup;by_cases e:j=d
  ·subst e
   have hq:=qxZ (HN.out.below (hb.mono (Nat.le_refl _))) (HNB.out.below hb) hj hj (b:=false) (by simp);clear hb;go_wp2;go_ret;have hr:rest=[]:=by
    have:=HUJ.out;have h3:=congrArg List.length this;simp only[List.length_append]at h3;exact List.eq_nil_of_length_eq_zero (by omega)
   exact⟨_,rfl,by rw[HP.out,hr];simpa[uX]using HO.out,HB.out⟩
  ·have hq:=qxZ (HN.out.below hb) (HNB.out.below hb) hj hd (b:=true) (by simp[e])
   obtain⟨n1,n2,n3⟩:=HN.out j hj;have hj0:j≠0:=by
    rintro rfl;have h4:=HUJ.out;rw[tI,tH T hd]at h4;cases rest with
    |nil=>simp at h4;exact e h4.1
    |cons a r=>simp at h4
   have ht:=T.2 j (by omega) hj;obtain⟨p,hpp⟩:∃p:Nat,par ss j=p:=⟨(par ss j).toNat,by omega⟩;have n3':w.cell? ⟨N j,1,none⟩=some (.pointer (some ⟨N p,0,none⟩)):=by rw[n3,sY,if_neg hj0,hpp,Int.toNat_natCast]
   have hpj:p<j:=by omega
   obtain⟨r2,hr2,hr3⟩:∃r2,rest=j::r2∧up ss p=r2++up ss d:=by
    have h4:=HUJ.out;rw[uB T (by omega) hj,hpp,Int.toNat_natCast]at h4;cases rest with
    |nil=>rw[tH T hd]at h4;simp at h4;exact absurd h4.1 e
    |cons a r=>simp at h4;exact⟨r,by rw[h4.1],h4.2⟩
   have R3:=hid hr3;have R2:=hid hr2;clear n2 n3 ht hpp hr2 hr3 hb;go_wp2_with(at_builtin;refine wpList_append_lies _ rfl (.tmp 15) (.tmp 17) 104 rfl w.heap.size 110 i0 _ 1 8 Tryz.underlying104 hi hz0 hz1 hz2 rfl (by decide) _ _ _ rfl (HO.out.alloc _) ⟨wr.heap.size,0,none⟩ 1 1 [.pointer (some ⟨N j,0,none⟩)] rfl rfl (vH _ _ _) (by intro u hu;simp at hu;subst hu;rfl) (by omega) (by unfold maxLen;omega) (by omega) (by have:=HB.out.size;simp;omega) (wr.heap.size+1) (by simp) ?_);intro g cap' w2 hown hgrow _ _;have B2:Hid (Below w.heap.size w w2):=hid ((HB.out.alloc HB.out.size _).grown hgrow (by have:=HB.out.size;simp;omega) (λkk e=>(HO.out.lt kk e).1));have c1:=(B2.out.cell (p:=⟨N j,1,none⟩) n1).trans n3';have O2:=hid hown;clear hown hgrow hq;go_wp2;go_roundg(p+1)
   case measure=>omega
   case rel=>exact⟨B2.out,done++[j],r2,p,by simpa[b8]using O2.out,by rw[HP.out,R2.out];simp,by omega,rfl,rfl,R3.out⟩
theorem qHT(N:Nat→Nat)(ss:List StD)(T:cN ss)(h200:ss.length≤200)(k:Nat)(hk:k<ss.length)(w:World)(hN:Nodes w N ss ss.length):
  Calls Tryz.prog 104 #[.pointer (some ⟨N k,0,none⟩),.pointer none] w λe w'=>∃g cap,e=.returned (.slice (some ⟨g,0,none⟩) (up ss k).length cap)∧uX w w' (.slice (some ⟨g,0,none⟩) (up ss k).length cap) N (up ss k)∧Below w.heap.size w w':=by
 obtain⟨i0,hi,hz0,hz1,hz2⟩:=info_parts Tryz.info110;have HN:=hid hN;clear hN;have HU:=hid (pS T k hk);go_enter Tryz.func104,Tryz.ntmps104;go_wp2;go_loopg [5,6] (k+1) (λm l p wr=>Below w.heap.size w wr∧∃pre:List Nat,wr.ownsRow w.heap.size 110 1 l pre.length (b8 N pre)∧((m=0∧p=.pointer none∧pre=up ss k)∨∃j,j<ss.length∧m=j+1∧p=.pointer (some ⟨N j,0,none⟩)∧up ss k=pre++up ss j))
 case atStart=>exact⟨Below.refl _ _,[],World.ownsRow_nil _ _ _ _,.inr ⟨k,hk,rfl,rfl,rfl⟩⟩
 case round=>
  obtain⟨hb,pre,ho,hcase⟩:=hrel;have HB:=hid hb;have HO:=hid ho;obtain⟨ao,cap,hv⟩:=cG ho;subst hv;clear hb ho;rcases hcase with⟨rfl,rfl,rfl⟩|⟨j,hj,rfl,rfl,hpre⟩
  ·go_wp2
   go_ret;have hpos:0<(up ss k).length:=by rw[tH T hk];simp
   obtain⟨g,cap',e,_,_⟩:=World.ownsRow.form HO.out hpos;exact⟨g,cap',by rw[←e];rfl,by rw[←e];exact HO.out,HB.out⟩
  ·obtain⟨n1,n2,n3⟩:=HN.out j hj
   have hlen:pre.length+1≤300:=by
    have:=HU.out;rw[hpre,List.length_append,tH T hj,List.length_cons]at this;omega
   have HP:=hid hpre;by_cases h0:j=0
   ·subst h0
    have n3':w.cell? ⟨N 0,1,none⟩=some (.pointer none):=by rw[n3];rfl
    clear n2 n3 hpre;go_wp2_with(at_builtin;refine wpList_append_lies _ rfl (.tmp 15) (.tmp 17) 104 rfl w.heap.size 110 i0 _ 1 8 Tryz.underlying104 hi hz0 hz1 hz2 rfl (by decide) _ _ _ rfl (HO.out.alloc _) ⟨wr.heap.size,0,none⟩ 1 1 [.pointer (some ⟨N 0,0,none⟩)] rfl rfl (vH _ _ _) (by intro u hu;simp at hu;subst hu;rfl) (by omega) (by unfold maxLen;omega) (by omega) (by have:=HB.out.size;simp;omega) (wr.heap.size+1) (by simp) ?_);intro g cap' w2 hown hgrow _ _;have B2:Hid (Below w.heap.size w w2):=hid ((HB.out.alloc HB.out.size _).grown hgrow (by have:=HB.out.size;simp;omega) (λkk e=>(HO.out.lt kk e).1));have c1:=(B2.out.cell (p:=⟨N 0,1,none⟩) n1).trans n3';have O2:=hid hown;clear hown hgrow;go_wp2;go_roundg 0
    case measure=>omega
    case rel=>exact⟨B2.out,up ss k,by rw[HP.out,tI];simpa[b8]using O2.out,.inl ⟨rfl,rfl,rfl⟩⟩
   ·have ht:=T.2 j (by omega) hj
    obtain⟨p,hp⟩:∃p:Nat,par ss j=p:=⟨(par ss j).toNat,by omega⟩;have n3':w.cell? ⟨N j,1,none⟩=some (.pointer (some ⟨N p,0,none⟩)):=by rw[n3,sY,if_neg h0,hp,Int.toNat_natCast]
    have HQ:Hid (up ss k=(pre++[j])++up ss p):=hid (by rw[hpre,uB T (by omega) hj,hp,Int.toNat_natCast];simp);have hpj:p<j:=by omega
    clear n2 n3 hpre ht hp;go_wp2_with(at_builtin;refine wpList_append_lies _ rfl (.tmp 15) (.tmp 17) 104 rfl w.heap.size 110 i0 _ 1 8 Tryz.underlying104 hi hz0 hz1 hz2 rfl (by decide) _ _ _ rfl (HO.out.alloc _) ⟨wr.heap.size,0,none⟩ 1 1 [.pointer (some ⟨N j,0,none⟩)] rfl rfl (vH _ _ _) (by intro u hu;simp at hu;subst hu;rfl) (by omega) (by unfold maxLen;omega) (by omega) (by have:=HB.out.size;simp;omega) (wr.heap.size+1) (by simp) ?_);intro g cap' w2 hown hgrow _ _;have B2:Hid (Below w.heap.size w w2):=hid ((HB.out.alloc HB.out.size _).grown hgrow (by have:=HB.out.size;simp;omega) (λkk e=>(HO.out.lt kk e).1));have c1:=(B2.out.cell (p:=⟨N j,1,none⟩) n1).trans n3';have O2:=hid hown;clear hown hgrow;go_wp2;go_roundg(p+1)
    case measure=>omega
    case rel=>exact⟨B2.out,pre++[j],by simpa[b8]using O2.out,.inr ⟨p,by omega,rfl,rfl,HQ.out⟩⟩
def below(ss:List StD)(k:Nat)(d:Int):List Nat:=(up ss k).takeWhile λx=>decide (¬(x:Int)=d)
theorem qu4(ss:List StD)(k:Nat):below ss k (-1)=up ss k:=by
 have key:∀l:List Nat,l.takeWhile (λ(x:Nat)=>decide (¬(x:Int)=-1))=l:=by
  intro l
  induction l with
  |nil=>rfl
  |cons a r ih=>rw[List.takeWhile_cons_of_pos (by simp),ih]
 exact key _
theorem qAR{ss:List StD}(T:cN ss){k d:Nat}(hk:k<ss.length)(hd:d∈up ss k):up ss k=below ss k d++up ss d:=by
 have key:∀n k,k<n→k<ss.length→d∈up ss k→up ss k=below ss k d++up ss d:=by
  intro n
  induction n with
  |zero=>intro k h;omega
  |succ n ih=>
   intro k hkn hk hd;by_cases e:k=d
   ·subst e
    have hf:=tH T hk;unfold below;rw[hf];simp
   ·by_cases h0:k=0
    ·subst h0
     rw[tI]at hd;simp at hd;omega
    ·have ht:=T.2 k (by omega) hk
     have hp:=uB T (by omega) hk;have hd2:d∈up ss (par ss k).toNat:=by
      rw[hp]at hd;rcases List.mem_cons.1 hd with h|h
      ·exact absurd h.symm e
      ·exact h
     have:=ih (par ss k).toNat (by omega) (by omega) hd2;unfold below at this⊢;rw[hp,List.takeWhile_cons_of_pos (by simp;omega),List.cons_append,←this]
 exact key (k+1) k (by omega) hk hd
theorem qyE(N:Nat→Nat)(ss:List StD)(T:cN ss)(h200:ss.length≤200)(k:Nat)(d:Int)(hk:k<ss.length)(hd:d=-1∨∃m:Nat,d=m∧m<ss.length∧m∈up ss k)(w:World)(hN:Nodes w N ss ss.length)(hNB:NodeB w N ss.length):
  Calls Tryz.prog 104 #[.pointer (some ⟨N k,0,none⟩),if d=-1 then .pointer none else .pointer (some ⟨N d.toNat,0,none⟩)] w λe w'=>∃v,e=.returned v∧uX w w' v N (below ss k d)∧Below w.heap.size w w':=by
 rcases hd with rfl|⟨m,rfl,hm,hmk⟩
 ·rw[if_pos rfl,qu4]
  exact(qHT N ss T h200 k hk w hN).mono λe w' ⟨g,cap,h1,h2,h3⟩=>⟨_,h1,h2,h3⟩
 ·rw[if_neg (by omega),Int.toNat_natCast]
  exact qHS N ss T h200 k m hk hm (below ss k m) (qAR T hk hmk) w hN hNB
end Go.Proofs.YtiimkhepplkocaaGreat
namespace Go.Proofs.YtiimkhepplkocaaGreat
open Go.RowKit Go.Sort
set_option linter.unusedVariables false
attribute [local go_sem ↓] Go.wp_at_zero Go.wp_at_succ
def rev(l:List Nat)(a x:Nat):Nat:=if x<a∨l.length-a≤x then l.getD (l.length-1-x) 0 else l.getD x 0
theorem qH7{l:List Nat}{a:Nat}(h:l.length≤2*a+1)(x:Nat)(hx:x<l.length):rev l a x=l.reverse.getD x 0:=by
 have e:l.reverse.getD x 0=l.getD (l.length-1-x) 0:=by
  simp[List.getD_eq_getElem?_getD,List.getElem?_reverse hx]
 rw[e];unfold rev;split
 ·rfl
 ·rw[show l.length-1-x=x by omega]
theorem qH8(g n cap B:Nat)(l:List Nat)(w:World)(hl:l.length=n)(hn:n≤300)(ho:w.ownsRow B 3 1 (.slice (some ⟨g,0,none⟩) n cap) n (aG l)):
  Calls Tryz.prog 105 #[.slice (some ⟨g,0,none⟩) n cap] w λe w'=>e=.returned (.tuple #[])∧w'.ownsRow B 3 1 (.slice (some ⟨g,0,none⟩) n cap) n (aG l.reverse)∧Only (.slice (some ⟨g,0,none⟩) n cap) w w':=by
 have HO:=hid ho;have HL:=hid hl;clear ho hl;go_enter Tryz.func105,Tryz.ntmps105;go_wp2;go_loopg [2,3] n (λm i j wr=>∃a:Nat,2*a≤n+1∧m=n-a∧i=.int .i64 a∧j=.int .i64 ((n:Int)-1-a)∧Hid (∃xs,wr.ownsRow B 3 1 (.slice (some ⟨g,0,none⟩) n cap) n xs∧∀x,x<n→xs[x]? =some (.int .i64 ((rev l a x:Nat):Int)))∧Hid (Only (.slice (some ⟨g,0,none⟩) n cap) w wr))
 case atStart=>
  refine⟨0,by omega,by omega,rfl,by first|rfl|simp|(congr 1;omega),hid ⟨aG l,HO.out,λx hx=>?_⟩,hid (Only.refl _ _)⟩;have h1:=HL.out;unfold rev;rw[if_neg (by omega)];simp[aG,List.getD_eq_getElem?_getD,show x<l.length by omega]
 case round=>
  obtain⟨a,ha,rfl,rfl,rfl,HX,HB⟩:=hrel;by_cases hlt:(a:Int)<(n:Int)-1-a
  ·obtain⟨xs,ho,hx⟩:=HX.out
   obtain⟨b,hb⟩:∃b:Nat,(n:Int)-1-a=b∧b=n-1-a:=⟨n-1-a,by omega,rfl⟩;have c1:=(World.ownsRow.cellAt ho a (by omega)).trans (hx a (by omega));have c2:=(World.ownsRow.cellAt ho b (by omega)).trans (hx b (by omega));have f1:=World.ownsRow.frozenAt ho a;have f2:=World.ownsRow.frozenAt ho b;have hab:a<b:=by omega
   have nab:¬a=b:=by omega
   have nba:¬b=a:=by omega
   have i1:(a:Int)<(n:Int):=by omega
   have i2:(b:Int)<(n:Int):=by omega
   have i3:(a:Int)<(b:Int):=by omega
   obtain⟨ra,hra⟩:∃r,r=rev l a a:=⟨_,rfl⟩;obtain⟨rb,hrb⟩:∃r,r=rev l a b:=⟨_,rfl⟩;rw[←hra]at c1;rw[←hrb]at c2;rw[hb.1];have OO:=hid ho;have HXX:=hid hx;have HRA:=hid hra;have HRB:=hid hrb;have HBB:=hid hb;clear ho hx hra hrb hb hlt;go_wp2;go_region
   all_goals
    go_wp2;go_roundg(n-(a+1))
    case measure=>have:=HBB.out;omega
    case rel=>
     have hb:=HBB.out;have hl:=HL.out;refine⟨a+1,by omega,rfl,by go_num,by first|(congr 1;omega)|(simp;omega),hid ⟨_,(World.ownsRow.stored (World.ownsRow.stored OO.out a _).1 b _).1,λx hx=>?_⟩,hid ((HB.out.trans (Only.set _)).trans (Only.set _)).drew⟩;have hlen:xs.length=n:=by have:=OO.out.1;omega
     simp only[List.getElem?_set,List.length_set];split
     ·rename_i e
      subst e;rw[if_pos (by omega),HRA.out];unfold rev;rw[if_neg (by omega),if_pos (by omega),show l.length-1-b=a by omega]
     ·split
      ·rename_i e
       subst e;rw[if_pos (by omega),HRB.out];unfold rev;rw[if_neg (by omega),if_pos (by omega),show l.length-1-a=b by omega]
      ·rw[HXX.out x hx]
       unfold rev;by_cases h1:x<a∨l.length-a≤x
       ·rw[if_pos h1,if_pos (by omega)]
       ·rw[if_neg h1,if_neg (by omega)]
  ·have d1:decide ((a:Int)<(n:Int)-1-a)=false:=decide_eq_false hlt
   go_wp2;go_end0;obtain⟨xs,ho,hx⟩:=HX.out;have hl:=HL.out;have hlen:xs.length=n:=by have:=ho.1;omega
   have e:xs=aG l.reverse:=by
    apply List.ext_getElem?;intro x;by_cases hxn:x<n
    ·rw[hx x hxn,qH7 (by omega) x (by omega)]
     simp[aG,List.getD_eq_getElem?_getD,hl,hxn]
    ·rw[List.getElem?_eq_none (by omega),List.getElem?_eq_none (by simp[aG];omega)]
   rw[e]at ho;exact⟨rfl,ho,HB.out⟩
end Go.Proofs.YtiimkhepplkocaaGreat
namespace Go.Proofs.YtiimkhepplkocaaGreat
open Go.RowKit Go.Sort
set_option linter.unusedVariables false
attribute [local go_sem ↓] Go.wp_at_zero Go.wp_at_succ
theorem qF4(P:Nat→Bool):∀n,vB P n=-1∨∃m:Nat,vB P n=m∧m<n∧P m=true:=by
 intro n
 induction n with
 |zero=>exact .inl rfl
 |succ n ih=>
  by_cases h:P n=true
  ·exact .inr ⟨n,qpA (Nat.lt_succ_self n) h (λj h1 h2=>by omega),Nat.lt_succ_self n,h⟩
  ·have e:vB P (n+1)=vB P n:=by simp[vB,h]
   rw[e];rcases ih with h1|⟨m,h1,h2,h3⟩
   ·exact .inl h1
   ·exact .inr ⟨m,h1,by omega,h3⟩
theorem qhT(ss:List StD)(f t:Nat):dom ss f t=-1∨∃m:Nat,dom ss f t=m∧m<ss.length∧m∈(up ss f).tail∧m∈(up ss t).tail:=by
 rcases qF4 (λs=>b9 ss s f&&b9 ss s t) ss.length with h|⟨m,h1,h2,h3⟩
 ·exact .inl h
 ·simp only[b9,Bool.and_eq_true,decide_eq_true_eq]at h3
  exact .inr ⟨m,h1,h2,h3.1,h3.2⟩
def gJ(ss:List StD)(leaf f t:Nat):List Nat:=below ss leaf (dom ss f t)
def dQ(ss:List StD)(f t:Nat):List Nat:=(below ss t (dom ss f t)).reverse++bM ss t
theorem qAS{ss:List StD}{k:Nat}{d:Int}:∀x,x∈below ss k d→x∈up ss k:=λx hx=>(List.takeWhile_sublist _).subset hx
theorem qgZ{ss:List StD}(T:cN ss){k:Nat}(hk:k<ss.length)(d:Int):(below ss k d).length≤k+1:=Nat.le_trans (List.Sublist.length_le (List.takeWhile_sublist _)) (pS T k hk)
theorem qiZ{ss:List StD}(T:cN ss){k:Nat}(hk:k<ss.length)(d:Int):∀x,x∈below ss k d→x<ss.length:=λx hx=>Nat.lt_of_le_of_lt (vP T k hk x (qAS x hx)) hk
theorem qoG{ss:List StD}{tn:Nat}(G:uH ss tn):∀e k,k<ss.length→ss.length-k=e→∀x,x∈bM ss k→x<ss.length:=by
 intro e
 induction e using Nat.strongRecOn with
 |ind e ih=>
  intro k hk he x hx;rcases qg7 G hk with h|⟨h1,h2⟩
  ·rw[qi6 (by omega)]at hx;cases hx
  ·rw[qi5 G hk (by omega)]at hx
   rcases List.mem_cons.1 hx with h|h
   ·omega
   ·exact ih (ss.length-(ini ss k).toNat) (by omega) (ini ss k).toNat (by omega) rfl x h
theorem qu3{ss:List StD}(T:cN ss){f t:Nat}(ht:t<ss.length):below ss t (dom ss f t)≠[]:=by
 intro h;have hd:¬((t:Nat):Int)=dom ss f t:=by
  rcases qhT ss f t with h1|⟨m,h1,h2,h3,h4⟩
  ·omega
  ·have:=qp7 T ht h4;omega
 unfold below at h;rw[tH T ht,List.takeWhile_cons_of_pos (by simpa using hd)]at h;cases h
def qdH(ss:List StD)(f t:Nat):Nat:=(dQ ss f t).getD ((dQ ss f t).length-1) 0
theorem tQ{w:World}{H:Nat}{a b c d e f:Value}{t:TypeId}(h:w.heap[H]? =some (.cells #[a,b,c,d,e,f] t (0,0))):w.cell? ⟨H,0,none⟩=some a∧w.cell? ⟨H,1,none⟩=some b∧w.cell? ⟨H,2,none⟩=some c∧w.cell? ⟨H,3,none⟩=some d∧w.cell? ⟨H,4,none⟩=some e∧w.cell? ⟨H,5,none⟩=some f:=by simp[World.cell?,h]
abbrev qiC(X:World)(r:Nat)(a b c d:Value):World:=(((X.setCell ⟨r,0,none⟩ a).setCell ⟨r,1,none⟩ b).setCell ⟨r,2,none⟩ c).setCell ⟨r,3,none⟩ d
theorem qwL{X:World}{r H o:Nat}{a b c d:Value}(h:H≠r):(qiC X r a b c d).cell? ⟨H,o,none⟩=X.cell? ⟨H,o,none⟩:=(cell_far h).trans ((cell_far h).trans ((cell_far h).trans (cell_far h)))
theorem qyK{X:World}{r:Nat}{a b c d x0 x1 x2 x3:Value}{t:TypeId}(h:X.heap[r]? =some (.cells #[x0,x1,x2,x3] t (0,0))):(qiC X r a b c d).heap[r]? =some (.cells #[a,b,c,d] t (0,0)):=by
 have m1:=heap_setCell_same X r 0 _ _ a h;have m2:=heap_setCell_same _ r 1 _ _ b m1;have m3:=heap_setCell_same _ r 2 _ _ c m2;have m4:=heap_setCell_same _ r 3 _ _ d m3;rw[m4];simp
theorem qpM{X:World}{r B:Nat}{a b c d:Value}{cs:Array Value}{t e:TypeId}{size n:Nat}{v:Value}{xs:List Value}(ho:X.ownsRow B e size v n xs)(h:X.heap[r]? =some (.cells cs t (0,0)))(ht:t≠e):(qiC X r a b c d).ownsRow B e size v n xs:=by
 have f:=aJ ho ht h;exact ownsRow_setCell_other (a:=⟨r,3,none⟩) (ownsRow_setCell_other (a:=⟨r,2,none⟩) (ownsRow_setCell_other (a:=⟨r,1,none⟩) (ownsRow_setCell_other (a:=⟨r,0,none⟩) ho f a) f b) f c) f d
theorem qu2{w X:World}{r:Nat}{a b c d:Value}(h:Below w.heap.size w X)(hr:w.heap.size≤r):Below w.heap.size w (qiC X r a b c d):=(((h.setCell hr _).setCell hr _).setCell hr _).setCell hr _
structure Hd (w:World) (mv:Array Value) (X:World):Prop where
 bel:Below w.heap.size w X
 x:X.heap[w.heap.size]? =some (.cells mv 120 (0,0))
 r:X.heap[w.heap.size+1]? =some (.cells #[.int .i64 0,.slice none 0 0,.slice none 0 0,.int .i64 0] 44 (0,0))
theorem Hd.below{w:World}{mv:Array Value}{X Y:World}(h:Hd w mv X)(hb:Below X.heap.size X Y):Hd w mv Y:=⟨h.bel.trans (hb.mono h.bel.size),aA h.x hb,aA h.r hb⟩
theorem Hd.only{w:World}{mv:Array Value}{X Y:World}{g n c B:Nat}{xs:List Value}(h:Hd w mv X)(ho:Only (.slice (some ⟨g,0,none⟩) n c) X Y)(hw:X.ownsRow B 3 1 (.slice (some ⟨g,0,none⟩) n c) n xs)(hg:w.heap.size≤g):Hd w mv Y:=
 ⟨h.bel.trans (ho.below (λb e=>by simp[Value.ownBlock]at e;omega)),(ho.block _ (aJ hw (by decide) h.x)).trans h.x,(ho.block _ (aJ hw (by decide) h.r)).trans h.r⟩
theorem Hd.grown{w:World}{mv:Array Value}{X Y:World}{v:Value}{n B:Nat}{xs:List Value}(h:Hd w mv X)(hg:X.grownBy Y v.ownBlock)(hw:X.ownsRow B 3 1 v n xs)(hB:w.heap.size≤B):Hd w mv Y:=
 ⟨h.bel.trans ⟨hg.os,hg.tape,hg.output,hg.size,λk hk=>hg.block k (Nat.lt_of_lt_of_le hk h.bel.size) (λe=>by have:=(hw.lt k e.symm).1;omega)⟩,
  (hg.block _ (lt_of_block h.x) (λe=>aJ hw (by decide) h.x e.symm)).trans h.x,(hg.block _ (lt_of_block h.r) (λe=>aJ hw (by decide) h.r e.symm)).trans h.r⟩
theorem qEO(N:Nat→Nat)(ss:List StD)(tn:Nat)(G:uH ss tn)(leaf f t:Nat)(hl:leaf<ss.length)(hf:f<ss.length)(ht:t<ss.length)(hlf:f∈up ss leaf)(ix sg:Int)(lets act:Value)(w:World)(hN:NodesI w N ss ss.length)(hNB:NodeB w N ss.length):
  Calls Tryz.prog 47 #[.agg #[.int .i64 ix,.int .i64 sg,.pointer (some ⟨N f,0,none⟩),.pointer (some ⟨N t,0,none⟩),lets,act],.pointer (some ⟨N leaf,0,none⟩)] w λe w'=>∃ge ce gn cn,e=.returned (.agg #[.int .i64 ix,.slice (some ⟨ge,0,none⟩) (gJ ss leaf f t).length ce,.slice (some ⟨gn,0,none⟩) (dQ ss f t).length cn,.int .i64 (qdH ss f t)])∧
   bO w w' (.slice (some ⟨ge,0,none⟩) (gJ ss leaf f t).length ce) (gJ ss leaf f t)∧bO w w' (.slice (some ⟨gn,0,none⟩) (dQ ss f t).length cn) (dQ ss f t)∧ge≠gn∧Below w.heap.size w w':=by
 have T:=G.tree;have h200:=G.n2;have HS:Hid (∀w',Below w.heap.size w w'→NodesI w' N ss ss.length∧NodeB w' N ss.length):=λw' h=>⟨hN.below h,hNB.below h⟩;obtain⟨dv,hdv⟩:∃dv,dv=qdU N ss f t:=⟨_,rfl⟩;have CA:=hid (λw' (h:Below w.heap.size w w')=>qCY N ss T h200 f t hf ht w' (HS.out w' h).1.1 (HS.out w' h).2);have dcase:=qhT ss f t;have PT:Hid (∀w',Below w.heap.size w w'→Calls Tryz.prog 104 #[.pointer (some ⟨N t,0,none⟩),dv] w' λe w''=>∃v,e=.returned v∧uX w' w'' v N (below ss t (dom ss f t))∧Below w'.heap.size w' w''):=λw' h=>by
  rw[hdv];exact qyE N ss T h200 t (dom ss f t) ht (dcase.imp id λ⟨m,h1,h2,h3,h4⟩=>⟨m,h1,h2,List.mem_of_mem_tail h4⟩) w' (HS.out w' h).1.1 (HS.out w' h).2
 have PL:Hid (∀w',Below w.heap.size w w'→Calls Tryz.prog 104 #[.pointer (some ⟨N leaf,0,none⟩),dv] w' λe w''=>∃v,e=.returned v∧uX w' w'' v N (gJ ss leaf f t)∧Below w'.heap.size w' w''):=λw' h=>by
  rw[hdv];exact qyE N ss T h200 leaf (dom ss f t) hl (dcase.imp id λ⟨m,h1,h2,h3,h4⟩=>⟨m,h1,h2,qp6 T leaf hl f hlf m (List.mem_of_mem_tail h3)⟩) w' (HS.out w' h).1.1 (HS.out w' h).2
 have DR:=hid (λw' (h:Below w.heap.size w w')=>qv2 N ss tn G t ht w' (HS.out w' h).1);rw[←hdv]at CA;have L1:Hid ((below ss t (dom ss f t)).length≤200∧∀x,x∈below ss t (dom ss f t)→x<ss.length):=hid ⟨by have:=qgZ T ht (dom ss f t);omega,qiZ T ht _⟩;have L2:Hid ((bM ss t).length≤200∧∀x,x∈bM ss t→x<ss.length):=hid ⟨by have:=qa6 G (ss.length-t) t ht rfl;omega,qoG G _ t ht rfl⟩;have L3:Hid ((gJ ss leaf f t).length≤200∧∀x,x∈gJ ss leaf f t→x<ss.length):=hid ⟨by have:=qgZ T hl (dom ss f t);unfold gJ;omega,qiZ T hl _⟩;have hne:=qu3 T (f:=f) ht;have NX:Hid (qdH ss f t=(dQ ss f t).getD ((dQ ss f t).length-1) 0):=hid rfl;have EN:Hid (dQ ss f t=(below ss t (dom ss f t)).reverse++bM ss t):=hid rfl;obtain⟨l3,hl3⟩:∃l,l=gJ ss leaf f t:=⟨_,rfl⟩;obtain⟨le,hle⟩:∃l,l=dQ ss f t:=⟨_,rfl⟩;obtain⟨nx,hnx⟩:∃l,l=qdH ss f t:=⟨_,rfl⟩;obtain⟨l1,hl1⟩:∃l,l=below ss t (dom ss f t):=⟨_,rfl⟩;obtain⟨l2,hl2⟩:∃l,l=bM ss t:=⟨_,rfl⟩;rw[←hl3]at PL L3⊢;rw[←hnx]at NX⊢;rw[←hle]at EN NX⊢;rw[←hl1]at PT L1 EN hne;rw[←hl2]at DR L2 EN;have n1p:0<l1.length:=List.length_pos_iff.2 hne;obtain⟨n1,hn1⟩:∃n,n=l1.length:=⟨_,rfl⟩;obtain⟨n2,hn2⟩:∃n,n=l2.length:=⟨_,rfl⟩;have N1:=hid hn1;have N2:=hid hn2;have LE:Hid (le.length=n1+n2):=hid (by rw[EN.out,List.length_append,List.length_reverse,hn1,hn2]);have b1:n1≤200:=by rw[hn1];exact L1.out.1
 have b2:n2≤200:=by rw[hn2];exact L2.out.1
 rw[←hn1]at n1p;have ID:=hid (λl v w0 w' (hw:Below w.heap.size w w') (h1:l.length≤200∧∀x,x∈l→x<ss.length) (h2:uX w0 w' v N l)=>qw4 N ss l (by omega) h1.2 v w0 w' (HS.out w' hw).1.1 h2);obtain⟨i0,hi0,hz0,hz1,hz2⟩:=info_parts Tryz.infoInt0;clear hdv hN hNB dcase hl1 hl2 hl3 hle hnx hne hn1 hn2;have H0:Hid (Hd w #[.int .i64 ix,.int .i64 sg,.pointer (some ⟨N f,0,none⟩),.pointer (some ⟨N t,0,none⟩),lets,act] ((w.alloc (.cells #[.int .i64 ix,.int .i64 sg,.pointer (some ⟨N f,0,none⟩),.pointer (some ⟨N t,0,none⟩),lets,act] 120)).alloc (.cells #[.int .i64 0,.slice none 0 0,.slice none 0 0,.int .i64 0] 44))):=hid ⟨aD _ _ _,aA (heap_alloc_new w _) (aB _ _),qjO w _ _⟩;go_enter Tryz.func47,Tryz.ntmps47;go_wp2_with(go_at_call 103;refine(CA.out _ (aD _ _ _)).mono ?_;rintro e w1 ⟨rfl,hb⟩;have H1:=hid (H0.out.below hb);obtain⟨c10,_,_,c13,_,_⟩:=tQ H1.out.x;clear hb);go_wp2_with(go_at_call 104;refine(PT.out _ H1.out.bel).mono ?_;rintro e w2 ⟨v1,rfl,ho,hb⟩;have H2:=hid (H1.out.below hb);have P2:=hid ho;clear ho hb);go_wp2_with(go_at_call 100;refine(ID.out l1 v1 _ _ H2.out.bel L1.out P2.out).mono ?_;rw[←N1.out];rintro e w3 ⟨g1,p1,rfl,ho,hb⟩;have H3:=hid (H2.out.below hb);have I3:=hid ho;have G1:=hid (World.ownsRow.lt ho g1 rfl);clear ho hb);go_wp2_with(go_at_call 105;refine(qH8 g1 n1 p1 w2.heap.size l1 w3 N1.out.symm (by omega) (by have:=I3.out;unfold bO at this;rw[←N1.out]at this;exact this)).mono ?_;rintro e w4 ⟨rfl,ho,hon⟩;have R4:=hid ho;have H4:=hid (H3.out.only hon (by have:=I3.out;unfold bO at this;rw[←N1.out]at this;exact this) (Nat.le_trans H2.out.bel.size G1.out.1));obtain⟨c40,_,_,c43,_,_⟩:=tQ H4.out.x;clear ho hon);go_wp2_with(go_at_call 101;refine(DR.out _ H4.out.bel).mono ?_;rintro e w5 ⟨v2,rfl,ho,hb⟩;have H5:=hid (H4.out.below hb);have P5:=hid ho;have R5:=hid (aI R4.out hb);clear ho hb);go_wp2_with(first
  |(go_at_call 100;refine(ID.out l2 v2 _ _ H5.out.bel L2.out P5.out).mono ?_;rw[←N2.out];rintro e w6 ⟨g2,p2,rfl,ho,hb⟩;have H6:=hid (H5.out.below hb);have I6:=hid ho;have R6:=hid (aI R5.out hb);clear ho hb)
  |(at_builtin;refine wpList_append_own _ rfl (.tmp 31) (.tmp 35) 30 rfl w2.heap.size 3 i0 (.int .i64 0) 1 8 Tryz.underlying30 hi0 hz0 hz1 hz2 rfl (by decide) (.slice (some ⟨g1,0,none⟩) n1 p1) n1 (aG l1.reverse) rfl R6.out ⟨g2,0,none⟩ n2 p2 (aG l2) rfl (by rw[yZ,←N2.out];omega) (qd1 (by have:=I6.out;unfold bO at this;rw[←N2.out]at this;exact this)) (y6 l2) (by unfold maxLen;omega) (by omega) (by have:=R6.out.lt g1 rfl;omega) ?_))
 intro v' w7 hown hgrow hnil;obtain⟨q,hq⟩:∃q,n1+n2=q+1:=⟨n1+n2-1,by omega⟩;have H7:=hid (H6.out.grown hgrow R6.out H2.out.bel.size);have hown2:w7.ownsRow w2.heap.size 3 1 v' (q+1) (aG le):=by rw[EN.out,←hq];simpa[aG]using hown
 obtain⟨gn,pn,hgn,hgl,hgs⟩:=World.ownsRow.form hown2 (by omega);subst hgn;have O7:=hid hown2;have LQ:Hid (le.length=q+1):=hid (by rw[LE.out,hq]);have lc:w7.cell? ⟨gn,q,none⟩=some (.int .i64 nx):=by
  rw[World.ownsRow.cellAt hown2 q (by omega),NX.out,LQ.out];simp[aG,List.getD_eq_getElem?_getD,show q<le.length by rw[LQ.out];omega]
 obtain⟨c70,_,_,_,_,_⟩:=tQ H7.out.x;have qn:(q:Int)<(q:Int)+1:=by omega
 have q0:(0:Int)≤(q:Int):=by omega
 have qI:(q:Int)≤400:=by omega
 have qw:IntKind.i64.wrap (q:Int)=q:=IntWalk.i64_in _ (by omega);have q3:q≤400:=by omega
 have gf:Hid (gn≠w.heap.size+1):=hid (λe=>aJ hown2 (by decide) H7.out.r (by simp[Value.ownBlock,e]));clear hown hgrow hnil hown2;have HQ:=hid hq;clear hq;go_wp2_with fail;have D7:=hid (H7.out.below ((Below.refl _ _).drew));clear c10 c13 c40 c43;go_region_held3(λw'=>w'.cell? ⟨w.heap.size,0,none⟩=some (.int .i64 ix)∧w'.cell? ⟨gn,q,none⟩=some (.int .i64 nx)) (first|(with_reducible exact SB.out)|(with_reducible exact SA.out)|exact And.intro ((qwL (Nat.ne_of_lt (Nat.lt_succ_self _))).trans SB.out.1) ((qwL gf.out).trans SB.out.2)|go_keep)
  (first
   |(go_at_call 104;refine(PL.out _ D7.out.bel).mono ?_;rintro e w8 ⟨v3,rfl,ho,hb⟩;have H8:=hid (D7.out.below hb);have P8:=hid ho;have O8:=hid (aI O7.out (qhK hb));have SA:=hid (And.intro (tQ H8.out.x).1 ((qhK hb).cell (p:=⟨gn,q,none⟩) hgs|>.trans lc));have gl8:=(O8.out.lt gn rfl).2;clear ho hb)
   |(go_at_call 100;refine(ID.out l3 v3 _ _ H8.out.bel L3.out P8.out).mono ?_;rintro e w9 ⟨g3,p3,rfl,ho,hb⟩;have H9:=hid (H8.out.below hb);have I9:=hid ho;have O9:=hid (aI O8.out hb);have SB:=hid (And.intro (tQ H9.out.x).1 (hb.cell (p:=⟨gn,q,none⟩) gl8|>.trans SA.out.2));obtain⟨z0,z1,z2,z3⟩:=aC H9.out.r;obtain⟨y0,y1,y2,y3⟩:=qjX H9.out.r;have gl9:=(World.ownsRow.lt ho g3 rfl);clear ho hb))
 all_goals
  go_wp2;obtain⟨k0,k1,k2,k3⟩:=aC (qyK (a:=.int .i64 ix) (b:=.slice (some ⟨g3,0,none⟩) l3.length p3) (c:=.slice (some ⟨gn,0,none⟩) (q+1) pn) (d:=.int .i64 nx) H9.out.r);refine bodyPost_ret (v:=.agg #[.int .i64 ix,.slice (some ⟨g3,0,none⟩) l3.length p3,.slice (some ⟨gn,0,none⟩) (q+1) pn,.int .i64 nx]) (by simp[results,Tryz.results47,go_sem,k0,k1,k2,k3]) rfl ?_;have a1:=qpM (a:=.int .i64 ix) (b:=.slice (some ⟨g3,0,none⟩) l3.length p3) (c:=.slice (some ⟨gn,0,none⟩) (q+1) pn) (d:=.int .i64 nx) I9.out H9.out.r (by decide);have a2:=qpM (a:=.int .i64 ix) (b:=.slice (some ⟨g3,0,none⟩) l3.length p3) (c:=.slice (some ⟨gn,0,none⟩) (q+1) pn) (d:=.int .i64 nx) O9.out H9.out.r (by decide);refine⟨g3,p3,gn,pn,by rw[LQ.out],qHK a1 H8.out.bel.size,?_,?_,qu2 H9.out.bel (by omega)⟩
  ·rw[LQ.out]
   unfold bO;rw[LQ.out];exact aM a2 H2.out.bel.size
  ·have:=gl9.1;omega
end Go.Proofs.YtiimkhepplkocaaGreat
namespace Go.Proofs.YtiimkhepplkocaaGreat
open Go.RowKit Go.Sort
set_option linter.unusedVariables false
attribute [local go_sem ↓] Go.wp_at_zero Go.wp_at_succ
theorem vD{w:World}{B E:Nat}(h:w.heap[E]? =some (.cells #[] 3 (0,0)))(hB:B≤E):w.ownsRow B 3 1 (.slice (some ⟨E,0,none⟩) 0 0) 0 []:=
 ⟨rfl,.inr ⟨E,0,#[],rfl,hB,h,Nat.le_refl _,by decide,rfl,rfl⟩⟩
theorem qp4(w:World)(a b c d:Obj):((((w.alloc a).alloc b).alloc c).alloc d).drew.heap[w.heap.size+1+1]? =some c:=by
 have h:(((w.alloc a).alloc b).alloc c).heap[w.heap.size+1+1]? =some c:=by
  have:=heap_alloc_new ((w.alloc a).alloc b) c;rwa[show((w.alloc a).alloc b).heap.size=w.heap.size+1+1 by simp]at this
 exact aA h (aB _ d).drew
theorem qoQ(w:World)(a b c d:Obj):((((w.alloc a).alloc b).alloc c).alloc d).drew.heap[w.heap.size+1+1+1]? =some d:=by
 have:=heap_alloc_new (((w.alloc a).alloc b).alloc c) d;rwa[show(((w.alloc a).alloc b).alloc c).heap.size=w.heap.size+1+1+1 by simp]at this
theorem qEN(N:Nat→Nat)(ss:List StD)(leaf:Nat)(hl:leaf<ss.length)(ix sg:Int)(fr lets act:Value)(w:World)(hN:Nodes w N ss ss.length):
  Calls Tryz.prog 47 #[.agg #[.int .i64 ix,.int .i64 sg,fr,.pointer none,lets,act],.pointer (some ⟨N leaf,0,none⟩)] w λe w'=>∃ge gn,e=.returned (.agg #[.int .i64 ix,.slice (some ⟨ge,0,none⟩) 0 0,.slice (some ⟨gn,0,none⟩) 0 0,.int .i64 (leaf:Int)])∧
   bO w w' (.slice (some ⟨ge,0,none⟩) 0 0) []∧bO w w' (.slice (some ⟨gn,0,none⟩) 0 0) []∧ge≠gn∧Below w.heap.size w w':=by
 obtain⟨n1,n2,n3⟩:=hN leaf hl;clear hN n3;have H0:Hid (Hd w #[.int .i64 ix,.int .i64 sg,fr,.pointer none,lets,act] ((w.alloc (.cells #[.int .i64 ix,.int .i64 sg,fr,.pointer none,lets,act] 120)).alloc (.cells #[.int .i64 0,.slice none 0 0,.slice none 0 0,.int .i64 0] 44))):=hid ⟨aD _ _ _,aA (heap_alloc_new w _) (aB _ _),qjO w _ _⟩;have SS:Hid (∀X,Hd w #[.int .i64 ix,.int .i64 sg,fr,.pointer none,lets,act] X→X.cell? ⟨w.heap.size,0,none⟩=some (.int .i64 ix)∧X.cell? ⟨N leaf,0,none⟩=some (.int .i64 (leaf:Int))):=hid (λX h=>⟨(tQ h.x).1,(h.bel.cell (p:=⟨N leaf,0,none⟩) n1).trans n2⟩);go_enter Tryz.func47,Tryz.ntmps47;go_wp2_with fail;have LF:Hid (∀a b c d:Obj,((((w.alloc a).alloc b).alloc c).alloc d).drew.cell? ⟨N leaf,0,none⟩=some (.int .i64 (leaf:Int))):=hid (λa b c d=>((((aD w a b).alloc (by simp;omega) c).alloc (by simp;omega) d).drew.cell (p:=⟨N leaf,0,none⟩) n1).trans n2);have BX:Hid (∀a b c d:Obj,Below w.heap.size w ((((w.alloc a).alloc b).alloc c).alloc d).drew):=hid (λa b c d=>(((aD w a b).alloc (by simp;omega) c).alloc (by simp;omega) d).drew);clear n2;have nl:¬(N leaf=w.heap.size):=by omega
 go_region_held3(λw'=>w'.cell? ⟨w.heap.size,0,none⟩=some (.int .i64 ix)∧w'.cell? ⟨N leaf,0,none⟩=some (.int .i64 (leaf:Int)))
  (first|exact SS.out _ H0.out|exact SS.out _ (H0.out.below (Below.refl _ _).drew)|exact SS.out _ (H0.out.below (aB _ _).drew)|exact SS.out _ (H0.out.below (aD _ _ _).drew)|exact SS.out _ (H0.out.below ((Below.refl _ _).drew.alloc (Nat.le_refl _) _))|(refine And.intro ?_ (LF.out _ _ _ _);go_keep)|go_keep)
  (first|fail)
 ·go_wp2
  refine bodyPost_ret (v:=.agg #[.int .i64 ix,.slice (some ⟨w.heap.size+1+1,0,none⟩) 0 0,.slice (some ⟨w.heap.size+1+1+1,0,none⟩) 0 0,.int .i64 (leaf:Int)]) (by simp[results,Tryz.results47,go_sem]) rfl ?_;exact⟨_,_,rfl,vD (qp4 w _ _ _ _) (by omega),vD (qoQ w _ _ _ _) (by omega),by omega,BX.out _ _ _ _⟩
 ·go_wp2
  refine bodyPost_ret (v:=.agg #[.int .i64 ix,.slice (some ⟨w.heap.size+1+1+1,0,none⟩) 0 0,.slice (some ⟨w.heap.size+1+1,0,none⟩) 0 0,.int .i64 (leaf:Int)]) (by simp[results,Tryz.results47,go_sem]) rfl ?_;exact⟨_,_,rfl,vD (qoQ w _ _ _ _) (by omega),vD (qp4 w _ _ _ _) (by omega),by omega,BX.out _ _ _ _⟩
end Go.Proofs.YtiimkhepplkocaaGreat
namespace Go.Proofs.YtiimkhepplkocaaGreat
open Go.RowKit Go.Sort
set_option linter.unusedVariables false
attribute [local go_sem ↓] Go.wp_at_zero Go.wp_at_succ
def bR(ss:List StD):List Nat:=0::bM ss 0
def dD(ss:List StD):Nat:=(bR ss).getD ((bR ss).length-1) 0
theorem qBH(N:Nat→Nat)(ss:List StD)(tn:Nat)(G:uH ss tn)(mb tg m tc:Nat)(w:World)(hN:NodesI w N ss ss.length)(c0:w.cell? ⟨mb,0,none⟩=some (.slice (some ⟨tg,0,none⟩) m tc))(hm0:0<m)(ht:w.cell? ⟨tg,0,none⟩=some (.pointer (some ⟨N 0,0,none⟩))):
  Calls Tryz.prog 44 #[.pointer (some ⟨mb,0,none⟩)] w λe w'=>∃ge gn cn,e=.returned (.agg #[.int .i64 (-1),.slice (some ⟨ge,0,none⟩) 0 0,.slice (some ⟨gn,0,none⟩) (bR ss).length cn,.int .i64 (dD ss)])∧
   bO w w' (.slice (some ⟨ge,0,none⟩) 0 0) []∧bO w w' (.slice (some ⟨gn,0,none⟩) (bR ss).length cn) (bR ss)∧ge≠gn∧Below w.heap.size w w':=by
 have h0:0<ss.length:=G.n1;have HS:Hid (∀w',Below w.heap.size w w'→NodesI w' N ss ss.length):=λw' h=>hN.below h;have DR:=hid (λw' (h:Below w.heap.size w w')=>qv2 N ss tn G 0 h0 w' (HS.out w' h));have L2:Hid ((bM ss 0).length≤200∧∀x,x∈bM ss 0→x<ss.length):=hid ⟨by have:=qa6 G (ss.length-0) 0 h0 rfl;have:=G.n2;omega,qoG G _ 0 h0 rfl⟩;have EN:Hid (bR ss=[0]++bM ss 0):=hid rfl;have NX:Hid (dD ss=(bR ss).getD ((bR ss).length-1) 0):=hid rfl;obtain⟨le,hle⟩:∃l,l=bR ss:=⟨_,rfl⟩;obtain⟨nx,hnx⟩:∃l,l=dD ss:=⟨_,rfl⟩;obtain⟨l2,hl2⟩:∃l,l=bM ss 0:=⟨_,rfl⟩;rw[←hnx]at NX⊢;rw[←hle]at EN NX⊢;rw[←hl2]at DR L2 EN;obtain⟨n2,hn2⟩:∃n,n=l2.length:=⟨_,rfl⟩;have N2:=hid hn2;have b2:n2≤200:=by rw[hn2];exact L2.out.1
 have ID:=hid (λl v w0 w' (hw:Below w.heap.size w w') (h1:l.length≤200∧∀x,x∈l→x<ss.length) (h2:uX w0 w' v N l)=>qw4 N ss l (by omega) h1.2 v w0 w' (HS.out w' hw).1 h2);obtain⟨i0,hi0,hz0,hz1,hz2⟩:=info_parts Tryz.infoInt0;have ml:mb<w.heap.size:=World.block_lt_of_cell? w ⟨mb,0,none⟩ c0;have tl:=World.block_lt_of_cell? w ⟨tg,0,none⟩ ht;have nm:¬(mb=w.heap.size):=by omega
 have nm2:¬(mb=w.heap.size+1):=by omega
 have nt:¬(tg=w.heap.size):=by simp at tl;omega
 have nt2:¬(tg=w.heap.size+1):=by simp at tl;omega
 have mi:(0:Int)<(m:Int):=by omega
 clear hN hl2 hle hnx hn2;obtain⟨W,hW⟩:∃W,W=(w.alloc (.cells #[.int .i64 0,.slice none 0 0,.slice none 0 0,.int .i64 0] 44)).alloc (.cells #[.int .i64 0] 3):=⟨_,rfl⟩;have BW:Hid (Below w.heap.size w W):=hid (by rw[hW];exact aD _ _ _);have RW:Hid (W.heap[w.heap.size]? =some (.cells #[.int .i64 0,.slice none 0 0,.slice none 0 0,.int .i64 0] 44 (0,0))):=hid (by rw[hW];exact aA (heap_alloc_new w _) (aB _ _));have OW:Hid (W.ownsRow w.heap.size 3 1 (.slice (some ⟨w.heap.size+1,0,none⟩) 1 1) 1 (aG [0])):=hid (by rw[hW];simpa[aG]using qdL w (w.alloc (.cells #[.int .i64 0,.slice none 0 0,.slice none 0 0,.int .i64 0] 44)) 0 (by simp));have HW:=hid hW;clear hW;go_enter Tryz.func44,Tryz.ntmps44;go_wp2_with(first
  |(go_at_call 101;rw[←HW.out];refine(DR.out _ BW.out).mono ?_;rintro e w5 ⟨v2,rfl,ho,hb⟩;have B5:=hid (BW.out.trans (hb.mono BW.out.size));have P5:=hid ho;have R5:=hid (aA RW.out hb);have O5:=hid (aI OW.out hb);clear ho hb)
  |(go_at_call 100;refine(ID.out l2 v2 _ _ B5.out L2.out P5.out).mono ?_;rw[←N2.out];rintro e w6 ⟨g2,p2,rfl,ho,hb⟩;have B6:=hid (B5.out.trans (hb.mono B5.out.size));have I6:=hid ho;have R6:=hid (aA R5.out hb);have O6:=hid (aI O5.out hb);clear ho hb)
  |(at_builtin;refine wpList_append_own _ rfl (.tmp 4) (.tmp 12) 30 rfl w.heap.size 3 i0 (.int .i64 0) 1 8 Tryz.underlying30 hi0 hz0 hz1 hz2 rfl (by decide) (.slice (some ⟨w.heap.size+1,0,none⟩) 1 1) 1 (aG [0]) rfl O6.out ⟨g2,0,none⟩ n2 p2 (aG l2) rfl (by rw[yZ,←N2.out];omega) (qd1 (by have:=I6.out;unfold bO at this;rw[←N2.out]at this;exact this)) (y6 l2) (by unfold maxLen;omega) (by omega) B6.out.size ?_))
 intro v' w7 hown hgrow hnil;have B7:=hid (B6.out.grown hgrow B6.out.size (λk e=>by simp[Value.ownBlock]at e;omega));have hown2:w7.ownsRow w.heap.size 3 1 v' (n2+1) (aG le):=by rw[EN.out,Nat.add_comm];simpa[aG]using hown
 have R7:=hid ((hgrow.block _ (lt_of_block R6.out) (λe=>aJ O6.out (by decide) R6.out e.symm)).trans R6.out);obtain⟨gn,pn,hgn,hgl,hgs⟩:=World.ownsRow.form hown2 (by omega);rw[show 1+n2=n2+1 by omega]at*;subst hgn;have O7:=hid hown2;have LQ:Hid (le.length=n2+1):=hid (by rw[EN.out,N2.out];simp);have lc:w7.cell? ⟨gn,n2,none⟩=some (.int .i64 nx):=by
  rw[World.ownsRow.cellAt hown2 n2 (by omega),NX.out,LQ.out];simp[aG,List.getD_eq_getElem?_getD,show n2<le.length by rw[LQ.out];omega]
 obtain⟨z0,z1,z2,z3⟩:=aC R7.out;obtain⟨y0,y1,y2,y3⟩:=qjX R7.out;have rl:=lt_of_block R7.out;have gf:¬(gn=w.heap.size):=λe=>aJ hown2 (by decide) R7.out (by simp[Value.ownBlock,e]);have gg:¬(gn=w7.heap.size):=by omega
 have rg:¬(w.heap.size=w7.heap.size):=by omega
 have qn:(n2:Int)<(n2:Int)+1:=by omega
 have q0:(0:Int)≤(n2:Int):=by omega
 have qw:IntKind.i64.wrap (n2:Int)=n2:=IntWalk.i64_in _ (by omega);clear hown hgrow hnil hown2 c0 ht nm nm2 nt nt2 tl;go_wp2;obtain⟨k0,k1,k2,k3⟩:=aC (aA (qyK (a:=.int .i64 (-1)) (b:=.slice (some ⟨w7.heap.size,0,none⟩) 0 0) (c:=.slice (some ⟨gn,0,none⟩) (n2+1) pn) (d:=.int .i64 nx) R7.out) (aB _ (.cells #[] 3)));refine bodyPost_ret (v:=.agg #[.int .i64 (-1),.slice (some ⟨w7.heap.size,0,none⟩) 0 0,.slice (some ⟨gn,0,none⟩) (n2+1) pn,.int .i64 nx]) (by simp[results,Tryz.results44,go_sem,k0,k1,k2,k3]) rfl ?_;have a2:=qpM (a:=.int .i64 (-1)) (b:=.slice (some ⟨w7.heap.size,0,none⟩) 0 0) (c:=.slice (some ⟨gn,0,none⟩) (n2+1) pn) (d:=.int .i64 nx) O7.out R7.out (by decide);have b4:=qu2 (a:=.int .i64 (-1)) (b:=.slice (some ⟨w7.heap.size,0,none⟩) 0 0) (c:=.slice (some ⟨gn,0,none⟩) (n2+1) pn) (d:=.int .i64 nx) B7.out (Nat.le_refl _);refine⟨w7.heap.size,gn,pn,by rw[LQ.out],?_,?_,by omega,b4.alloc b4.size _⟩
 ·exact vD (by have:=heap_alloc_new (qiC w7 w.heap.size (.int .i64 (-1)) (.slice (some ⟨w7.heap.size,0,none⟩) 0 0) (.slice (some ⟨gn,0,none⟩) (n2+1) pn) (.int .i64 nx)) (.cells #[] 3);simpa using this) B7.out.size
 ·unfold bO
  rw[LQ.out];exact aI a2 (aB _ _)
end Go.Proofs.YtiimkhepplkocaaGreat
namespace Go.Proofs.YtiimkhepplkocaaGreat
open Go.RowKit Go.Sort
set_option linter.unusedVariables false
attribute [local go_sem ↓] Go.wp_at_zero Go.wp_at_succ
def qdB(ts:List TrD)(s:Nat)(sg:Int)(j:Nat):Bool:=decide ((ts.getD j tr0).src=s)&&decide ((ts.getD j tr0).sig=sg)
def eO(ts:List TrD)(s:Nat)(sg:Int)(m:Nat):List Nat:=(List.range m).filter (qdB ts s sg)
def aU(ts:List TrD)(l:List Nat)(sg:Int):List Nat:=l.flatMap λs=>eO ts s sg ts.length
theorem qvE(ts:List TrD)(s:Nat)(sg:Int)(m:Nat):eO ts s sg (m+1)=eO ts s sg m++(if qdB ts s sg m then [m]else []):=by
 unfold eO;rw[List.range_succ,List.filter_append];by_cases h:qdB ts s sg m<;>simp[h]
theorem qvD(ts:List TrD)(s:Nat)(sg:Int)(m:Nat):(eO ts s sg m).length≤m:=by
 unfold eO;exact Nat.le_trans (List.length_filter_le _ _) (by simp)
theorem qvG(ts:List TrD)(l:List Nat)(s:Nat)(sg:Int):aU ts (l++[s]) sg=aU ts l sg++eO ts s sg ts.length:=by simp[aU]
theorem qg3(ts:List TrD)(sg:Int):∀l:List Nat,(aU ts l sg).length≤l.length*ts.length:=by
 intro l
 induction l with
 |nil=>simp[aU]
 |cons a r ih=>
  have h1:=qvD ts a sg ts.length;have:aU ts (a::r) sg=eO ts a sg ts.length++aU ts r sg:=by simp[aU]
  rw[this,List.length_append,List.length_cons,Nat.succ_mul];omega
structure Cd (w:World) (bx:Array Value) (g0:Nat) (ups:List Nat) (lv:Value) (l:List Nat) (X:World):Prop where
 bel:Below w.heap.size w X
 q:X.heap[w.heap.size]? =some (.cells bx 36 (0,0))
 u:∀j,j<ups.length→X.cell? ⟨g0,j,none⟩=some (.int .i64 ((ups.getD j 0:Nat):Int))
 lt:g0<X.heap.size
 o:X.ownsRow w.heap.size 3 1 lv l.length (aG l)
 ne:lv.ownBlock≠some g0
 nn:lv≠.slice none 0 0
theorem Cd.below{w:World}{bx:Array Value}{g0:Nat}{ups:List Nat}{lv:Value}{l:List Nat}{X Y:World}(h:Cd w bx g0 ups lv l X)(hb:Below X.heap.size X Y):Cd w bx g0 ups lv l Y:=
 ⟨h.bel.trans (hb.mono h.bel.size),aA h.q hb,λj hj=>(hb.cell (p:=⟨g0,j,none⟩) h.lt).trans (h.u j hj),Nat.lt_of_lt_of_le h.lt hb.size,aI h.o hb,h.ne,h.nn⟩
theorem Cd.grown{w:World}{bx:Array Value}{g0:Nat}{ups:List Nat}{lv:Value}{l l':List Nat}{X Y:World}{g cap:Nat}(h:Cd w bx g0 ups lv l X)(hg:X.grownBy Y lv.ownBlock)(ho:Y.ownsRow w.heap.size 3 1 (.slice (some ⟨g,0,none⟩) l'.length cap) l'.length (aG l'))(hat:lv.ownBlock=some g∨g=X.heap.size):Cd w bx g0 ups (.slice (some ⟨g,0,none⟩) l'.length cap) l' Y:=by
 refine⟨h.bel.trans ⟨hg.os,hg.tape,hg.output,hg.size,λk hk=>hg.block k (Nat.lt_of_lt_of_le hk h.bel.size) (λe=>by have:=(h.o.lt k e.symm).1;omega)⟩,
  (hg.block _ (lt_of_block h.q) (λe=>aJ h.o (by decide) h.q e.symm)).trans h.q,λj hj=>(hg.cell_far ⟨g0,j,none⟩ h.lt (λe=>h.ne e.symm)).trans (h.u j hj),Nat.lt_of_lt_of_le h.lt hg.size,ho,?_,by simp⟩
 intro e;simp[Value.ownBlock]at e;rcases hat with h1|h1
 ·exact h.ne (by rw[h1,e])
 ·have:=h.lt;omega
theorem qxK(so tq:Option Addr)(n sc tn tc:Nat)(ss:List StD)(ts:List TrD)(T:cN ss)(hn:n≤200)(htn:tn≤500)(k:Nat)(hk:k<n)(sg:Int)(w:World)(hs:StatesOf w so n ss)(ht:TransOf w tq tn ts):
  Calls Tryz.prog 50 #[.agg #[.slice so n sc,.slice tq tn tc],.int .i64 k,.int .i64 sg] w λe w'=>∃g cap,e=.returned (.slice (some ⟨g,0,none⟩) (aU ts (up ss k) sg).length cap)∧bO w w' (.slice (some ⟨g,0,none⟩) (aU ts (up ss k) sg).length cap) (aU ts (up ss k) sg)∧Below w.heap.size w w':=by
 obtain⟨i0,hi0,hz0,hz1,hz2⟩:=info_parts Tryz.infoInt0;have HL:Hid (ts.length=tn):=ht.1;have hks:k<ss.length:=by rw[hs.1];exact hk
 have C:=hid (qo9 so tq n sc tn tc ss T hn k hk ((w.alloc (.cells #[.slice so n sc,.slice tq tn tc] 36)).alloc (.cells #[] 3)) (hs.below (aD _ _ _)));have HT:=hid ht;have UL:=hid (pS T k hks);have US:ss.length≤200:=by rw[hs.1];exact hn
 obtain⟨ups,hups⟩:∃l,l=up ss k:=⟨_,rfl⟩;rw[←hups]at C UL⊢;obtain⟨nu,hnu⟩:∃n,n=ups.length:=⟨_,rfl⟩;rw[←hnu]at C UL;have NU:=hid hnu;have n2:nu≤200:=by have:=UL.out;omega
 have Q0:=hid (qx1 w (.cells #[.slice so n sc,.slice tq tn tc] 36) (.cells #[] 3));have E0:=hid (qjO w (.cells #[.slice so n sc,.slice tq tn tc] 36) (.cells #[] 3));clear hs ht hups hnu UL;go_enter Tryz.func50,Tryz.ntmps50;go_wp2_with(go_at_call 109;refine C.out.mono ?_;rintro e w1 ⟨g0,c0,rfl,ho,_,hb⟩;have B1:=hid ((aD _ _ _).trans (hb.mono (by simp;omega)));have Q1:=hid (aA Q0.out hb);have E1:=hid (aA E0.out hb);have G1:=hid (World.ownsRow.lt ho g0 rfl);have U1:=hid (qh5 ho NU.out);clear ho hb);have CL:=hid (λa=>qg3 ts sg (ups.take a));go_loopg [7,17] nu (λmm lv i X=>∃a:Nat,a≤nu∧mm=nu-a∧i=.int .i64 a∧Cd w #[.slice so n sc,.slice tq tn tc] g0 ups lv (aU ts (ups.take a) sg) X)
 case atStart=>
  have hg:=G1.out;simp at hg;refine⟨0,by omega,by omega,rfl,B1.out,Q1.out,λj hj=>U1.out.2.2 j (by rw[NU.out];exact hj),hg.2,?_,by simp[Value.ownBlock];omega,by simp⟩;simpa[aU,aG]using vD E1.out (show w.heap.size≤w.heap.size+1 by omega)
 case round=>
  obtain⟨a,ha,rfl,rfl,hC⟩:=hrel;by_cases hlt:a<nu
  ·have cu:=hC.u a (by rw[←NU.out];exact hlt)
   obtain⟨s,hsv⟩:∃s,s=ups.getD a 0:=⟨_,rfl⟩;rw[←hsv]at cu;have HSV:=hid hsv;obtain⟨q0,q1,_,_⟩:=aF hC.q;obtain⟨ao,cap,hv⟩:=cG hC.o;have CC:=hid hC;subst hv;have ai:(a:Int)<(nu:Int):=by omega
   have L0:Hid ((aU ts (ups.take a) sg).length≤100000):=hid (by
    have h1:=CL.out a;have h2:(ups.take a).length≤200:=by simp;omega
    have h3:ts.length≤500:=by rw[HL.out];exact htn
    exact Nat.le_trans h1 (Nat.le_trans (Nat.mul_le_mul h2 h3) (by omega)))
   clear hC hsv;go_wp2_with fail;clear cu q0 q1;go_loopg [7,24] tn (λmm lv j X=>∃b:Nat,b≤tn∧mm=tn-b∧j=.int .i64 b∧Cd w #[.slice so n sc,.slice tq tn tc] g0 ups lv (aU ts (ups.take a) sg++eO ts s sg b) X)
   case atStart=>exact⟨0,by omega,by omega,rfl,by simpa[eO]using CC.out⟩
   case round=>
    obtain⟨b,hb,rfl,rfl,hD⟩:=hrel;have DD:=hid hD;obtain⟨ao2,cap2,hv2⟩:=cG hD.o;subst hv2;by_cases hbt:b<tn
    ·obtain⟨tb,off,rfl,htl,htc⟩:=HT.out.2 (by omega)
     obtain⟨x1,x2,⟨co,cn,cc,x3,_,_⟩,x4,⟨do_,dn,dc,x5,_,_⟩⟩:=htc b hbt;obtain⟨td,htd⟩:∃td,td=ts.getD b tr0:=⟨_,rfl⟩;rw[←htd]at x1 x2 x4;have y1:=(hD.bel.cell (p:=⟨tb,off+b*5,none⟩) htl).trans x1;have y2:=(hD.bel.cell (p:=⟨tb,off+b*5+1,none⟩) htl).trans x2;have y3:=(hD.bel.cell (p:=⟨tb,off+b*5+2,none⟩) htl).trans x3;have y4:=(hD.bel.cell (p:=⟨tb,off+b*5+3,none⟩) htl).trans x4;have y5:=(hD.bel.cell (p:=⟨tb,off+b*5+4,none⟩) htl).trans x5;have bi:(b:Int)<(tn:Int):=by omega
     have FI:Hid (qdB ts s sg b=(decide (td.src=s)&&decide (td.sig=sg))):=hid (by unfold qdB;rw[←htd]);have L1:Hid ((aU ts (ups.take a) sg++eO ts s sg b).length≤200000):=hid (by have:=L0.out;have:=qvD ts s sg b;simp only[List.length_append];omega);obtain⟨sr,hsr⟩:∃x,x=td.src:=⟨_,rfl⟩;obtain⟨si,hsi⟩:∃x,x=td.sig:=⟨_,rfl⟩;rw[←hsr]at y1 FI;rw[←hsi]at y2 FI;clear hD htc x1 x2 x3 x4 x5 htd hsr hsi;by_cases hfit:qdB ts s sg b=true
     ·have hf2:=hfit
      rw[FI.out]at hf2;simp only[Bool.and_eq_true,decide_eq_true_eq]at hf2;obtain⟨rfl,rfl⟩:=hf2;have EX:=hid (show eO ts s si (b+1)=eO ts s si b++[b] by rw[qvE,if_pos hfit]);clear hfit FI;go_wp2_with(at_builtin;refine wpList_append_lies _ rfl (.tmp 39) (.tmp 41) 30 rfl w.heap.size 3 i0 _ 1 8 Tryz.underlying30 hi0 hz0 hz1 hz2 rfl (by decide) _ _ _ rfl (DD.out.below (aD _ _ _)).o ⟨wr.heap.size+1,0,none⟩ 1 1 [.int .i64 (b:Int)] rfl rfl (by simpa using vH (wr.alloc (.cells #[.int .i64 (s:Int),.int .i64 si,.slice co cn cc,.int .i64 td.target,.slice do_ dn dc] 60)) (.int .i64 (b:Int)) 3) (by intro u hu;simp at hu;subst hu;rfl) (by omega) (by have:=L1.out;unfold maxLen;omega) (by have:=L1.out;omega) (by have:=DD.out.bel.size;simp;omega) (wr.heap.size+1+1) (by simp) ?_);intro g cap' w2 hown hgrow hat _;rw[←List.length_append]at hgrow hat;have D2:=hid ((DD.out.below (aD wr _ _)).grown (l':=aU ts (ups.take a) si++eO ts s si (b+1)) hgrow (by rw[EX.out];simpa[aG,Nat.add_assoc]using hown) (by simpa using hat));have LE:Hid ((aU ts (ups.take a) si++eO ts s si b).length+1=(aU ts (ups.take a) si++eO ts s si (b+1)).length):=hid (by rw[EX.out];simp;omega);clear hown hgrow hat;go_wp2;go_roundg(tn-(b+1))
      case measure=>omega
      case rel=>exact⟨b+1,by omega,rfl,by simp,by rw[←List.length_append,LE.out];exact D2.out⟩
     ·have EX:=hid (show eO ts s sg (b+1)=eO ts s sg b by rw[qvE,if_neg hfit,List.append_nil])
      have hf2:=hfit;rw[FI.out]at hf2;have D2:Hid (Cd w #[.slice so n sc,.slice (some ⟨tb,off,none⟩) tn tc] g0 ups (.slice ao2 (aU ts (ups.take a) sg++eO ts s sg b).length cap2) (aU ts (ups.take a) sg++eO ts s sg (b+1)) (wr.alloc (.cells #[.int .i64 sr,.int .i64 si,.slice co cn cc,.int .i64 td.target,.slice do_ dn dc] 60))):=hid (by rw[EX.out];exact DD.out.below (Below.alloc (Below.refl _ _) (Nat.le_refl _) _));clear hfit FI;by_cases h1:sr=s
      ·subst h1
       have h2:¬si=sg:=by intro e;apply hf2;simp[e]
       clear hf2;go_wp2_with fail;go_roundg(tn-(b+1))
       case measure=>omega
       case rel=>exact⟨b+1,by omega,rfl,by simp,by simpa using D2.out⟩
      ·clear hf2
       go_wp2_with fail;go_roundg(tn-(b+1))
       case measure=>omega
       case rel=>exact⟨b+1,by omega,rfl,by simp,by simpa using D2.out⟩
    ·obtain rfl:b=tn:=by omega
     have D2:Hid (Cd w #[.slice so n sc,.slice tq b tc] g0 ups (.slice ao2 (aU ts (ups.take a) sg++eO ts s sg b).length cap2) (aU ts (ups.take (a+1)) sg) wr):=hid (by
      have h1:ups.take (a+1)=ups.take a++[s]:=by
       rw[HSV.out,List.take_add_one];have:=NU.out;rw[List.getD_eq_getElem?_getD,List.getElem?_eq_getElem (by omega)];rfl
      rw[h1,qvG,HL.out];exact DD.out)
     clear hD;go_wp2_with fail;go_roundg(nu-(a+1))
     case measure=>omega
     case rel=>exact⟨a+1,by omega,rfl,by simp,by simpa using D2.out⟩
  ·obtain rfl:a=nu:=by omega
   have hT:ups.take a=ups:=by rw[NU.out];exact List.take_length
   rw[hT]at hC;rcases hC.o.2 with⟨h1,_⟩|⟨g,cap,cur,rfl,_⟩
   ·exact absurd h1 hC.nn
   ·have CC:=hid hC
    clear hC;go_wp2;go_ret;exact⟨g,cap,rfl,CC.out.o,CC.out.bel⟩
end Go.Proofs.YtiimkhepplkocaaGreat
namespace Go.Proofs.YtiimkhepplkocaaGreat
open Go.RowKit Go.Sort
set_option linter.unusedVariables false
def aY(ss:List StD)(d:Int)(s:Nat):Bool:=decide (d<0)||b9 ss d.toNat s
theorem qo2(ss:List StD)(s:Nat):aY ss (-1) s=true:=by simp[aY]
theorem qjG(ss:List StD)(d s:Nat):aY ss (d:Int) s=b9 ss d s:=by
 have h:¬((d:Int)<0):=by omega
 simp[aY,h]
theorem qxE(ss:List StD)(k:Nat):(up ss k).filter (aY ss (-1))=below ss k (-1):=by
 rw[qu4];exact List.filter_eq_self.mpr λs _=>qo2 ss s
theorem qxD{ss:List StD}(T:cN ss){d:Nat}:∀n k,k<n→k<ss.length→d∈up ss k→(up ss k).filter (aY ss (d:Int))=below ss k d:=by
 intro n
 induction n with
 |zero=>intro k h;omega
 |succ n ih=>
  intro k hkn hk hd;by_cases e:k=d
  ·subst e
   have h1:(up ss k).filter (aY ss (k:Int))=[]:=by
    refine List.filter_eq_nil_iff.mpr λs hs=>?_;have h2:=vP T k hk s hs;rw[qjG];simp only[b9,decide_eq_true_eq];intro h3;have:=qp7 T (show s<ss.length by omega) h3;omega
   rw[h1];unfold below;rw[tH T hk,List.takeWhile_cons_of_neg (by simp)]
  ·have h0:0<k:=by
    rcases Nat.eq_zero_or_pos k with h|h
    ·subst h;rw[tI]at hd;simp at hd;omega
    ·exact h
   have hp:=uB T h0 hk;have ht:=qiJ T h0 hk;have hd2:d∈up ss (par ss k).toNat:=by rw[hp]at hd;simp at hd;exact hd.resolve_left (λh=>e h.symm)
   have hlt:(par ss k).toNat<k:=qp7 T hk (by
    rw[ht];have:∀m,m∈up ss m:=λm=>by simp only[up,upF];split<;>simp_all
    exact this _)
   have hk1:aY ss (d:Int) k=true:=by rw[qjG];simp only[b9,decide_eq_true_eq];rw[ht];exact hd2
   have hb:below ss k d=k::below ss (par ss k).toNat d:=by
    unfold below;rw[hp,List.takeWhile_cons_of_pos (by simp;omega)]
   rw[hb,hp,List.filter_cons_of_pos hk1,ih _ (by omega) (by omega) hd2]
theorem qFN{ss:List StD}(T:cN ss){leaf f t:Nat}(hl:leaf<ss.length)(hf:f∈up ss leaf):(up ss leaf).filter (aY ss (dom ss f t))=gJ ss leaf f t:=by
 unfold gJ;rcases qhT ss f t with h|⟨m,h,h2,h3,h4⟩
 ·rw[h];exact qxE ss leaf
 ·rw[h];exact qxD T (leaf+1) leaf (by omega) hl (qp6 T leaf hl f hf m (List.mem_of_mem_tail h3))
theorem qFM{ss:List StD}(T:cN ss){f t:Nat}(ht:t<ss.length):((up ss t).filter (aY ss (dom ss f t))).reverse++bM ss t=dQ ss f t:=by
 unfold dQ;rcases qhT ss f t with h|⟨m,h,h2,h3,h4⟩
 ·rw[h,qxE]
 ·rw[h,qxD T (t+1) t (by omega) ht (List.mem_of_mem_tail h4)]
end Go.Proofs.YtiimkhepplkocaaGreat
namespace Go.Proofs.YtiimkhepplkocaaGreat
open Go.RowKit Go.Sort
set_option linter.unusedVariables false
theorem qxL(so tq:Option Addr)(n sc tn tc:Nat)(ts:List TrD)(htn:tn≤500)(leaf:Nat)(j:Nat)(hj:j<tn)(hneg:(ts.getD j tr0).target<0)(w:World)(ht:TransOf w tq tn ts):
  Calls Tryz.prog 51 #[.agg #[.slice so n sc,.slice tq tn tc],.int .i64 leaf,.int .i64 j] w λe w'=>∃ge gn,e=.returned (.tuple #[.slice (some ⟨ge,0,none⟩) 0 0,.slice (some ⟨gn,0,none⟩) 0 0,.int .i64 leaf])∧bO w w' (.slice (some ⟨ge,0,none⟩) 0 0) []∧bO w w' (.slice (some ⟨gn,0,none⟩) 0 0) []∧ge≠gn∧Below w.heap.size w w':=by
 obtain⟨tb,off,rfl,htl,htc⟩:=ht.2 (by omega);obtain⟨x1,x2,⟨co,cn,cc,x3,_,_⟩,x4,⟨do_,dn,dc,x5,_,_⟩⟩:=htc j hj;obtain⟨td,htd⟩:∃td,td=ts.getD j tr0:=⟨_,rfl⟩;rw[←htd]at x1 x2 x4 hneg;obtain⟨tg,htg⟩:∃x,x=td.target:=⟨_,rfl⟩;rw[←htg]at x4 hneg;have ji:(j:Int)<(tn:Int):=by omega
 have FR:∀i,((w.alloc (.cells #[.slice so n sc,.slice (some ⟨tb,off,none⟩) tn tc] 36)).cell? ⟨tb,i,none⟩)=w.cell? ⟨tb,i,none⟩:=λi=>(aB _ _).cell (p:=⟨tb,i,none⟩) htl;have y1:=(FR _).trans x1;have y2:=(FR _).trans x2;have y3:=(FR _).trans x3;have y4:=(FR _).trans x4;have y5:=(FR _).trans x5;clear ht htc x1 x2 x3 x4 x5 FR htd htg;go_enter Tryz.func51,Tryz.ntmps51;go_wp2_with fail;refine bodyPost_ret (v:=.tuple #[.slice (some ⟨w.heap.size+1+1,0,none⟩) 0 0,.slice (some ⟨w.heap.size+1+1+1,0,none⟩) 0 0,.int .i64 (leaf:Int)]) (by simp[results,Tryz.results51,go_sem]) rfl ?_;have h3:∀a b c d:Obj,((((w.alloc a).alloc b).alloc c).alloc d).heap[w.heap.size+1+1]? =some c:=qp4 w;have h4:∀a b c d:Obj,((((w.alloc a).alloc b).alloc c).alloc d).heap[w.heap.size+1+1+1]? =some d:=qoQ w;exact⟨_,_,rfl,vD (h3 _ _ _ _) (by omega),vD (h4 _ _ _ _) (by omega),by omega,((aD w _ _).alloc (by simp;omega) _).alloc (by simp;omega) _⟩
end Go.Proofs.YtiimkhepplkocaaGreat
namespace Go.Proofs.YtiimkhepplkocaaGreat
open Go.RowKit Go.Sort
set_option linter.unusedVariables false
attribute [local go_sem ↓] Go.wp_at_zero Go.wp_at_succ
structure Pd (w:World) (bx tx:Array Value) (g0:Nat) (ups:List Nat) (lv:Value) (l:List Nat) (X:World):Prop where
 cd:Cd w bx g0 ups lv l X
 t:X.heap[w.heap.size+1]? =some (.cells tx 60 (0,0))
theorem Pd.below{w:World}{bx tx:Array Value}{g0:Nat}{ups:List Nat}{lv:Value}{l:List Nat}{X Y:World}(h:Pd w bx tx g0 ups lv l X)(hb:Below X.heap.size X Y):Pd w bx tx g0 ups lv l Y:=
 ⟨h.cd.below hb,aA h.t hb⟩
theorem Pd.grown{w:World}{bx tx:Array Value}{g0:Nat}{ups:List Nat}{lv:Value}{l l':List Nat}{X Y:World}{g cap:Nat}(h:Pd w bx tx g0 ups lv l X)(hg:X.grownBy Y lv.ownBlock)(ho:Y.ownsRow w.heap.size 3 1 (.slice (some ⟨g,0,none⟩) l'.length cap) l'.length (aG l'))(hat:lv.ownBlock=some g∨g=X.heap.size):Pd w bx tx g0 ups (.slice (some ⟨g,0,none⟩) l'.length cap) l' Y:=
 ⟨h.cd.grown hg ho hat,(hg.block _ (lt_of_block h.t) (λe=>aJ h.cd.o (by decide) h.t e.symm)).trans h.t⟩
structure Pe (w:World) (bx tx:Array Value) (g0:Nat) (ups:List Nat) (ge ce BB:Nat) (xs:List Nat) (lv:Value) (l:List Nat) (X:World):Prop where
 pd:Pd w bx tx g0 ups lv l X
 ex:X.ownsRow w.heap.size 3 1 (.slice (some ⟨ge,0,none⟩) xs.length ce) xs.length (aG xs)
 o2:X.ownsRow BB 3 1 lv l.length (aG l)
 b2:BB≤X.heap.size
theorem Pe.below{w:World}{bx tx:Array Value}{g0 ge ce BB:Nat}{ups xs:List Nat}{lv:Value}{l:List Nat}{X Y:World}(h:Pe w bx tx g0 ups ge ce BB xs lv l X)(hb:Below X.heap.size X Y):Pe w bx tx g0 ups ge ce BB xs lv l Y:=
 ⟨h.pd.below hb,aI h.ex hb,aI h.o2 hb,Nat.le_trans h.b2 hb.size⟩
theorem qjS{X:World}{B B' n:Nat}{v:Value}{xs:List Value}(h:X.ownsRow B' 3 1 v n xs)(hB:B≤B'):X.ownsRow B 3 1 v n xs:=
 ⟨h.1,h.2.imp id λ⟨g,c,cur,e,hb,r⟩=>⟨g,c,cur,e,Nat.le_trans hB hb,r⟩⟩
theorem Pe.fresh{w:World}{bx tx:Array Value}{g0 ge ce BB:Nat}{ups xs:List Nat}{lv:Value}{l l':List Nat}{X Y:World}{g cap:Nat}(h:Pe w bx tx g0 ups ge ce BB xs lv l X)(hb:Below X.heap.size X Y)(ho:Y.ownsRow X.heap.size 3 1 (.slice (some ⟨g,0,none⟩) l'.length cap) l'.length (aG l')):Pe w bx tx g0 ups ge ce BB xs (.slice (some ⟨g,0,none⟩) l'.length cap) l' Y:=by
 have hY:=h.below hb;have hg:=(ho.lt g rfl).1;have h1:=h.pd.cd.lt;have h2:=(h.ex.lt ge rfl).2;refine⟨⟨⟨hY.pd.cd.bel,hY.pd.cd.q,hY.pd.cd.u,hY.pd.cd.lt,qjS ho h.pd.cd.bel.size,?_,by simp⟩,hY.pd.t⟩,hY.ex,qjS ho h.b2,hY.b2⟩;simp[Value.ownBlock];omega
theorem qxM(so tq:Option Addr)(n sc tn tc:Nat)(ss:List StD)(ts:List TrD)(G:uH ss tn)(leaf:Nat)(hl:leaf<n)(j:Nat)(hj:j<tn)(f t:Nat)(hf:f<n)(ht0:t<n)(hsrc:(ts.getD j tr0).src=f)(htgt:(ts.getD j tr0).target=t)(hin:f∈up ss leaf)(w:World)(hs:StatesOf w so n ss)(ht:TransOf w tq tn ts):
  Calls Tryz.prog 51 #[.agg #[.slice so n sc,.slice tq tn tc],.int .i64 leaf,.int .i64 j] w λe w'=>∃ge ce gn cn,e=.returned (.tuple #[.slice (some ⟨ge,0,none⟩) (gJ ss leaf f t).length ce,.slice (some ⟨gn,0,none⟩) (dQ ss f t).length cn,.int .i64 (qdH ss f t:Nat)])∧bO w w' (.slice (some ⟨ge,0,none⟩) (gJ ss leaf f t).length ce) (gJ ss leaf f t)∧bO w w' (.slice (some ⟨gn,0,none⟩) (dQ ss f t).length cn) (dQ ss f t)∧ge≠gn∧Below w.heap.size w w':=by
 obtain⟨i0,hi0,hz0,hz1,hz2⟩:=info_parts Tryz.infoInt0;have hn:n≤200:=by have:=G.n2;have:=hs.1;omega
 have htn:=G.tn;have T:=G.tree;have hls:leaf<ss.length:=by rw[hs.1];exact hl
 have hts:t<ss.length:=by rw[hs.1];exact ht0
 have KX:=hid (qFN T (t:=t) hls hin);have KE:=hid (qFM T (f:=f) hts);have HS:Hid (∀w',Below w.heap.size w w'→StatesOf w' so n ss):=λw' h=>hs.below h;obtain⟨tb,off,rfl,htl,htc⟩:=ht.2 (by omega);obtain⟨x1,x2,⟨co,cn,cc,x3,_,_⟩,x4,⟨do_,dn,dc,x5,_,_⟩⟩:=htc j hj;obtain⟨td,htd⟩:∃td,td=ts.getD j tr0:=⟨_,rfl⟩;rw[←htd]at x1 x2 x4 hsrc htgt;rw[hsrc]at x1;rw[htgt]at x4;have ji:(j:Int)<(tn:Int):=by omega
 have FR:∀i,((w.alloc (.cells #[.slice so n sc,.slice (some ⟨tb,off,none⟩) tn tc] 36)).cell? ⟨tb,i,none⟩)=w.cell? ⟨tb,i,none⟩:=λi=>(aB _ _).cell (p:=⟨tb,i,none⟩) htl;have y1:=(FR _).trans x1;have y2:=(FR _).trans x2;have y3:=(FR _).trans x3;have y4:=(FR _).trans x4;have y5:=(FR _).trans x5;have CD:Hid (∀w',Below w.heap.size w w'→Calls Tryz.prog 110 #[.agg #[.slice so n sc,.slice (some ⟨tb,off,none⟩) tn tc],.int .i64 f,.int .i64 t] w' λe w''=>e=.returned (.int .i64 (dom ss f t))∧Below w'.heap.size w' w''):=hid (λw' h=>qFY so (some ⟨tb,off,none⟩) n sc tn tc ss T hn f t hf ht0 w' (HS.out w' h));have CU:Hid (∀k,k<n→∀w',Below w.heap.size w w'→Calls Tryz.prog 109 #[.agg #[.slice so n sc,.slice (some ⟨tb,off,none⟩) tn tc],.int .i64 k] w' λe w''=>∃g cap,e=.returned (.slice (some ⟨g,0,none⟩) (up ss k).length cap)∧bO w' w'' (.slice (some ⟨g,0,none⟩) (up ss k).length cap) (up ss k)∧(k=0→cap=1)∧Below w'.heap.size w' w''):=hid (λk hk w' h=>qo9 so (some ⟨tb,off,none⟩) n sc tn tc ss T hn k hk w' (HS.out w' h));have nt:¬((t:Int)<0):=by omega
 clear ht htc x1 x2 x3 x4 x5 FR htd hs;go_enter Tryz.func51,Tryz.ntmps51;go_wp2_with(first
  |(go_at_call 110;refine(CD.out _ (aD _ _ _)).mono ?_;rintro e w1 ⟨rfl,hb⟩;have B1:=hid ((aD _ _ _).trans (hb.mono (by simp;omega)));have Q1:=hid (aA (qx1 w _ _) hb);have T1:=hid (aA (qjO w _ _) hb);clear hb;obtain⟨q0,q1,_,_⟩:=aF (aA Q1.out (aB w1 (.cells #[] 3))))
  |(go_at_call 109;refine(CU.out leaf hl _ (B1.out.trans ((aB _ _).mono B1.out.size))).mono ?_;rintro e w2 ⟨g0,c0,rfl,ho,_,hb⟩;have HO2:=hid ho;have HB2:=hid hb;clear ho hb))
 have GE:=hid (World.ownsRow.lt HO2.out g0 rfl);have UC:=hid (qh5 HO2.out rfl);have P2:Hid (Pd w #[.slice so n sc,.slice (some ⟨tb,off,none⟩) tn tc] #[.int .i64 f,.int .i64 td.sig,.slice co cn cc,.int .i64 t,.slice do_ dn dc] g0 (up ss leaf) (.slice (some ⟨w1.heap.size,0,none⟩) 0 0) [] w2):=hid (by
  have hg:=GE.out;simp at hg;have b2:=(aB w1 (.cells #[] 3)).trans (HB2.out.mono (by simp));exact⟨⟨B1.out.trans (b2.mono B1.out.size),aA Q1.out b2,λj hj=>UC.out.2.2 j hj,hg.2,by simpa[aG]using vD (aA (heap_alloc_new w1 _) HB2.out) B1.out.size,by simp[Value.ownBlock];omega,by simp⟩,aA T1.out b2⟩)
 have UL:=hid (pS T leaf hls);have ULT:Hid (∀x,x∈up ss leaf→x<n):=hid (λx hx=>by have:=vP T leaf hls x hx;omega);have CA:Hid (∀m s,s<n→∀w',Below w.heap.size w w'→Calls Tryz.prog 111 #[.agg #[.slice so n sc,.slice (some ⟨tb,off,none⟩) tn tc],.int .i64 (m:Nat),.int .i64 (s:Nat)] w' λe w''=>e=.returned (.bool (b9 ss m s))∧Below w'.heap.size w' w''):=hid (λm s hs w' h=>qo7 so (some ⟨tb,off,none⟩) n sc tn tc ss T hn m s hs w' (HS.out w' h));have DC:=hid (qhT ss f t);obtain⟨dv,hdv⟩:∃d,d=dom ss f t:=⟨_,rfl⟩;rw[←hdv]at KX KE DC⊢;obtain⟨ups,hups⟩:∃l,l=up ss leaf:=⟨_,rfl⟩;rw[←hups]at P2 UL ULT KX⊢;obtain⟨nu,hnu⟩:∃n,n=ups.length:=⟨_,rfl⟩;rw[←hnu]at UL⊢;have NU:=hid hnu;have n2:nu≤200:=by have:=UL.out;omega
 clear q0 q1 y1 y2 y3 y4 y5 HO2 HB2 GE UC hnu hups hdv;go_loopg [11,39] nu (λmm lv i X=>∃a:Nat,a≤nu∧mm=nu-a∧i=.int .i64 a∧Pd w #[.slice so n sc,.slice (some ⟨tb,off,none⟩) tn tc] #[.int .i64 f,.int .i64 td.sig,.slice co cn cc,.int .i64 t,.slice do_ dn dc] g0 ups lv ((ups.take a).filter (aY ss dv)) X)
 case atStart=>exact⟨0,by omega,by omega,rfl,by simpa using P2.out⟩
 case round=>
  obtain⟨a,ha,rfl,rfl,hC⟩:=hrel;by_cases hlt:a<nu
  ·have cu:=hC.cd.u a (by rw[←NU.out];exact hlt)
   obtain⟨s,hsv⟩:∃s,s=ups.getD a 0:=⟨_,rfl⟩;rw[←hsv]at cu;have hsn:s<n:=ULT.out s (by rw[hsv,List.getD_eq_getElem?_getD,List.getElem?_eq_getElem (by have:=NU.out;omega)];simp);have TK:Hid ((ups.take (a+1)).filter (aY ss dv)=(ups.take a).filter (aY ss dv)++(if aY ss dv s then [s]else [])):=hid (by
    have h1:ups.take (a+1)=ups.take a++[s]:=by
     rw[hsv,List.take_add_one];have:=NU.out;rw[List.getD_eq_getElem?_getD,List.getElem?_eq_getElem (by omega)];rfl
    rw[h1,List.filter_append];by_cases h:aY ss dv s<;>simp[h])
   obtain⟨q0,q1,_,_⟩:=aF hC.cd.q;obtain⟨ao,cap,hv⟩:=cG hC.cd.o;have DD:=hid hC;subst hv;have ai:(a:Int)<(nu:Int):=by omega
   have L1:Hid (((ups.take a).filter (aY ss dv)).length≤200):=hid (by
    have h1:=List.length_filter_le (aY ss dv) (ups.take a);have h2:(ups.take a).length≤200:=by simp;omega
    omega)
   clear hC hsv;rcases DC.out with hd|⟨m,hd,_,_,_⟩
   ·subst hd
    have EX:Hid ((ups.take (a+1)).filter (aY ss (-1))=(ups.take a).filter (aY ss (-1))++[s]):=hid (by rw[TK.out,if_pos (qo2 ss s)]);clear TK;go_wp2_with(first|fail|(at_builtin;refine wpList_append_lies _ rfl (.tmp 51) (.tmp 53) 30 rfl w.heap.size 3 i0 _ 1 8 Tryz.underlying30 hi0 hz0 hz1 hz2 rfl (by decide) _ _ _ rfl (DD.out.below (aB _ _)).cd.o ⟨wr.heap.size,0,none⟩ 1 1 [.int .i64 (s:Int)] rfl rfl (vH _ _ _) (by intro u hu;simp at hu;subst hu;rfl) (by omega) (by have:=L1.out;unfold maxLen;omega) (by have:=L1.out;omega) (by have:=DD.out.cd.bel.size;simp;omega) (wr.heap.size+1) (by simp) ?_));intro g cap' w5 hown hgrow hat _;have D2:=hid ((DD.out.below (aB wr _)).grown (l':=(ups.take (a+1)).filter (aY ss (-1))) hgrow (by rw[EX.out];simpa[aG,Nat.add_assoc]using hown) (by simpa using hat));have LE:Hid (((ups.take a).filter (aY ss (-1))).length+1=((ups.take (a+1)).filter (aY ss (-1))).length):=hid (by rw[EX.out];simp);clear hown hgrow hat;go_wp2;go_roundg(nu-(a+1))
    case measure=>omega
    case rel=>exact⟨a+1,by omega,rfl,by simp,by rw[LE.out];exact D2.out⟩
   ·subst hd
    have nm:¬((m:Int)<0):=by omega
    have KM:=hid (qjG ss m s);by_cases hk:b9 ss m s=true
    ·have AB:=hid hk
     have EX:Hid ((ups.take (a+1)).filter (aY ss m)=(ups.take a).filter (aY ss m)++[s]):=hid (by rw[TK.out,if_pos (by rw[KM.out];exact hk)]);clear TK KM hk;go_wp2_with(first|(go_at_call 111;refine(CA.out m s hsn _ DD.out.cd.bel).mono ?_;rintro e w4 ⟨he,hb⟩;rw[AB.out]at he;subst he;have D4:=hid (DD.out.below hb);clear hb)|(at_builtin;refine wpList_append_lies _ rfl (.tmp 51) (.tmp 53) 30 rfl w.heap.size 3 i0 _ 1 8 Tryz.underlying30 hi0 hz0 hz1 hz2 rfl (by decide) _ _ _ rfl (D4.out.below (aB _ _)).cd.o ⟨w4.heap.size,0,none⟩ 1 1 [.int .i64 (s:Int)] rfl rfl (vH _ _ _) (by intro u hu;simp at hu;subst hu;rfl) (by omega) (by have:=L1.out;unfold maxLen;omega) (by have:=L1.out;omega) (by have:=D4.out.cd.bel.size;simp;omega) (w4.heap.size+1) (by simp) ?_));intro g cap' w5 hown hgrow hat _;have D2:=hid ((D4.out.below (aB w4 _)).grown (l':=(ups.take (a+1)).filter (aY ss m)) hgrow (by rw[EX.out];simpa[aG,Nat.add_assoc]using hown) (by simpa using hat));have LE:Hid (((ups.take a).filter (aY ss m)).length+1=((ups.take (a+1)).filter (aY ss m)).length):=hid (by rw[EX.out];simp);clear hown hgrow hat;go_wp2;go_roundg(nu-(a+1))
     case measure=>omega
     case rel=>exact⟨a+1,by omega,rfl,by simp,by rw[LE.out];exact D2.out⟩
    ·have AB:Hid (b9 ss m s=false):=hid (by simpa using hk)
     have EX:Hid ((ups.take (a+1)).filter (aY ss m)=(ups.take a).filter (aY ss m)):=hid (by rw[TK.out,if_neg (by rw[KM.out];exact hk),List.append_nil]);clear TK KM hk;go_wp2_with(go_at_call 111;refine(CA.out m s hsn _ DD.out.cd.bel).mono ?_;rintro e w4 ⟨he,hb⟩;rw[AB.out]at he;subst he;have D4:=hid (DD.out.below hb);clear hb);go_roundg(nu-(a+1))
     case measure=>omega
     case rel=>exact⟨a+1,by omega,rfl,by simp,by rw[EX.out];exact D4.out⟩
  ·obtain rfl:a=nu:=by omega
   have hT:ups.take a=ups:=by rw[NU.out];exact List.take_length
   rw[hT,KX.out]at hC;rcases hC.cd.o.2 with⟨h1,_⟩|⟨ge,ce,cur,rfl,_⟩
   ·exact absurd h1 hC.cd.nn
   ·have CC:=hid hC
    clear hC;obtain⟨q0,q1,_,_⟩:=aF (aA CC.out.cd.q (aB wr (.cells #[] 3)));have t3:(wr.alloc (.cells #[] 3)).cell? ⟨w.heap.size+1,3,none⟩=some (.int .i64 (t:Int)):=by
     have h:=aA CC.out.t (aB wr (.cells #[] 3));simp[World.cell?,h]
    have BW:=hid (CC.out.cd.bel.trans ((aB wr (.cells #[] 3)).mono CC.out.cd.bel.size));go_wp2_with(go_at_call 109;refine(CU.out t ht0 _ BW.out).mono ?_;rintro e w3 ⟨g1,c1,rfl,ho,_,hb⟩;have HO3:=hid ho;have HB3:=hid hb;clear ho hb);obtain⟨BB,hBB⟩:∃b,b=wr.heap.size:=⟨_,rfl⟩;have geB:ge<BB:=by rw[hBB];exact(CC.out.cd.o.lt ge rfl).2
    have wB:w.heap.size≤BB:=by rw[hBB];exact CC.out.cd.bel.size
    have GE:=hid (World.ownsRow.lt HO3.out g1 rfl);have UC:=hid (qh5 HO3.out rfl);have P3:Hid (Pe w #[.slice so n sc,.slice (some ⟨tb,off,none⟩) tn tc] #[.int .i64 f,.int .i64 td.sig,.slice co cn cc,.int .i64 t,.slice do_ dn dc] g1 (up ss t) ge ce BB (gJ ss leaf f t) (.slice (some ⟨wr.heap.size,0,none⟩) 0 0) [] w3):=hid (by
     have hg:=GE.out;simp at hg;have b2:=(aB wr (.cells #[] 3)).trans (HB3.out.mono (by simp));have h9:=CC.out.below b2;have h8:=(CC.out.cd.o.lt ge rfl).2;exact⟨⟨⟨h9.cd.bel,h9.cd.q,λj hj=>UC.out.2.2 j hj,hg.2,by simpa[aG]using vD (aA (heap_alloc_new wr _) HB3.out) CC.out.cd.bel.size,by simp[Value.ownBlock];omega,by simp⟩,h9.t⟩,h9.cd.o,by simpa[aG]using vD (aA (heap_alloc_new wr _) HB3.out) (Nat.le_of_eq hBB),by rw[hBB];exact b2.size⟩)
    have UL2:=hid (pS T t hts);have ULT2:Hid (∀x,x∈up ss t→x<n):=hid (λx hx=>by have:=vP T t hts x hx;omega);obtain⟨up2,hup2⟩:∃l,l=up ss t:=⟨_,rfl⟩;rw[←hup2]at P3 UL2 ULT2 KE⊢;obtain⟨nv,hnv⟩:∃n,n=up2.length:=⟨_,rfl⟩;rw[←hnv]at UL2⊢;have NV:=hid hnv;have n3:nv≤200:=by have:=UL2.out;omega
    clear q0 q1 t3 HO3 HB3 GE UC hnv hup2 BW CC hBB;go_loopg [14,62] nv (λmm lv i X=>∃a2:Nat,a2≤nv∧mm=nv-a2∧i=.int .i64 a2∧Pe w #[.slice so n sc,.slice (some ⟨tb,off,none⟩) tn tc] #[.int .i64 f,.int .i64 td.sig,.slice co cn cc,.int .i64 t,.slice do_ dn dc] g1 up2 ge ce BB (gJ ss leaf f t) lv ((up2.take a2).filter (aY ss dv)).reverse X)
    case atStart=>exact⟨0,by omega,by omega,rfl,by simpa using P3.out⟩
    case round=>
     obtain⟨a2,ha2,rfl,rfl,hC⟩:=hrel;by_cases hlt2:a2<nv
     ·have cu:=hC.pd.cd.u a2 (by rw[←NV.out];exact hlt2)
      obtain⟨s,hsv⟩:∃s,s=up2.getD a2 0:=⟨_,rfl⟩;rw[←hsv]at cu;have hsn:s<n:=ULT2.out s (by rw[hsv,List.getD_eq_getElem?_getD,List.getElem?_eq_getElem (by have:=NV.out;omega)];simp);have TK:Hid ((up2.take (a2+1)).filter (aY ss dv)=(up2.take a2).filter (aY ss dv)++(if aY ss dv s then [s]else [])):=hid (by
       have h1:up2.take (a2+1)=up2.take a2++[s]:=by
        rw[hsv,List.take_add_one];have:=NV.out;rw[List.getD_eq_getElem?_getD,List.getElem?_eq_getElem (by omega)];rfl
       rw[h1,List.filter_append];by_cases h:aY ss dv s<;>simp[h])
      obtain⟨q0,q1,_,_⟩:=aF hC.pd.cd.q;rcases hC.pd.cd.o.2 with⟨h1,_⟩|⟨gc,cap,cur,hv,_⟩
      ·exact absurd h1 hC.pd.cd.nn
      have DD:=hid hC;subst hv;have ai2:(a2:Int)<(nv:Int):=by omega
      have L1:Hid (((up2.take a2).filter (aY ss dv)).reverse.length≤200):=hid (by
       have h1:=List.length_filter_le (aY ss dv) (up2.take a2);have h2:(up2.take a2).length≤200:=by simp;omega
       rw[List.length_reverse];omega)
      clear hC hsv;rcases DC.out with hd|⟨m,hd,_,_,_⟩
      ·subst hd
       have EX:Hid ((up2.take (a2+1)).filter (aY ss (-1))=(up2.take a2).filter (aY ss (-1))++[s]):=hid (by rw[TK.out,if_pos (qo2 ss s)]);clear TK;go_wp2_with(first|fail|(at_builtin;refine wpList_append_own _ rfl (.tmp 75) (.tmp 76) 30 rfl wr.heap.size 3 i0 _ 1 8 Tryz.underlying30 hi0 hz0 hz1 hz2 rfl (by decide) (.slice (some ⟨wr.heap.size,0,none⟩) 1 1) 1 [.int .i64 (s:Int)] rfl (qdL wr wr s (Nat.le_refl _)) ⟨gc,0,none⟩ ((up2.take a2).filter (aY ss (-1))).reverse.length cap (aG ((up2.take a2).filter (aY ss (-1))).reverse) (by simp;rfl) (by rw[yZ];omega) (World.ownsRow.cells (DD.out.below (aB _ _)).pd.cd.o rfl) (y6 _) (by have:=L1.out;unfold maxLen;omega) (by have:=L1.out;omega) (by simp) ?_));intro v5 w5 hown hgrow _;obtain⟨g5,cap5,rfl,_,_⟩:=World.ownsRow.form hown (by omega);have D2:Hid (Pe w #[.slice so n sc,.slice (some ⟨tb,off,none⟩) tn tc] #[.int .i64 f,.int .i64 td.sig,.slice co cn cc,.int .i64 t,.slice do_ dn dc] g1 up2 ge ce BB (gJ ss leaf f t) (.slice (some ⟨g5,0,none⟩) (1+((up2.take a2).filter (aY ss (-1))).reverse.length) cap5) ((up2.take (a2+1)).filter (aY ss (-1))).reverse w5):=hid (by
        have hl5:((up2.take (a2+1)).filter (aY ss (-1))).reverse.length=1+((up2.take a2).filter (aY ss (-1))).reverse.length:=by rw[EX.out];simp;omega
        rw[←hl5];refine DD.out.fresh ((aB wr (.cells #[.int .i64 (s:Int)] 3)).grown hgrow (by simp) (λkk e=>by simp[Value.ownBlock]at e;omega)) ?_;rw[hl5,EX.out];simpa[aG]using hown)
       clear hown hgrow;go_wp2;go_roundg(nv-(a2+1))
       case measure=>omega
       case rel=>exact⟨a2+1,by omega,rfl,by simp,by simpa using D2.out⟩
      ·subst hd
       have nm:¬((m:Int)<0):=by omega
       have KM:=hid (qjG ss m s);by_cases hk:b9 ss m s=true
       ·have AB:=hid hk
        have EX:Hid ((up2.take (a2+1)).filter (aY ss m)=(up2.take a2).filter (aY ss m)++[s]):=hid (by rw[TK.out,if_pos (by rw[KM.out];exact hk)]);clear TK KM hk;go_wp2_with(first|(go_at_call 111;refine(CA.out m s hsn _ DD.out.pd.cd.bel).mono ?_;rintro e w4 ⟨he,hb⟩;rw[AB.out]at he;subst he;have D4:=hid (DD.out.below hb);clear hb)|(at_builtin;refine wpList_append_own _ rfl (.tmp 75) (.tmp 76) 30 rfl w4.heap.size 3 i0 _ 1 8 Tryz.underlying30 hi0 hz0 hz1 hz2 rfl (by decide) (.slice (some ⟨w4.heap.size,0,none⟩) 1 1) 1 [.int .i64 (s:Int)] rfl (qdL w4 w4 s (Nat.le_refl _)) ⟨gc,0,none⟩ ((up2.take a2).filter (aY ss (m:Int))).reverse.length cap (aG ((up2.take a2).filter (aY ss (m:Int))).reverse) (by simp;rfl) (by rw[yZ];omega) (World.ownsRow.cells (D4.out.below (aB _ _)).pd.cd.o rfl) (y6 _) (by have:=L1.out;unfold maxLen;omega) (by have:=L1.out;omega) (by simp) ?_));intro v5 w5 hown hgrow _;obtain⟨g5,cap5,rfl,_,_⟩:=World.ownsRow.form hown (by omega);have D2:Hid (Pe w #[.slice so n sc,.slice (some ⟨tb,off,none⟩) tn tc] #[.int .i64 f,.int .i64 td.sig,.slice co cn cc,.int .i64 t,.slice do_ dn dc] g1 up2 ge ce BB (gJ ss leaf f t) (.slice (some ⟨g5,0,none⟩) (1+((up2.take a2).filter (aY ss (m:Int))).reverse.length) cap5) ((up2.take (a2+1)).filter (aY ss (m:Int))).reverse w5):=hid (by
         have hl5:((up2.take (a2+1)).filter (aY ss (m:Int))).reverse.length=1+((up2.take a2).filter (aY ss (m:Int))).reverse.length:=by rw[EX.out];simp;omega
         rw[←hl5];refine D4.out.fresh ((aB w4 (.cells #[.int .i64 (s:Int)] 3)).grown hgrow (by simp) (λkk e=>by simp[Value.ownBlock]at e;omega)) ?_;rw[hl5,EX.out];simpa[aG]using hown)
        clear hown hgrow;go_wp2;go_roundg(nv-(a2+1))
        case measure=>omega
        case rel=>exact⟨a2+1,by omega,rfl,by simp,by simpa using D2.out⟩
       ·have AB:Hid (b9 ss m s=false):=hid (by simpa using hk)
        have EX:Hid ((up2.take (a2+1)).filter (aY ss m)=(up2.take a2).filter (aY ss m)):=hid (by rw[TK.out,if_neg (by rw[KM.out];exact hk),List.append_nil]);clear TK KM hk;go_wp2_with(go_at_call 111;refine(CA.out m s hsn _ DD.out.pd.cd.bel).mono ?_;rintro e w4 ⟨he,hb⟩;rw[AB.out]at he;subst he;have D4:=hid (DD.out.below hb);clear hb);go_roundg(nv-(a2+1))
        case measure=>omega
        case rel=>exact⟨a2+1,by omega,rfl,by simp,by rw[EX.out];simpa using D4.out⟩
     ·obtain rfl:a2=nv:=by omega
      have hT2:up2.take a2=up2:=by rw[NV.out];exact List.take_length
      rw[hT2]at hC;rcases hC.pd.cd.o.2 with⟨h1,_⟩|⟨gc,cap,cur,rfl,_⟩
      ·exact absurd h1 hC.pd.cd.nn
      have DD:=hid hC;obtain⟨q0,q1,_,_⟩:=aF hC.pd.cd.q;have t3:wr.cell? ⟨w.heap.size+1,3,none⟩=some (.int .i64 (t:Int)):=by
       have h:=hC.pd.t;simp[World.cell?,h]
      have CW:=hid (qxJ so (some ⟨tb,off,none⟩) n sc tn tc ss G (n-t) t ht0 rfl wr (HS.out wr hC.pd.cd.bel));clear hC;have L9:Hid ((up2.filter (aY ss dv)).reverse.length+(bM ss t).length≤1000):=hid (by
       have h1:=List.length_filter_le (aY ss dv) up2;have h2:=NV.out;have h3:=qa6 G (ss.length-t) t hts (by omega);have h4:=G.n2;rw[List.length_reverse];omega)
      have EP:Hid (0<(up2.filter (aY ss dv)).length+(bM ss t).length):=hid (by
       rw[←List.length_reverse,←List.length_append,KE.out];have h1:=qu3 T (f:=f) hts;unfold dQ;simp only[List.length_append,List.length_reverse];have:=List.length_pos_iff.mpr h1;omega)
      go_wp2_with(first|(go_at_call 52;refine CW.out.mono ?_;rintro e w6 ⟨g6,c6,rfl,ho,hb⟩;have HO6:=hid ho;have HB6:=hid hb;have D6:=hid (DD.out.below hb);clear ho hb)|(at_builtin;refine wpList_append_own _ rfl (.tmp 79) (.tmp 83) 30 rfl BB 3 i0 _ 1 8 Tryz.underlying30 hi0 hz0 hz1 hz2 rfl (by decide) (.slice (some ⟨gc,0,none⟩) (up2.filter (aY ss dv)).reverse.length cap) (up2.filter (aY ss dv)).reverse.length (aG (up2.filter (aY ss dv)).reverse) (by simp;rfl) D6.out.o2 ⟨g6,0,none⟩ (bM ss t).length c6 (aG (bM ss t)) rfl (by rw[yZ];omega) (World.ownsRow.cells HO6.out rfl) (y6 _) (by have:=L9.out;unfold maxLen;omega) (by have:=L9.out;omega) D6.out.b2 ?_));intro v7 w7 hown hgrow _;have PL:0<(up2.filter (aY ss dv)).length+(bM ss t).length:=EP.out;obtain⟨g7,cap7,rfl,_,_⟩:=World.ownsRow.form hown (by omega);have LN:Hid ((up2.filter (aY ss dv)).length+(bM ss t).length=(dQ ss f t).length):=hid (by rw[←KE.out];simp);have O7:Hid (w7.ownsRow BB 3 1 (.slice (some ⟨g7,0,none⟩) (dQ ss f t).length cap7) (dQ ss f t).length (aG (dQ ss f t))):=hid (by
       rw[←LN.out];have e1:aG (dQ ss f t)=aG (up2.filter (aY ss dv)).reverse++aG (bM ss t):=by rw[←KE.out];simp[aG]
       rw[e1];exact hown)
      obtain⟨q,hq⟩:∃q,(dQ ss f t).length=q+1:=⟨(dQ ss f t).length-1,by have:=LN.out;omega⟩;rw[LN.out,hq];have X7:Hid (w7.ownsRow w.heap.size 3 1 (.slice (some ⟨ge,0,none⟩) (gJ ss leaf f t).length ce) (gJ ss leaf f t).length (aG (gJ ss leaf f t))):=hid (by
       have hgc:=(D6.out.o2.lt gc rfl).1;rcases D6.out.ex.2 with⟨h1,_⟩|⟨g9,c9,cur9,e9,r1,r2,r3⟩
       ·simp at h1
       ·simp at e9
        obtain⟨rfl,rfl⟩:=e9;exact⟨D6.out.ex.1,.inr ⟨ge,ce,cur9,rfl,r1,(hgrow.block ge (lt_of_block r2) (λe=>by simp[Value.ownBlock]at e;omega)).trans r2,r3⟩⟩)
      have B7:Hid (Below w.heap.size w w7):=hid (D6.out.pd.cd.bel.grown hgrow D6.out.pd.cd.bel.size (λkk e=>(D6.out.pd.cd.o.lt kk e).1));have G7:=hid (O7.out.lt g7 rfl).1;have c7:w7.cell? ⟨g7,q,none⟩=some (.int .i64 (qdH ss f t:Nat)):=by
       have h:=(qh5 (w:=w) (qjS O7.out wB) rfl).2.2 q (by omega);rw[h];unfold qdH;simp only[hq]
       first|rfl|(congr 1;simp)
      have NG:Hid (ge≠g7):=hid (by have:=(O7.out.lt g7 rfl).1;omega);obtain⟨nx,hnx⟩:∃x:Nat,x=qdH ss f t:=⟨_,rfl⟩;rw[←hnx]at c7;have NX:=hid hnx;have qn:(q:Int)<(q:Int)+1:=by omega
      have q0':(0:Int)≤(q:Int):=by omega
      have qI:(q:Int)≤1000:=by have h1:=L9.out;have h2:=LN.out;rw[List.length_reverse]at h1;omega
      have qw:IntKind.i64.wrap (q:Int)=q:=IntWalk.i64_in _ (by omega);have q3:q≤1000:=by omega
      have HQ:=hid hq;have c7:=cell_regrown c7;clear hown hgrow DD D6 HO6 HB6 hq hnx q0 q1 t3;go_wp2_with fail;refine wp_region_quiet_below (by kernel_rfl) (by kernel_rfl) ?_
      repeat(any_goals(first|go_big_quiet_step(fail)|quiet_step (fail)))
      refine wpQuiet_nil ?_;intro _ hw';obtain⟨⟨dq,osq⟩,hw''⟩:=hw';subst hw'';have BQ:=hid (below_regrown w7 dq osq);go_wp2_with fail;refine bodyPost_ret (v:=.tuple #[.slice (some ⟨ge,0,none⟩) (gJ ss leaf f t).length ce,.slice (some ⟨g7,0,none⟩) (q+1) cap7,.int .i64 (nx:Int)]) (by simp[results,Tryz.results51,go_sem]) rfl ?_;refine⟨ge,ce,g7,cap7,by rw[HQ.out,NX.out],?_,?_,NG.out,B7.out.trans (BQ.out.mono B7.out.size)⟩
      ·exact aI X7.out BQ.out
      ·exact aI (qjS O7.out wB) BQ.out
end Go.Proofs.YtiimkhepplkocaaGreat
