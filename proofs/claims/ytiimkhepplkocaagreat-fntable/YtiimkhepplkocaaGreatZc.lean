import Derived.Test.YtiimkhepplkocaaGreatZf
import Derived.Test.YtiimkhepplkocaaGreatV8
set_option maxRecDepth 100000
set_option maxHeartbeats 16000000
namespace Go.Proofs.YtiimkhepplkocaaGreat
open Go.RowKit Go.Sort
set_option linter.unusedVariables false
attribute [local go_sem ↓] Go.wp_at_zero Go.wp_at_succ
def StC(w:World)(cells:List Value)(xs:List aH):Prop:=cells.length=xs.length*4∧(∀u,u∈cells→u.oneCell'=true)∧∀i,i<xs.length→cells[i*4]? =some (.int .i64 (xs.getD i dC).kind)∧cells[i*4+1]? =some (.int .i64 (xs.getD i dC).a)∧cells[i*4+2]? =some (.int .i64 (xs.getD i dC).b)∧
 ∃co cn cc,cells[i*4+3]? =some (.slice co cn cc)∧cn≤9223372036854775807∧ItemsOf w co cn (xs.getD i dC).code
theorem qJJ(w:World):StC w [] []:=⟨rfl,λu h=>by simp at h,λi h=>by simp at h⟩
theorem StC.below{w w':World}{cells:List Value}{xs:List aH}(h:StC w cells xs)(hb:Below w.heap.size w w'):StC w' cells xs:=⟨h.1,h.2.1,λi hi=>by
 obtain⟨h1,h2,h3,co,cn,cc,h4,h5,h6⟩:=h.2.2 i hi;exact⟨h1,h2,h3,co,cn,cc,h4,h5,h6.below hb⟩⟩
theorem qJI{w:World}{a b:List Value}{xs ys:List aH}(h1:StC w a xs)(h2:StC w b ys):StC w (a++b) (xs++ys):=by
 have e:=h1.1;refine⟨by simp[h1.1,h2.1];omega,λu hu=>?_,λi hi=>?_⟩
 ·rcases List.mem_append.1 hu with h|h
  ·exact h1.2.1 u h
  ·exact h2.2.1 u h
 ·rw[List.length_append]at hi
  by_cases h:i<xs.length
  ·have hx:(xs++ys).getD i dC=xs.getD i dC:=by simp only[List.getD_eq_getElem?_getD];rw[List.getElem?_append_left h]
   rw[hx,List.getElem?_append_left (by omega),List.getElem?_append_left (by omega),List.getElem?_append_left (by omega),List.getElem?_append_left (by omega)];exact h1.2.2 i h
  ·have hx:(xs++ys).getD i dC=ys.getD (i-xs.length) dC:=by simp only[List.getD_eq_getElem?_getD];rw[List.getElem?_append_right (by omega)]
   have g:∀r,(a++b)[i*4+r]? =b[(i-xs.length)*4+r]?:=λr=>by rw[List.getElem?_append_right (by omega)];congr 1;omega
   have g0:=g 0;simp only[Nat.add_zero]at g0;rw[hx,g0,g 1,g 2,g 3];exact h2.2.2 (i-xs.length) (by omega)
def tP(w:World)(b off m:Nat):List Value:=(List.range m).map λj=>(w.cell? ⟨b,off+j,none⟩).getD undef
theorem qiA{w:World}{b off m j:Nat}(h:j<m):(tP w b off m)[j]? =some ((w.cell? ⟨b,off+j,none⟩).getD undef):=by simp[tP,h]
theorem qy0{w:World}{b off n:Nat}{xs:List aH}(hc:∀i,i<n→StmAt w b (off+i*4) (xs.getD i dC)){j:Nat}(hj:j<n*4):∃u,w.cell? ⟨b,off+j,none⟩=some u∧u.oneCell'=true:=by
 obtain⟨h1,h2,h3,co,cn,cc,h4,_⟩:=hc (j/4) (by omega);have hr:j%4<4:=Nat.mod_lt _ (by omega);have ej:j=j/4*4+j%4:=by omega
 rcases(by omega:j%4=0∨j%4=1∨j%4=2∨j%4=3)with e|e|e|e
 ·exact⟨_,by rw[show off+j=off+j/4*4 by omega];exact h1,rfl⟩
 ·exact⟨_,by rw[show off+j=off+j/4*4+1 by omega];exact h2,rfl⟩
 ·exact⟨_,by rw[show off+j=off+j/4*4+2 by omega];exact h3,rfl⟩
 ·exact⟨_,by rw[show off+j=off+j/4*4+3 by omega];exact h4,rfl⟩
theorem qpZ{w:World}{b off n:Nat}{xs:List aH}(hl:xs.length=n)(hc:∀i,i<n→StmAt w b (off+i*4) (xs.getD i dC)):StC w (tP w b off (n*4)) xs∧∀j u,(tP w b off (n*4))[j]? =some u→w.cell? ⟨b,off+j,none⟩=some u:=by
 refine⟨⟨by simp[tP,hl],λu hu=>?_,λi hi=>?_⟩,λj u hu=>?_⟩
 ·obtain⟨j,hj,rfl⟩:=List.mem_map.1 hu
  obtain⟨v,hv,ho⟩:=qy0 hc (List.mem_range.1 hj);rw[hv];exact ho
 ·obtain⟨h1,h2,h3,co,cn,cc,h4,h5,h6⟩:=hc i (by omega)
  refine⟨?_,?_,?_,co,cn,cc,?_,h5,h6⟩
  ·rw[qiA (by omega),h1];rfl
  ·rw[qiA (by omega),←Nat.add_assoc,h2];rfl
  ·rw[qiA (by omega),←Nat.add_assoc,h3];rfl
  ·rw[qiA (by omega),←Nat.add_assoc,h4];rfl
 ·have hj:j<n*4:=by
   have:=List.getElem?_eq_some_iff.1 hu;obtain⟨h,_⟩:=this;simpa[tP]using h
  rw[qiA hj]at hu;obtain⟨v,hv,_⟩:=qy0 hc hj;rw[hv]at hu⊢;simpa using hu
theorem qJK{X:World}{B g n cap:Nat}{cells:List Value}{xs:List aH}(ho:X.ownsRow B 210 4 (.slice (some ⟨g,0,none⟩) n cap) n cells)(hl:xs.length=n)(hc:StC X cells xs):StmsOf X (some ⟨g,0,none⟩) n xs:=by
 refine⟨hl,λ_=>⟨g,0,rfl,(ho.lt g rfl).2,λi hi=>?_⟩⟩;obtain⟨h1,h2,h3,co,cn,cc,h4,h5,h6⟩:=hc.2.2 i (by omega);have cel:∀r,r<4→X.cell? ⟨g,0+i*4+r,none⟩=cells[i*4+r]?:=λr hr=>by
  rw[show 0+i*4+r=i*4+r by omega];exact World.ownsRow.cellAt ho (i*4+r) (by omega)
 exact⟨(cel 0 (by omega)).trans h1,(cel 1 (by omega)).trans h2,(cel 2 (by omega)).trans h3,co,cn,cc,(cel 3 (by omega)).trans h4,h5,h6⟩
end Go.Proofs.YtiimkhepplkocaaGreat
namespace Go.Proofs.YtiimkhepplkocaaGreat
open Go.RowKit Go.Sort
set_option linter.unusedVariables false
attribute [local go_sem ↓] Go.wp_at_zero Go.wp_at_succ
theorem qyB{w:World}{B g n m cap size:Nat}{e:TypeId}{xs:List Value}(h:w.ownsRow B e size (.slice (some ⟨g,0,none⟩) n cap) m xs):m≤cap:=by
 rcases h.2 with⟨h0,_⟩|⟨g',cap',cur,h1,h2,h3,h4,_⟩
 ·cases h0
 ·simp only[Value.slice.injEq,Option.some.injEq,Addr.mk.injEq]at h1
  obtain⟨_,_,rfl⟩:=h1;exact h4
def uO(ss:List StD)(ex:List Nat)(acts:List aH)(en:List Nat):List aH:=(ex.map (λi=>(ss.getD i st0).exit)).flatten++acts++(en.map (λi=>(ss.getD i st0).entry)).flatten
def qhP(w:World)(ao:Option Addr)(l:List Nat):Prop:=0<l.length→∃g,ao=some ⟨g,0,none⟩∧g<w.heap.size∧∀j,j<l.length→w.cell? ⟨g,j,none⟩=some (.int .i64 ((l.getD j 0:Nat):Int))
structure Sc (w:World) (bx:Array Value) (lv:Value) (xs:List aH) (X:World):Prop where
 bel:Below w.heap.size w X
 q:X.heap[w.heap.size]? =some (.cells bx 36 (0,0))
 o:∃g cap cells,lv=.slice (some ⟨g,0,none⟩) xs.length cap∧X.ownsRow w.heap.size 210 4 lv xs.length cells∧StC w cells xs
theorem Sc.grown{w:World}{bx:Array Value}{g cap g2 cap2:Nat}{xs ys:List aH}{cells news:List Value}{X Y:World}(h1:Below w.heap.size w X)(h2:X.heap[w.heap.size]? =some (.cells bx 36 (0,0)))(ho:X.ownsRow w.heap.size 210 4 (.slice (some ⟨g,0,none⟩) xs.length cap) xs.length cells)(hc:StC w cells xs)(hn:StC w news ys)(hg:X.grownBy Y (Value.slice (some ⟨g,0,none⟩) xs.length cap).ownBlock)
  (ho2:Y.ownsRow w.heap.size 210 4 (.slice (some ⟨g2,0,none⟩) (xs.length+ys.length) cap2) (xs.length+ys.length) (cells++news)):Sc w bx (.slice (some ⟨g2,0,none⟩) (xs.length+ys.length) cap2) (xs++ys) Y:=by
 have bY:Below w.heap.size w Y:=h1.grown hg h1.size (λkk e=>(ho.lt kk e).1);refine⟨bY,(hg.block _ (lt_of_block h2) (λe=>aJ ho (by decide) h2 e.symm)).trans h2,g2,cap2,cells++news,by rw[List.length_append],by rw[List.length_append];exact ho2,qJI hc hn⟩
end Go.Proofs.YtiimkhepplkocaaGreat
namespace Go.Proofs.YtiimkhepplkocaaGreat
open Go.RowKit Go.Sort
set_option linter.unusedVariables false
attribute [local go_sem ↓] Go.wp_at_zero Go.wp_at_succ
theorem qF3(so tq:Option Addr)(n sc tn tc:Nat)(ss:List StD)(ts:List TrD)(l:aE)(hC:Chk ss ts l)(xo ao eo:Option Addr)(xc an ac ec:Nat)(ex en:List Nat)(acts:List aH)(w:World)(hx2:ex.length≤400)(hn2:en.length≤400)(hex:∀x,x∈ex→x<n)(hen:∀x,x∈en→x<n)(ha2:an≤50)(hs:StatesOf w so n ss)(hxo:qhP w xo ex)(heo:qhP w eo en)(hac:StmsOf w ao an acts):
  Calls Tryz.prog 114 #[.agg #[.slice so n sc,.slice tq tn tc],.slice xo ex.length xc,.slice ao an ac,.slice eo en.length ec] w λe w'=>∃g cap,e=.returned (.slice (some ⟨g,0,none⟩) (uO ss ex acts en).length cap)∧(uO ss ex acts en).length≤cap∧StmsOf w' (some ⟨g,0,none⟩) (uO ss ex acts en).length (uO ss ex acts en)∧Below w.heap.size w w':=by
 obtain⟨i0,hi0,hz0,hz1,hz2⟩:=info_parts qw7;have HL:=hid hs.1;have n1:1≤n:=by rw[←HL.out];exact hC.good.n1
 have n2:n≤200:=by rw[←HL.out];exact hC.good.n2
 obtain⟨sb,soff,rfl,hsl,hsc⟩:=hs.2 (by omega);have HSt:Hid (∀i,i<n→StAt w sb (soff+i*4) (ss.getD i st0)):=hid hsc;have HXO:=hid hxo;have HEO:=hid heo;have HAC:=hid hac;have Hex:=hid hex;have Hen:=hid hen;have L50exit:Hid (∀x,x<n→(ss.getD x st0).exit.length≤50):=hid (λx hx=>by obtain⟨vs,hv⟩:=hC.ext x (by rw[HL.out];exact hx);exact qg9 hv);have L50entry:Hid (∀x,x<n→(ss.getD x st0).entry.length≤50):=hid (λx hx=>by obtain⟨vs,hv⟩:=hC.ent x (by rw[HL.out];exact hx);exact qg9 hv);have S0:Hid (Sc w #[.slice (some ⟨sb,soff,none⟩) n sc,.slice tq tn tc] (.slice (some ⟨w.heap.size+1,0,none⟩) 0 0) [] ((w.alloc (.cells #[.slice (some ⟨sb,soff,none⟩) n sc,.slice tq tn tc] 36)).alloc (.cells #[] 210))):=hid (by
  have h2:=heap_alloc_new (w.alloc (.cells #[.slice (some ⟨sb,soff,none⟩) n sc,.slice tq tn tc] 36)) (.cells #[] 210);rw[World.size_alloc]at h2;exact⟨aD _ _ _,aA (heap_alloc_new w _) (aB _ _),_,_,[],rfl,⟨by simp,.inr ⟨w.heap.size+1,0,#[],rfl,by omega,h2,by simp,by simp⟩⟩,qJJ w⟩)
 have LPRE:Hid (([]:List aH).length≤50000):=hid (by simp);clear hs hsc hxo heo hac hex hen;go_enter Tryz.func114,Tryz.ntmps114;go_wp2_with fail;go_loopg [9,17] ex.length (λmm lv i X=>∃c:Nat,c≤ex.length∧mm=ex.length-c∧i=.int .i64 c∧Sc w #[.slice (some ⟨sb,soff,none⟩) n sc,.slice tq tn tc] lv ([]++((ex.take c).map (λi=>(ss.getD i st0).exit)).flatten) X)
 case atStart=>exact⟨0,by omega,by omega,rfl,by simpa using S0.out⟩
 case round=>
  obtain⟨c,hc,rfl,rfl,hS⟩:=hrel;have SS:=hid hS;obtain⟨g,cap,cells,hlv,ho,hst⟩:=hS.o;subst hlv;have hcap:=qyB ho;by_cases hlt:c<ex.length
  ·obtain⟨gx,hgx,hgl,hgc⟩:=HXO.out (by omega)
   obtain⟨st,hst0⟩:∃st,st=ex.getD c 0:=⟨_,rfl⟩;have hsn:st<n:=Hex.out st (by rw[hst0,List.getD_eq_getElem?_getD,List.getElem?_eq_getElem hlt];simp);have cx0:=(hS.bel.cell (p:=⟨gx,c,none⟩) hgl).trans (hgc c hlt);rw[←hst0]at cx0;obtain⟨p1,p2,⟨co2,cn2,cc2,p3,hcn2,hcs2⟩,⟨do2,dn2,dc2,p4,hdn2,hds2⟩⟩:=HSt.out st hsn;have p3:=(hS.bel.cell (p:=⟨sb,soff+st*4+2,none⟩) hsl).trans p3;have p4:=(hS.bel.cell (p:=⟨sb,soff+st*4+3,none⟩) hsl).trans p4;obtain⟨q0,q1,_,_⟩:=aF hS.q;have TK:Hid (([]++((ex.take (c+1)).map (λi=>(ss.getD i st0).exit)).flatten)=([]++((ex.take c).map (λi=>(ss.getD i st0).exit)).flatten)++(ss.getD st st0).exit):=hid (by
    have h1:ex.take (c+1)=ex.take c++[st]:=by rw[hst0,List.take_add_one,List.getD_eq_getElem?_getD,List.getElem?_eq_getElem hlt];rfl
    rw[h1,List.map_append,List.flatten_append,←List.append_assoc];simp)
   have L5:=L50exit.out st hsn;have LX:Hid ((([]++((ex.take c).map (λi=>(ss.getD i st0).exit)).flatten)).length≤100000):=hid (by
    have h1:=qh0 (K:=ex.take c) (g:=λi=>(ss.getD i st0).exit) (λx hx=>L50exit.out x (Hex.out x (List.mem_of_mem_take hx)));have h2:(ex.take c).length≤400:=by simp;omega
    have h3:=LPRE.out;rw[List.length_append];omega)
   have ci:(c:Int)<(ex.length:Int):=by omega
   have c5:c≤500:=by omega
   have si:(st:Int)<(n:Int):=by omega
   obtain⟨cur,hcur⟩:∃x,x=([]++((ex.take c).map (λi=>(ss.getD i st0).exit)).flatten):=⟨_,rfl⟩;rw[←hcur]at SS ho hst hcap TK LX⊢;have LN:Hid ((ss.getD st st0).exit.length=dn2):=hid hds2.1;subst hgx;clear hS hst0 hcur;by_cases hz:dn2=0
   ·subst hz
    have e0:Hid ((ss.getD st st0).exit=[]):=hid (List.length_eq_zero_iff.1 LN.out);have hcap2:(cur.length:Int)≤(cap:Int):=by omega
    have hp0:∀w:World,(pure #[]:Sem (Array Value)).run Tryz.prog w=.ok #[] w:=λ_=>rfl;have hs0:∀(a:Addr) (w:World),(storeCells a ([]:List Value)).run Tryz.prog w=.ok () w:=λ_ _=>rfl;clear ho hst;rcases do2 with _|ad
    all_goals
     go_wp2_with fail;go_roundg(ex.length-(c+1))
     case measure=>omega
     case rel=>exact⟨c+1,by omega,rfl,by go_num,by rw[TK.out,e0.out,List.append_nil];exact SS.out⟩
   ·obtain⟨b2,off2,hb2,hbl2,hbc2⟩:=hds2.2 (by omega)
    subst hb2;obtain⟨hsr,hnw⟩:=qpZ LN.out hbc2;have HNW:Hid (∀j u,(tP w b2 off2 (dn2*4))[j]? =some u→wr.cell? ((⟨b2,off2,none⟩:Addr).add j)=some u):=hid (λj u hu=>by
     have h1:=(SS.out.bel.cell (p:=⟨b2,off2+j,none⟩) hbl2).trans (hnw j u hu);by_cases hj:j=0
     ·subst hj;simpa[Addr.add]using h1
     ·simpa[Addr.add,hj]using h1)
    have HSR:=hid hsr;have HO:=hid ho;have HST:=hid hst;have L4:Hid ((tP w b2 off2 (dn2*4)).length=dn2*4):=hid (by simp[tP]);have hcn5:dn2≤50:=by rw[←LN.out];exact L5
    have SZ:Hid (w.heap.size≤wr.heap.size):=hid SS.out.bel.size;clear ho hst hsr hnw hbc2;go_wp2_with(at_builtin;refine wpList_append_lies _ rfl (.tmp 21) (.tmp 27) 58 rfl w.heap.size 210 i0 _ 4 48 Tryz.underlying58 hi0 hz0 hz1 hz2 rfl (by decide) (.slice (some ⟨g,0,none⟩) cur.length cap) cur.length cells rfl HO.out ⟨b2,off2,none⟩ dn2 dc2 (tP w b2 off2 (dn2*4)) rfl L4.out HNW.out HSR.out.2.1 (by omega) (by have:=LX.out;unfold maxLen;omega) (by have:=LX.out;omega) SZ.out wr.heap.size rfl ?_);intro g2 cap2 w2 hown hgrow hat _;have KK:=Sc.grown (ys:=(ss.getD st st0).exit) SS.out.bel SS.out.q HO.out HST.out HSR.out hgrow (by rw[LN.out];exact hown);rw[LN.out]at KK;have K2:=hid KK;clear hown hgrow hat KK;go_wp2_with fail;go_roundg(ex.length-(c+1))
    case measure=>omega
    case rel=>exact⟨c+1,by omega,rfl,by go_num,by rw[TK.out];exact K2.out⟩
  ·obtain rfl:c=ex.length:=by omega
   rw[List.take_length,List.nil_append]at hS SS hcap ho hst;obtain⟨pre,hpre⟩:∃x,x=(ex.map (λi=>(ss.getD i st0).exit)).flatten:=⟨_,rfl⟩;have LP:Hid (pre.length≤20000):=hid (by
    have h1:=qh0 (K:=ex) (g:=λi=>(ss.getD i st0).exit) (λx hx=>L50exit.out x (Hex.out x hx));rw[hpre];omega)
   rw[List.take_length,List.nil_append,←hpre];rw[←hpre]at hS SS hcap ho hst;have HPRE:=hid hpre;clear hpre;go_upto_region 7 with fail;go_cut [9] (λlv wx=>Sc w #[.slice (some ⟨sb,soff,none⟩) n sc,.slice tq tn tc] lv (pre++acts) wx)
   case first=>
    have LN:Hid (acts.length=an):=hid HAC.out.1;by_cases hz:an=0
    ·subst hz
     have e0:Hid (acts=[]):=hid (List.length_eq_zero_iff.1 LN.out);have hcap2:(pre.length:Int)≤(cap:Int):=by omega
     have hp0:∀w:World,(pure #[]:Sem (Array Value)).run Tryz.prog w=.ok #[] w:=λ_=>rfl;have hs0:∀(a:Addr) (w:World),(storeCells a ([]:List Value)).run Tryz.prog w=.ok () w:=λ_ _=>rfl;clear ho hst hS;rcases ao with _|ad
     all_goals
      go_wp2_with fail;go_meet;rw[e0.out,List.append_nil];exact SS.out
    ·obtain⟨b2,off2,hb2,hbl2,hbc2⟩:=HAC.out.2 (by omega)
     subst hb2;obtain⟨hsr,hnw⟩:=qpZ LN.out hbc2;have HNW:Hid (∀j u,(tP w b2 off2 (an*4))[j]? =some u→wr.cell? ((⟨b2,off2,none⟩:Addr).add j)=some u):=hid (λj u hu=>by
      have h1:=(SS.out.bel.cell (p:=⟨b2,off2+j,none⟩) hbl2).trans (hnw j u hu);by_cases hj:j=0
      ·subst hj;simpa[Addr.add]using h1
      ·simpa[Addr.add,hj]using h1)
     have HSR:=hid hsr;have HO:=hid ho;have HST:=hid hst;have L4:Hid ((tP w b2 off2 (an*4)).length=an*4):=hid (by simp[tP]);have SZ:Hid (w.heap.size≤wr.heap.size):=hid SS.out.bel.size;clear ho hst hsr hnw hbc2 hS;go_wp2_with(at_builtin;refine wpList_append_lies _ rfl (.tmp 30) (.tmp 31) 58 rfl w.heap.size 210 i0 _ 4 48 Tryz.underlying58 hi0 hz0 hz1 hz2 rfl (by decide) (.slice (some ⟨g,0,none⟩) pre.length cap) pre.length cells rfl HO.out ⟨b2,off2,none⟩ an ac (tP w b2 off2 (an*4)) rfl L4.out HNW.out HSR.out.2.1 (by omega) (by have:=LP.out;unfold maxLen;omega) (by have:=LP.out;omega) SZ.out wr.heap.size rfl ?_);intro g2 cap2 w2 hown hgrow hat _;have KK:=Sc.grown (ys:=acts) SS.out.bel SS.out.q HO.out HST.out HSR.out hgrow (by rw[LN.out];exact hown);rw[LN.out]at KK;have K2:=hid KK;clear hown hgrow hat KK;go_wp2_with fail;go_meet;exact K2.out
   case rest=>
    have S0:=hid hcut;have LPRE:Hid ((pre++acts).length≤50000):=hid (by have:=LP.out;have:=HAC.out.1;rw[List.length_append];omega);obtain⟨g0,cap0,cells0,hlv0,_,_⟩:=hcut.o;subst hlv0;clear hcut ho hst hS SS hcap;go_wp2_with fail;go_loopg [9,35] en.length (λmm lv i X=>∃c:Nat,c≤en.length∧mm=en.length-c∧i=.int .i64 c∧Sc w #[.slice (some ⟨sb,soff,none⟩) n sc,.slice tq tn tc] lv ((pre++acts)++((en.take c).map (λi=>(ss.getD i st0).entry)).flatten) X)
    case atStart=>exact⟨0,by omega,by omega,rfl,by simpa using S0.out⟩
    case round=>
     obtain⟨c,hc,rfl,rfl,hS⟩:=hrel;have SS:=hid hS;obtain⟨g,cap,cells,hlv,ho,hst⟩:=hS.o;subst hlv;have hcap:=qyB ho;by_cases hlt:c<en.length
     ·obtain⟨gx,hgx,hgl,hgc⟩:=HEO.out (by omega)
      obtain⟨st,hst0⟩:∃st,st=en.getD c 0:=⟨_,rfl⟩;have hsn:st<n:=Hen.out st (by rw[hst0,List.getD_eq_getElem?_getD,List.getElem?_eq_getElem hlt];simp);have cx0:=(hS.bel.cell (p:=⟨gx,c,none⟩) hgl).trans (hgc c hlt);rw[←hst0]at cx0;obtain⟨p1,p2,⟨co2,cn2,cc2,p3,hcn2,hcs2⟩,⟨do2,dn2,dc2,p4,hdn2,hds2⟩⟩:=HSt.out st hsn;have p3:=(hS.bel.cell (p:=⟨sb,soff+st*4+2,none⟩) hsl).trans p3;have p4:=(hS.bel.cell (p:=⟨sb,soff+st*4+3,none⟩) hsl).trans p4;obtain⟨q0,q1,_,_⟩:=aF hS.q;have TK:Hid (((pre++acts)++((en.take (c+1)).map (λi=>(ss.getD i st0).entry)).flatten)=((pre++acts)++((en.take c).map (λi=>(ss.getD i st0).entry)).flatten)++(ss.getD st st0).entry):=hid (by
       have h1:en.take (c+1)=en.take c++[st]:=by rw[hst0,List.take_add_one,List.getD_eq_getElem?_getD,List.getElem?_eq_getElem hlt];rfl
       rw[h1,List.map_append,List.flatten_append,←List.append_assoc];simp)
      have L5:=L50entry.out st hsn;have LX:Hid ((((pre++acts)++((en.take c).map (λi=>(ss.getD i st0).entry)).flatten)).length≤100000):=hid (by
       have h1:=qh0 (K:=en.take c) (g:=λi=>(ss.getD i st0).entry) (λx hx=>L50entry.out x (Hen.out x (List.mem_of_mem_take hx)));have h2:(en.take c).length≤400:=by simp;omega
       have h3:=LPRE.out;rw[List.length_append];omega)
      have ci:(c:Int)<(en.length:Int):=by omega
      have c5:c≤500:=by omega
      have si:(st:Int)<(n:Int):=by omega
      obtain⟨cur,hcur⟩:∃x,x=((pre++acts)++((en.take c).map (λi=>(ss.getD i st0).entry)).flatten):=⟨_,rfl⟩;rw[←hcur]at SS ho hst hcap TK LX⊢;have LN:Hid ((ss.getD st st0).entry.length=cn2):=hid hcs2.1;subst hgx;clear hS hst0 hcur;by_cases hz:cn2=0
      ·subst hz
       have e0:Hid ((ss.getD st st0).entry=[]):=hid (List.length_eq_zero_iff.1 LN.out);have hcap2:(cur.length:Int)≤(cap:Int):=by omega
       have hp0:∀w:World,(pure #[]:Sem (Array Value)).run Tryz.prog w=.ok #[] w:=λ_=>rfl;have hs0:∀(a:Addr) (w:World),(storeCells a ([]:List Value)).run Tryz.prog w=.ok () w:=λ_ _=>rfl;clear ho hst;rcases co2 with _|ad
       all_goals
        go_wp2_with fail;go_roundg(en.length-(c+1))
        case measure=>omega
        case rel=>exact⟨c+1,by omega,rfl,by go_num,by rw[TK.out,e0.out,List.append_nil];exact SS.out⟩
      ·obtain⟨b2,off2,hb2,hbl2,hbc2⟩:=hcs2.2 (by omega)
       subst hb2;obtain⟨hsr,hnw⟩:=qpZ LN.out hbc2;have HNW:Hid (∀j u,(tP w b2 off2 (cn2*4))[j]? =some u→wr.cell? ((⟨b2,off2,none⟩:Addr).add j)=some u):=hid (λj u hu=>by
        have h1:=(SS.out.bel.cell (p:=⟨b2,off2+j,none⟩) hbl2).trans (hnw j u hu);by_cases hj:j=0
        ·subst hj;simpa[Addr.add]using h1
        ·simpa[Addr.add,hj]using h1)
       have HSR:=hid hsr;have HO:=hid ho;have HST:=hid hst;have L4:Hid ((tP w b2 off2 (cn2*4)).length=cn2*4):=hid (by simp[tP]);have hcn5:cn2≤50:=by rw[←LN.out];exact L5
       have SZ:Hid (w.heap.size≤wr.heap.size):=hid SS.out.bel.size;clear ho hst hsr hnw hbc2;go_wp2_with(at_builtin;refine wpList_append_lies _ rfl (.tmp 39) (.tmp 45) 58 rfl w.heap.size 210 i0 _ 4 48 Tryz.underlying58 hi0 hz0 hz1 hz2 rfl (by decide) (.slice (some ⟨g,0,none⟩) cur.length cap) cur.length cells rfl HO.out ⟨b2,off2,none⟩ cn2 cc2 (tP w b2 off2 (cn2*4)) rfl L4.out HNW.out HSR.out.2.1 (by omega) (by have:=LX.out;unfold maxLen;omega) (by have:=LX.out;omega) SZ.out wr.heap.size rfl ?_);intro g2 cap2 w2 hown hgrow hat _;have KK:=Sc.grown (ys:=(ss.getD st st0).entry) SS.out.bel SS.out.q HO.out HST.out HSR.out hgrow (by rw[LN.out];exact hown);rw[LN.out]at KK;have K2:=hid KK;clear hown hgrow hat KK;go_wp2_with fail;go_roundg(en.length-(c+1))
       case measure=>omega
       case rel=>exact⟨c+1,by omega,rfl,by go_num,by rw[TK.out];exact K2.out⟩
     ·obtain rfl:c=en.length:=by omega
      rw[List.take_length]at hS SS hcap ho hst;have EQ:Hid (uO ss ex acts en=pre++acts++(en.map (λi=>(ss.getD i st0).entry)).flatten):=hid (by unfold uO;rw[HPRE.out]);rw[←EQ.out]at hS SS hcap ho hst;rw[List.take_length,←EQ.out];have HO:=hid ho;have HST:=hid hst;clear hS ho hst;go_wp2_with fail;go_ret;exact⟨g,cap,rfl,hcap,qJK HO.out rfl (HST.out.below SS.out.bel),SS.out.bel⟩
end Go.Proofs.YtiimkhepplkocaaGreat
