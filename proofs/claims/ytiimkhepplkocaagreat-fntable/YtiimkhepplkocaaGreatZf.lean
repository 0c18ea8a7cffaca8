import Derived.Test.YtiimkhepplkocaaGreatZb
import Derived.Test.YtiimkhepplkocaaGreatV6
set_option maxRecDepth 100000
set_option maxHeartbeats 16000000
namespace Go.Proofs.YtiimkhepplkocaaGreat
open Go.RowKit Go.Sort
set_option linter.unusedVariables false
attribute [local go_sem ↓] Go.wp_at_zero Go.wp_at_succ
def qgW(X:World)(l:aE)(LS:List Value)(xs:List (List aH)):Prop:=xs.length=LS.length∧∀i,i<LS.length→StmR X 0 l (LS.getD i undef) (xs.getD i [])
theorem qv4{X:World}{l:aE}{A C:List Value}{a c:List (List aH)}(h1:qgW X l A a)(h2:qgW X l C c):qgW X l (A++C) (a++c):=by
 refine⟨by simp[h1.1,h2.1],λi hi=>?_⟩;have e:=h1.1;simp only[List.getD_eq_getElem?_getD];by_cases h:i<A.length
 ·rw[List.getElem?_append_left h,List.getElem?_append_left (by omega)]
  simpa only[List.getD_eq_getElem?_getD]using h1.2 i h
 ·rw[List.getElem?_append_right (by omega),List.getElem?_append_right (by omega),e]
  rw[List.length_append]at hi;simpa only[List.getD_eq_getElem?_getD]using h2.2 (i-A.length) (by omega)
theorem qv5{X:World}{l:aE}{f:Nat→Value}{g:Nat→List aH}{K:List Nat}(h:∀x,x∈K→StmR X 0 l (f x) (g x)):qgW X l (K.map f) (K.map g):=by
 refine⟨by simp,λi hi=>?_⟩;rw[List.length_map]at hi;simp only[List.getD_eq_getElem?_getD,List.getElem?_map,List.getElem?_eq_getElem hi,Option.map_some,Option.getD_some];exact h _ (List.getElem_mem hi)
theorem qDW{X:World}{l:aE}{v:Value}{x:List aH}(h:StmR X 0 l v x):qgW X l [v] [x]:=⟨rfl,λi hi=>by
 obtain rfl:i=0:=by simpa using hi
 simpa using h⟩
theorem StmR.base{X:World}{B:Nat}{l:aE}{v:Value}{xs:List aH}(h:StmR X B l v xs):StmR X 0 l v xs:=by
 obtain⟨vs,h1,h2⟩:=h;exact⟨vs,h1,aM h2 (Nat.zero_le _)⟩
abbrev qj0(X:World)(r:Nat)(a b c d e:Value):World:=((((X.setCell ⟨r,0,none⟩ a).setCell ⟨r,1,none⟩ b).setCell ⟨r,2,none⟩ c).setCell ⟨r,3,none⟩ d).setCell ⟨r,4,none⟩ e
theorem qIB{X:World}{r:Nat}{a b c d e x0 x1 x2 x3 x4:Value}{t:TypeId}(h:X.heap[r]? =some (.cells #[x0,x1,x2,x3,x4] t (0,0))):(qj0 X r a b c d e).heap[r]? =some (.cells #[a,b,c,d,e] t (0,0)):=by
 have m1:=heap_setCell_same X r 0 _ _ a h;have m2:=heap_setCell_same _ r 1 _ _ b m1;have m3:=heap_setCell_same _ r 2 _ _ c m2;have m4:=heap_setCell_same _ r 3 _ _ d m3;have m5:=heap_setCell_same _ r 4 _ _ e m4;rw[m5];simp
theorem qAQ{w X:World}{C r:Nat}{a b c d e:Value}(h:Below C w X)(hr:C≤r):Below C w (qj0 X r a b c d e):=((((h.setCell hr _).setCell hr _).setCell hr _).setCell hr _).setCell hr _
theorem qKU{S:Nat→Prop}{X:World}{r:Nat}{a b c d e x0 x1 x2 x3 x4:Value}{t:TypeId}(h:X.heap[r]? =some (.cells #[x0,x1,x2,x3,x4] t (0,0)))(ht:S t):Turn S 0 X (qj0 X r a b c d e):=by
 have m1:=heap_setCell_same X r 0 _ _ a h;have m2:=heap_setCell_same _ r 1 _ _ b m1;have m3:=heap_setCell_same _ r 2 _ _ c m2;have m4:=heap_setCell_same _ r 3 _ _ d m3;exact((((Turn.set h ht (Nat.zero_le _) _).trans (Turn.set m1 ht (Nat.zero_le _) _)).trans (Turn.set m2 ht (Nat.zero_le _) _)).trans (Turn.set m3 ht (Nat.zero_le _) _)).trans (Turn.set m4 ht (Nat.zero_le _) _)
theorem qh4{w:World}{H:Nat}{a:Value}{t:TypeId}(k:w.heap[H]? =some (.cells #[a] t (0,0))):w.cell? ⟨H,0,none⟩=some a:=by simp[World.cell?,k]
theorem qCZ{w0:World}{cx lx:Array Value}{N:Nat→Nat}{tg tcap:Nat}{ss:List StD}{ts:List TrD}{n:Nat}{l:aE}{B P0 M tn:Nat}{E F:List Value}{ev xv:Value}{L lets act:Nat→Value}(tr nx:Int)(ge ce gn cn:Nat)(ex en:List Nat)(ao:Option Addr)(an ac:Nat)(acts:List aH)(w:World)(h:L2 w0 cx lx N tg tcap ss ts n l B P0 M tn E F ev xv L lets act w)
  (hx2:ex.length≤400) (hn2:en.length≤400) (hex:∀x,x∈ex→x<n) (hen:∀x,x∈en→x<n) (oge:w.ownsRow 0 3 1 (.slice (some ⟨ge,0,none⟩) ex.length ce) ex.length (aG ex)) (ogn:w.ownsRow 0 3 1 (.slice (some ⟨gn,0,none⟩) en.length cn) en.length (aG en)) (hac:StmR w 0 l (.slice ao an ac) acts):
  Calls Tryz.prog 125 #[.pointer (some ⟨M,0,none⟩),.agg #[.int .i64 tr,.slice (some ⟨ge,0,none⟩) ex.length ce,.slice (some ⟨gn,0,none⟩) en.length cn,.int .i64 nx],.slice ao an ac] w λe w'=>∃P lv,e=.returned (.agg #[.int .i64 tr,.slice (some ⟨ge,0,none⟩) ex.length ce,.slice (some ⟨gn,0,none⟩) en.length cn,.int .i64 nx,.func (.func 163) #[] #[.pointer (some ⟨P,0,none⟩)]])∧
   Lists w' l P lv (ex.map (λi=>F.getD i undef)++[.slice ao an ac]++en.map (λi=>E.getD i undef)) (ex.map (λi=>(ss.getD i st0).exit)++[acts]++en.map (λi=>(ss.getD i st0).entry))∧Below w.heap.size w w':=by
 have hmf:∀(fn:Fn) (first cap:Array Value) (w:World),(Instr.makeFunc fn first cap).run Tryz.prog w=.ok (.func fn first cap) w:=λ_ _ _ _=>rfl;obtain⟨i0,hi0,hz0,hz1,hz2⟩:=info_parts qw6;have HI:=hid h;have Hex:=hid hex;have Hen:=hid hen;have HAC:=hid hac;have CEge:Hid (∀j,j<ex.length→w.cell? ⟨ge,j,none⟩=some (.int .i64 ((ex.getD j 0:Nat):Int))):=hid (λj hj=>by rw[World.ownsRow.cellAt oge j (by omega)];simp[aG,List.getElem?_eq_getElem hj]);have CEgn:Hid (∀j,j<en.length→w.cell? ⟨gn,j,none⟩=some (.int .i64 ((en.getD j 0:Nat):Int))):=hid (λj hj=>by rw[World.ownsRow.cellAt ogn j (by omega)];simp[aG,List.getElem?_eq_getElem hj]);have Lge:ge<w.heap.size:=(oge.lt ge rfl).2;have Lgn:gn<w.heap.size:=(ogn.lt gn rfl).2;obtain⟨W,hW⟩:∃W,W=((w.alloc (.cells #[.int .i64 tr,.slice (some ⟨ge,0,none⟩) ex.length ce,.slice (some ⟨gn,0,none⟩) en.length cn,.int .i64 nx] 44)).alloc (.cells #[.int .i64 0,.slice none 0 0,.slice none 0 0,.int .i64 0,.nilFunc] 194)).alloc (.cells #[.slice none 0 0] 105):=⟨_,rfl⟩;have C0:Hid (Cr w #[.int .i64 tr,.slice (some ⟨ge,0,none⟩) ex.length ce,.slice (some ⟨gn,0,none⟩) en.length cn,.int .i64 nx] (.slice none 0 0) [] W):=hid (by
  have h1:=heap_alloc_new ((w.alloc (.cells #[.int .i64 tr,.slice (some ⟨ge,0,none⟩) ex.length ce,.slice (some ⟨gn,0,none⟩) en.length cn,.int .i64 nx] 44)).alloc (.cells #[.int .i64 0,.slice none 0 0,.slice none 0 0,.int .i64 0,.nilFunc] 194)) (.cells #[.slice none 0 0] 105);have h2:=heap_alloc_new (w.alloc (.cells #[.int .i64 tr,.slice (some ⟨ge,0,none⟩) ex.length ce,.slice (some ⟨gn,0,none⟩) en.length cn,.int .i64 nx] 44)) (.cells #[.int .i64 0,.slice none 0 0,.slice none 0 0,.int .i64 0,.nilFunc] 194);rw[World.size_alloc]at h2;rw[World.size_alloc,World.size_alloc]at h1;rw[hW];exact⟨yW _ _ _ _,aA (aA (heap_alloc_new w _) (aB _ _)) (aB _ _),aA h2 (aB _ _),h1,World.ownsRow_nil _ _ _ _⟩)
 clear h hex hen hac oge ogn;go_enter Tryz.func125,Tryz.ntmps125;go_upto_region 2 with fail;rw[←hW];clear hW;obtain⟨r0,r1,r2,r3⟩:=aC C0.out.rb;go_wp2_with fail;go_loopg [15] ex.length (λmm i X=>∃(c:Nat) (lv:Value),c≤ex.length∧mm=ex.length-c∧i=.int .i64 c∧Cr w #[.int .i64 tr,.slice (some ⟨ge,0,none⟩) ex.length ce,.slice (some ⟨gn,0,none⟩) en.length cn,.int .i64 nx] lv ([]++(ex.take c).map (λi=>F.getD i undef)) X)
 case atStart=>exact⟨0,_,by omega,by omega,rfl,by simpa using C0.out⟩
 case round=>
  obtain⟨c,lv,hc,rfl,rfl,hC⟩:=hrel;by_cases hlt:c<ex.length
  ·have I1:=HI.out
   obtain⟨st,hst⟩:∃st,st=ex.getD c 0:=⟨_,rfl⟩;have hmem:st∈ex:=by rw[hst,List.getD_eq_getElem?_getD,List.getElem?_eq_getElem hlt];simp
   have hsn:st<n:=Hex.out st hmem;have cx0:wr.cell? ⟨ge,c,none⟩=some (.int .i64 (st:Int)):=by
    rw[hst];exact(hC.bel.cell (p:=⟨ge,c,none⟩) Lge).trans (CEge.out c hlt)
   obtain⟨xo,xcap,hxv⟩:=cG I1.l1.mac.x;obtain⟨xg,xcap2,hxg,_,hxl⟩:=World.ownsRow.form I1.l1.mac.x (by have:=I1.l1.lf;omega);have hxe:xo=some ⟨xg,0,none⟩∧xcap=xcap2:=by rw[hxv]at hxg;simpa using hxg
   obtain⟨rfl,rfl⟩:=hxe;obtain⟨nodes,hno,hrow⟩:=I1.l1.cf st hsn;obtain⟨so2,sc2,hsv⟩:=cG hrow;have cel:w.cell? ⟨xg,st,none⟩=some (.slice so2 nodes.length sc2):=by
    have h1:=I1.l1.mac.x;rw[hxv]at h1;rw[World.ownsRow.cellAt h1 st (by have:=I1.l1.lf;omega),←hsv,List.getD_eq_getElem?_getD,List.getElem?_eq_getElem (by have:=I1.l1.lf;omega)];rfl
   obtain⟨e0,e1,e2,e3,e4⟩:=cJ I1.l1.mac.box;have hM:M<w.heap.size:=lt_of_block I1.l1.mac.box;have q1:wr.cell? ⟨M,2,none⟩=some xv:=(hC.bel.cell (p:=⟨M,2,none⟩) hM).trans e2;rw[hxv]at q1;have q2:wr.cell? ⟨xg,st,none⟩=some (.slice so2 nodes.length sc2):=(hC.bel.cell (p:=⟨xg,st,none⟩) hxl).trans cel;have LF:Hid (F.length=n):=hid I1.l1.lf;have SE:Hid (.slice so2 nodes.length sc2=F.getD st undef):=hid hsv.symm;have TK:Hid ((ex.take (c+1)).map (λi=>F.getD i undef)=(ex.take c).map (λi=>F.getD i undef)++[.slice so2 nodes.length sc2]):=hid (by
    have h1:ex.take (c+1)=ex.take c++[st]:=by rw[hst,List.take_add_one,List.getD_eq_getElem?_getD,List.getElem?_eq_getElem hlt];rfl
    rw[h1,List.map_append,SE.out];rfl)
   have ci:(c:Int)<(ex.length:Int):=by omega
   have c5:c≤500:=by omega
   have si:(st:Int)<(F.length:Int):=by have:=LF.out;omega
   obtain⟨la,lcap,rfl⟩:=cG hC.o;have C1:=hid hC;have p0:=qh4 hC.pb;clear hC I1 hno hrow hsv cel e0 e1 e2 e3 e4 hxv hxg hst hmem;obtain⟨LS,hLS⟩:∃LS,LS=([]++(ex.take c).map (λi=>F.getD i undef)):=⟨_,rfl⟩;have HLS:=hid hLS;rw[←hLS]at C1 p0;have LEN:Hid (LS.length≤1000):=hid (by rw[hLS];simp;omega);have ml:w.heap.size+1+1<wr.heap.size:=lt_of_block C1.out.pb;clear hLS;go_upto_region 5 with fail;have D:=hid (C1.out.below ((Below.refl _ _).drew));have DA:=hid ((C1.out.below (aB wr (.cells #[.slice so2 nodes.length sc2] 118))).below ((Below.refl _ _).drew));have NW:=hid (World.news_of_block (aA (heap_alloc_new wr (.cells #[.slice so2 nodes.length sc2] 118)) ((Below.refl _ _).drew)));have SZ:Hid (w.heap.size≤((wr.alloc (.cells #[.slice so2 nodes.length sc2] 118)).drew).heap.size):=hid DA.out.bel.size;have F63:Hid (LS.length+1≤maxLen∧(LS.length+1)*24≤140737488355328):=hid (by have:=LEN.out;unfold maxLen;omega);go_region_law
    (first
     |(refine step_append_lies _ (by rfl) _ _ _ (by rfl) w.heap.size 118 i0 _ 1 24 Tryz.underlying105 hi0 hz0 hz1 hz2 rfl (by omega) (.slice la LS.length lcap) LS.length LS (by simp[Act.eval]) (DA.out.o) ⟨wr.heap.size,0,none⟩ 1 1 [.slice so2 nodes.length sc2] (by simp[Act.eval]) (by simp) NW.out (by intro u hu;simp at hu;subst hu;rfl) (by omega) F63.out.1 F63.out.2 SZ.out (wr.heap.size+1) (by simp) ?_;intro gg cap' w3 hown1 hgrow hat hlt3;have O3:=hid hown1;have G3:=hid hgrow;have X3:=(hgrow.block _ (lt_of_block DA.out.pb) (λe=>aJ DA.out.o (by decide) DA.out.pb e.symm)).trans DA.out.pb;have r0:w3.cell? ⟨w.heap.size+1+1,0,none⟩=some (.slice la LS.length lcap):=(by simp[World.cell?,X3]);have fr1:=frozen_of_row w3 _ 0 _ _ X3;clear hown1 hgrow hat X3))
   all_goals
    have KK:=Cr.add (sv:=.slice so2 nodes.length sc2) C1.out (Y:=(wr.alloc (.cells #[.slice so2 nodes.length sc2] 118)).drew) ((aB _ _).drew) G3.out O3.out;go_wp2_with fail;go_roundg(ex.length-(c+1))
    case measure=>omega
    case rel=>exact⟨c+1,_,by omega,rfl,by go_num,by rw[TK.out,←List.append_assoc,←HLS.out];exact KK⟩
  ·obtain rfl:c=ex.length:=by omega
   rw[List.take_length,List.nil_append]at hC;obtain⟨la,lcap,rfl⟩:=cG hC.o;have p0:=qh4 hC.pb;have C1:=hid hC;obtain⟨LS,hLS⟩:∃LS,LS=ex.map (λi=>F.getD i undef):=⟨_,rfl⟩;have HLS:=hid hLS;rw[←hLS]at C1 p0;have LEN:Hid (LS.length≤1000):=hid (by rw[hLS];simp;omega);have ml:w.heap.size+1+1<wr.heap.size:=lt_of_block C1.out.pb;have NW:=hid (World.news_of_block (heap_alloc_new wr (.cells #[.slice ao an ac] 118)));clear hLS hC;go_wp2_with(at_builtin;refine wpList_append_lies _ rfl (.tmp 30) (.tmp 32) 105 rfl w.heap.size 118 i0 _ 1 24 Tryz.underlying105 hi0 hz0 hz1 hz2 rfl (by decide) (.slice la LS.length lcap) LS.length LS rfl (C1.out.below (aB _ _)).o ⟨wr.heap.size,0,none⟩ 1 1 [.slice ao an ac] rfl rfl NW.out (by intro u hu;simp at hu;subst hu;rfl) (by omega) (by have:=LEN.out;unfold maxLen;omega) (by have:=LEN.out;omega) (by have:=C1.out.bel.size;simp;omega) (wr.heap.size+1) (by simp) ?_);intro gg cap' w3 hown hgrow hat hlt3;have X3:=(hgrow.block _ (lt_of_block (C1.out.below (aB wr (.cells #[.slice ao an ac] 118))).pb) (λe=>aJ (C1.out.below (aB _ _)).o (by decide) (C1.out.below (aB wr (.cells #[.slice ao an ac] 118))).pb e.symm)).trans (C1.out.below (aB wr (.cells #[.slice ao an ac] 118))).pb;have s0:=qh4 X3;have fr1:=frozen_of_row w3 _ 0 _ _ X3;have C2:=hid (Cr.add (sv:=.slice ao an ac) C1.out (aB wr (.cells #[.slice ao an ac] 118)) hgrow hown);clear hown hgrow hat X3 p0;go_upto_region 8 with fail;obtain⟨W2,hW2⟩:∃W2,W2=w3.setCell ⟨w.heap.size+1+1,0,none⟩ (.slice (some ⟨gg,0,none⟩) (LS.length+1) cap'):=⟨_,rfl⟩;rw[←hW2]at C2⊢;clear hW2 s0 fr1 C0;have C0:=C2;clear C2;obtain⟨r0,r1,r2,r3⟩:=aC C0.out.rb;obtain⟨PRE,hPRE⟩:∃PRE,PRE=LS++[.slice ao an ac]:=⟨_,rfl⟩;rw[←hPRE]at C0;have HPRE:=hid hPRE;have LPRE:Hid (PRE.length≤500):=hid (by rw[hPRE,HLS.out];simp;omega);clear hPRE C1 LEN NW;go_wp2_with fail;go_loopg [37] en.length (λmm i X=>∃(c:Nat) (lv:Value),c≤en.length∧mm=en.length-c∧i=.int .i64 c∧Cr w #[.int .i64 tr,.slice (some ⟨ge,0,none⟩) ex.length ce,.slice (some ⟨gn,0,none⟩) en.length cn,.int .i64 nx] lv (PRE++(en.take c).map (λi=>E.getD i undef)) X)
   case atStart=>exact⟨0,_,by omega,by omega,rfl,by simpa using C0.out⟩
   case round=>
    obtain⟨c,lv,hc,rfl,rfl,hC⟩:=hrel;by_cases hlt:c<en.length
    ·have I1:=HI.out
     obtain⟨st,hst⟩:∃st,st=en.getD c 0:=⟨_,rfl⟩;have hmem:st∈en:=by rw[hst,List.getD_eq_getElem?_getD,List.getElem?_eq_getElem hlt];simp
     have hsn:st<n:=Hen.out st hmem;have cx0:wr.cell? ⟨gn,c,none⟩=some (.int .i64 (st:Int)):=by
      rw[hst];exact(hC.bel.cell (p:=⟨gn,c,none⟩) Lgn).trans (CEgn.out c hlt)
     obtain⟨xo,xcap,hxv⟩:=cG I1.l1.mac.e;obtain⟨xg,xcap2,hxg,_,hxl⟩:=World.ownsRow.form I1.l1.mac.e (by have:=I1.l1.le;omega);have hxe:xo=some ⟨xg,0,none⟩∧xcap=xcap2:=by rw[hxv]at hxg;simpa using hxg
     obtain⟨rfl,rfl⟩:=hxe;obtain⟨nodes,hno,hrow⟩:=I1.l1.ce st hsn;obtain⟨so2,sc2,hsv⟩:=cG hrow;have cel:w.cell? ⟨xg,st,none⟩=some (.slice so2 nodes.length sc2):=by
      have h1:=I1.l1.mac.e;rw[hxv]at h1;rw[World.ownsRow.cellAt h1 st (by have:=I1.l1.le;omega),←hsv,List.getD_eq_getElem?_getD,List.getElem?_eq_getElem (by have:=I1.l1.le;omega)];rfl
     obtain⟨e0,e1,e2,e3,e4⟩:=cJ I1.l1.mac.box;have hM:M<w.heap.size:=lt_of_block I1.l1.mac.box;have q1:wr.cell? ⟨M,1,none⟩=some ev:=(hC.bel.cell (p:=⟨M,1,none⟩) hM).trans e1;rw[hxv]at q1;have q2:wr.cell? ⟨xg,st,none⟩=some (.slice so2 nodes.length sc2):=(hC.bel.cell (p:=⟨xg,st,none⟩) hxl).trans cel;have LF:Hid (E.length=n):=hid I1.l1.le;have SE:Hid (.slice so2 nodes.length sc2=E.getD st undef):=hid hsv.symm;have TK:Hid ((en.take (c+1)).map (λi=>E.getD i undef)=(en.take c).map (λi=>E.getD i undef)++[.slice so2 nodes.length sc2]):=hid (by
      have h1:en.take (c+1)=en.take c++[st]:=by rw[hst,List.take_add_one,List.getD_eq_getElem?_getD,List.getElem?_eq_getElem hlt];rfl
      rw[h1,List.map_append,SE.out];rfl)
     have ci:(c:Int)<(en.length:Int):=by omega
     have c5:c≤500:=by omega
     have si:(st:Int)<(E.length:Int):=by have:=LF.out;omega
     obtain⟨la,lcap,rfl⟩:=cG hC.o;have C1:=hid hC;have p0:=qh4 hC.pb;clear hC I1 hno hrow hsv cel e0 e1 e2 e3 e4 hxv hxg hst hmem;obtain⟨LS,hLS⟩:∃LS,LS=(PRE++(en.take c).map (λi=>E.getD i undef)):=⟨_,rfl⟩;have HLS:=hid hLS;rw[←hLS]at C1 p0;have LEN:Hid (LS.length≤1000):=hid (by rw[hLS];have:=LPRE.out;simp;omega);have ml:w.heap.size+1+1<wr.heap.size:=lt_of_block C1.out.pb;clear hLS;go_upto_region 11 with fail;have D:=hid (C1.out.below ((Below.refl _ _).drew));have DA:=hid ((C1.out.below (aB wr (.cells #[.slice so2 nodes.length sc2] 118))).below ((Below.refl _ _).drew));have NW:=hid (World.news_of_block (aA (heap_alloc_new wr (.cells #[.slice so2 nodes.length sc2] 118)) ((Below.refl _ _).drew)));have SZ:Hid (w.heap.size≤((wr.alloc (.cells #[.slice so2 nodes.length sc2] 118)).drew).heap.size):=hid DA.out.bel.size;have F63:Hid (LS.length+1≤maxLen∧(LS.length+1)*24≤140737488355328):=hid (by have:=LEN.out;unfold maxLen;omega);go_region_law
      (first
       |(refine step_append_lies _ (by rfl) _ _ _ (by rfl) w.heap.size 118 i0 _ 1 24 Tryz.underlying105 hi0 hz0 hz1 hz2 rfl (by omega) (.slice la LS.length lcap) LS.length LS (by simp[Act.eval]) (DA.out.o) ⟨wr.heap.size,0,none⟩ 1 1 [.slice so2 nodes.length sc2] (by simp[Act.eval]) (by simp) NW.out (by intro u hu;simp at hu;subst hu;rfl) (by omega) F63.out.1 F63.out.2 SZ.out (wr.heap.size+1) (by simp) ?_;intro gg cap' w3 hown1 hgrow hat hlt3;have O3:=hid hown1;have G3:=hid hgrow;have X3:=(hgrow.block _ (lt_of_block DA.out.pb) (λe=>aJ DA.out.o (by decide) DA.out.pb e.symm)).trans DA.out.pb;have r0:w3.cell? ⟨w.heap.size+1+1,0,none⟩=some (.slice la LS.length lcap):=(by simp[World.cell?,X3]);have fr1:=frozen_of_row w3 _ 0 _ _ X3;clear hown1 hgrow hat X3))
     all_goals
      have KK:=Cr.add (sv:=.slice so2 nodes.length sc2) C1.out (Y:=(wr.alloc (.cells #[.slice so2 nodes.length sc2] 118)).drew) ((aB _ _).drew) G3.out O3.out;go_wp2_with fail;go_roundg(en.length-(c+1))
      case measure=>omega
      case rel=>exact⟨c+1,_,by omega,rfl,by go_num,by rw[TK.out,←List.append_assoc,←HLS.out];exact KK⟩
    ·obtain rfl:c=en.length:=by omega
     rw[List.take_length]at hC;have FN:=hid hC;obtain⟨r0,r1,r2,r3⟩:=aC hC.rb;obtain⟨z0,z1,z2,z3,z4⟩:=cJ hC.lb;have fz:=zA hC.lb;have ml:w.heap.size+1+1<wr.heap.size:=lt_of_block hC.pb;clear hC;go_wp2_with fail;obtain⟨k0,k1,k2,k3,k4⟩:=cJ (qIB (a:=.int .i64 tr) (b:=.slice (some ⟨ge,0,none⟩) ex.length ce) (c:=.slice (some ⟨gn,0,none⟩) en.length cn) (d:=.int .i64 nx) (e:=.func (.func 163) #[] #[.pointer (some ⟨w.heap.size+1+1,0,none⟩)]) FN.out.lb);refine bodyPost_ret (v:=.agg #[.int .i64 tr,.slice (some ⟨ge,0,none⟩) ex.length ce,.slice (some ⟨gn,0,none⟩) en.length cn,.int .i64 nx,.func (.func 163) #[] #[.pointer (some ⟨w.heap.size+1+1,0,none⟩)]]) (by simp[results,Tryz.results125,go_sem,k0,k1,k2,k3,k4]) rfl ?_;have tt:Turn (λt=>t=194) 0 wr (qj0 wr (w.heap.size+1) (.int .i64 tr) (.slice (some ⟨ge,0,none⟩) ex.length ce) (.slice (some ⟨gn,0,none⟩) en.length cn) (.int .i64 nx) (.func (.func 163) #[] #[.pointer (some ⟨w.heap.size+1+1,0,none⟩)])):=qKU FN.out.lb rfl;have bb:=qAQ (a:=.int .i64 tr) (b:=.slice (some ⟨ge,0,none⟩) ex.length ce) (c:=.slice (some ⟨gn,0,none⟩) en.length cn) (d:=.int .i64 nx) (e:=.func (.func 163) #[] #[.pointer (some ⟨w.heap.size+1+1,0,none⟩)]) FN.out.bel (Nat.le_succ w.heap.size);have ea:qgW _ l (ex.map (λi=>F.getD i undef)++[.slice ao an ac]++en.map (λi=>E.getD i undef)) (ex.map (λi=>(ss.getD i st0).exit)++[acts]++en.map (λi=>(ss.getD i st0).entry)):=qv4 (qv4 (qv5 (λx hx=>((HI.out.l1.cf x (Hex.out x hx)).below bb).base)) (qDW (HAC.out.below bb))) (qv5 (λx hx=>((HI.out.l1.ce x (Hen.out x hx)).below bb).base));have or:=tt.own FN.out.o (by decide);rw[HPRE.out,HLS.out]at or;exact⟨w.heap.size+1+1,lv,rfl,⟨by have:=tt.box FN.out.pb (by decide);exact this,aM or (Nat.zero_le _),ea.1,ea.2⟩,bb⟩
end Go.Proofs.YtiimkhepplkocaaGreat
namespace Go.Proofs.YtiimkhepplkocaaGreat
open Go.RowKit Go.Sort
set_option linter.unusedVariables false
attribute [local go_sem ↓] Go.wp_at_zero Go.wp_at_succ
theorem Lists.below{X Y:World}{l:aE}{P:Nat}{lv:Value}{LS:List Value}{xs:List (List aH)}(h:Lists X l P lv LS xs)(hb:Below X.heap.size X Y):Lists Y l P lv LS xs:=h.stir (B:=0) (Stir.of_below hb)
theorem qh0{K:List Nat}{g:Nat→List aH}(h:∀x,x∈K→(g x).length≤50):((K.map g).flatten).length≤K.length*50:=by
 induction K with
 |nil=>simp
 |cons x r ih=>
  have h1:=h x (by simp);have h2:=ih (λy hy=>h y (by simp[hy]));rw[List.map_cons,List.flatten_cons,List.length_append,List.length_cons,Nat.succ_mul];omega
theorem qg9{l:aE}{xs:List aH}{vs:List Value}(h:dJ l xs=some vs):xs.length≤50:=by
 unfold dJ at h;split at h
 ·rename_i hh;exact hh.2
 ·cases h
theorem qu9{ss:List StD}{tn:Nat}(G:uH ss tn):(bR ss).length≤201:=by
 have:=qa6 G (ss.length-0) 0 G.n1 rfl;have:=G.n2;unfold bR;simp;omega
end Go.Proofs.YtiimkhepplkocaaGreat
namespace Go.Proofs.YtiimkhepplkocaaGreat
open Go.RowKit Go.Sort
set_option linter.unusedVariables false
attribute [local go_sem ↓] Go.wp_at_zero Go.wp_at_succ
def qa7(ks vs:List Int)(v:Int):Bool:=bQ ks vs&&decide ((vs.length:Int)=v)
theorem qAO(kA vA:Option Addr)(kn kc vn vc:Nat)(ks vs:List Int)(o s t v:Int)(w:World)(hkn:kn≤1048576)(hvn:vn≤1048576)(hk:SliceOf w kA kn ks)(hv:SliceOf w vA vn vs):
  Calls Tryz.prog 57 #[.agg #[.slice kA kn kc,.slice vA vn vc],.agg #[.int .i64 o,.int .i64 s,.int .i64 t,.int .i64 v]] w λe w'=>e=.returned (.bool (qa7 ks vs v))∧Below w.heap.size w w':=by
 have EV:Hid (vs.length=vn):=hid hv.1;obtain⟨W,hW⟩:∃W,W=(w.alloc (.cells #[.slice kA kn kc,.slice vA vn vc] 32)).alloc (.cells #[.int .i64 o,.int .i64 s,.int .i64 t,.int .i64 v] 40):=⟨_,rfl⟩;have bW:Below w.heap.size w W:=by rw[hW];exact aD _ _ _
 have q1:W.heap[w.heap.size]? =some (.cells #[.slice kA kn kc,.slice vA vn vc] 32 (0,0)):=by rw[hW];exact aA (heap_alloc_new w _) (aB _ _)
 have q2:W.heap[w.heap.size+1]? =some (.cells #[.int .i64 o,.int .i64 s,.int .i64 t,.int .i64 v] 40 (0,0)):=by
  rw[hW];simpa using heap_alloc_new (w.alloc (.cells #[.slice kA kn kc,.slice vA vn vc] 32)) (.cells #[.int .i64 o,.int .i64 s,.int .i64 t,.int .i64 v] 40)
 obtain⟨b,hb⟩:∃b,b=bQ ks vs:=⟨_,rfl⟩;have C:=hid (qoV _ _ kn vn kc vc ks vs W (by omega) (by omega) (hk.below bW) (hv.below bW));rw[←hb]at C;have Q1:=hid q1;have Q2:=hid q2;have BW:=hid bW;have HW:=hid hW;rw[hW]at C;have EF:Hid (qa7 ks vs v=(b&&decide ((vn:Int)=v))):=hid (by unfold qa7;rw[←hb,EV.out]);rw[EF.out];clear hk hv q1 q2 bW hW hb;by_cases hvv:(vn:Int)=v
 ·have hd:decide ((vn:Int)=v)=true:=by simpa using hvv
  have hd2:((vn:Int)==v)=true:=by simpa using hvv
  rw[hd];have HVV:=hid hvv;clear hd hvv;cases b
  all_goals
   go_enter Tryz.func57,Tryz.ntmps57;go_wp2_with(go_at_call 61;refine C.out.mono ?_;rintro e w1 ⟨rfl,hb⟩;rw[←HW.out]at hb;have B1:=hid (BW.out.trans (hb.mono BW.out.size));obtain⟨p0,p1,_,_⟩:=aF (aA Q1.out hb);obtain⟨l0,l1,l2,l3⟩:=aC (aA Q2.out hb);clear hb);go_ret;exact⟨aZ (by simp),B1.out⟩
 ·have hd:decide ((vn:Int)=v)=false:=by simpa using hvv
  have hd2:((vn:Int)==v)=false:=by simpa using hvv
  rw[hd];have HVV:=hid hvv;clear hd;cases b
  all_goals
   go_enter Tryz.func57,Tryz.ntmps57;go_wp2_with(go_at_call 61;refine C.out.mono ?_;rintro e w1 ⟨rfl,hb⟩;rw[←HW.out]at hb;have B1:=hid (BW.out.trans (hb.mono BW.out.size));obtain⟨p0,p1,_,_⟩:=aF (aA Q1.out hb);obtain⟨l0,l1,l2,l3⟩:=aC (aA Q2.out hb);clear hb);go_ret;exact⟨aZ (by simp),B1.out⟩
def vC(ss:List StD)(ts:List TrD)(l:aE)(ks vs:List Int):Bool:=decide ((bJ ss ts l).1=0)&&qa7 ks vs l.v
theorem OutE.under{B B':Nat}{w:World}{kv vv ev:Value}{ks vs:List Int}{es:List bI}(h:OutE B w kv vv ev ks vs es)(hB:B'≤B):OutE B' w kv vv ev ks vs es:=⟨aM h.k hB,aM h.v hB,aM h.e hB,h.ne⟩
end Go.Proofs.YtiimkhepplkocaaGreat
