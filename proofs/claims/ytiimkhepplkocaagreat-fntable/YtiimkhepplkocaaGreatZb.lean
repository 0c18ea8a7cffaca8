import Derived.Test.YtiimkhepplkocaaGreatZ5
set_option maxRecDepth 100000
set_option maxHeartbeats 16000000
namespace Go.Proofs.YtiimkhepplkocaaGreat
open Go.RowKit Go.Sort
set_option linter.unusedVariables false
attribute [local go_sem ↓] Go.wp_at_zero Go.wp_at_succ
theorem qpH(N:Nat→Nat)(ts:List TrD)(lets act:Nat→Value):∀(l:List Nat) (c i:Nat),c<l.length→i<6→(mvs N ts lets act l)[c*6+i]? =(mvC N ts lets act (l.getD c 0))[i]?:=by
 intro l
 induction l with
 |nil=>intro c i h;simp at h
 |cons x r ih=>
  intro c i hc hi;have e:mvs N ts lets act (x::r)=mvC N ts lets act x++mvs N ts lets act r:=by simp[mvs]
  have hl:(mvC N ts lets act x).length=6:=rfl;rw[e];cases c with
  |zero=>rw[List.getElem?_append_left (by omega)];simp
  |succ c=>
   rw[List.getElem?_append_right (by omega),hl,show(c+1)*6+i-6=c*6+i by omega,ih c i (by simpa using hc) hi];simp
theorem qHI(ts:List TrD)(s:Nat)(sg:Int)(m:Nat):(aW ts s m).filter (λq=>decide ((ts.getD q tr0).sig=sg))=eO ts s sg m:=by
 unfold aW eO;rw[List.filter_filter];congr 1;funext q;unfold qdB;rw[Bool.and_comm]
structure Mv (w:World) (N:Nat→Nat) (ts:List TrD) (lets act:Nat→Value) (g0:Nat) (ups:List Nat) (lv:Value) (l:List Nat) (X:World):Prop where
 bel:Below w.heap.size w X
 u:∀j,j<ups.length→X.cell? ⟨g0,j,none⟩=some (.pointer (some ⟨N (ups.getD j 0),0,none⟩))
 gb:∃cs,X.heap[g0]? =some (.cells cs 110 (0,0))
 o:X.ownsRow w.heap.size 120 6 lv l.length (mvs N ts lets act l)
theorem Mv.below{w:World}{N:Nat→Nat}{ts:List TrD}{lets act:Nat→Value}{g0:Nat}{ups:List Nat}{lv:Value}{l:List Nat}{X Y:World}(h:Mv w N ts lets act g0 ups lv l X)(hb:Below X.heap.size X Y):Mv w N ts lets act g0 ups lv l Y:=by
 obtain⟨cs,hc⟩:=h.gb;exact⟨h.bel.trans (hb.mono h.bel.size),λj hj=>(hb.cell (p:=⟨g0,j,none⟩) (lt_of_block hc)).trans (h.u j hj),⟨cs,aA hc hb⟩,aI h.o hb⟩
theorem Mv.grown{w:World}{N:Nat→Nat}{ts:List TrD}{lets act:Nat→Value}{g0:Nat}{ups:List Nat}{lv lv':Value}{l l':List Nat}{X Y:World}(h:Mv w N ts lets act g0 ups lv l X)(hg:X.grownBy Y lv.ownBlock)(ho:Y.ownsRow w.heap.size 120 6 lv' l'.length (mvs N ts lets act l')):Mv w N ts lets act g0 ups lv' l' Y:=by
 obtain⟨cs,hc⟩:=h.gb;have nf:=aJ h.o (by decide) hc;have e:=hg.block g0 (lt_of_block hc) (λe=>nf e.symm);refine⟨⟨hg.os.trans h.bel.os,hg.tape.trans h.bel.tape,hg.output.trans h.bel.output,Nat.le_trans h.bel.size hg.size,λk hk=>(hg.block k (Nat.lt_of_lt_of_le hk h.bel.size) (λe=>by have:=(h.o.lt k e.symm).1;omega)).trans (h.bel.block k hk)⟩,λj hj=>?_,⟨cs,e.trans hc⟩,ho⟩;rw[←h.u j hj];simp only[World.cell?];rw[e]
theorem qpG{X:World}{B:Nat}{N:Nat→Nat}{ts:List TrD}{l:aE}{lets act:Nat→Value}{q:Nat}(h:GuardAt X B l.v (ts.getD q tr0).guard (lets q)∧StmR X B l (act q) (ts.getD q tr0).action):
  ∃nf tp fn cp ao vn ac,mvC N ts lets act q=[.int .i64 (q:Int),.int .i64 (ts.getD q tr0).sig,.pointer (some ⟨nf,0,none⟩),.pointer tp,.func fn #[] cp,.slice ao vn ac]:=by
 obtain⟨fn,cp,hf⟩:=h.1.form;obtain⟨vs,_,h2⟩:=h.2;obtain⟨ao,ac,h3⟩:=cG h2;refine⟨N (ts.getD q tr0).src.toNat,if(ts.getD q tr0).target=-1 then none else some ⟨N (ts.getD q tr0).target.toNat,0,none⟩,fn,cp,ao,vs.length,ac,?_⟩;unfold mvC yO;rw[hf,h3];split<;>rfl
theorem qxX{w0:World}{cx lx:Array Value}{N:Nat→Nat}{tg tcap:Nat}{ss:List StD}{ts:List TrD}{n:Nat}{l:aE}{B P M tn:Nat}{E F:List Value}{ev xv:Value}{L lets act:Nat→Value}(T:cN ss)(hn:ss.length=n)(hn2:n≤200)(htn:ts.length=tn)(ht2:tn≤500)(k:Nat)(hk:k<n)(sg:Int)(w:World)(h:L2 w0 cx lx N tg tcap ss ts n l B P M tn E F ev xv L lets act w):
  Calls Tryz.prog 46 #[.pointer (some ⟨M,0,none⟩),.pointer (some ⟨N k,0,none⟩),.int .i64 sg] w λe w'=>∃ao c,e=.returned (.slice ao (aU ts (up ss k) sg).length c)∧w'.ownsRow w.heap.size 120 6 (.slice ao (aU ts (up ss k) sg).length c) (aU ts (up ss k) sg).length (mvs N ts lets act (aU ts (up ss k) sg))∧Below w.heap.size w w':=by
 subst hn;have C:=hid (qjU N ss T hn2 k hk w h.l1.mb.nd.1);have HI:=hid h;have UL:=hid (pS T k hk);have UT:=hid (vP T k hk);obtain⟨ups,hups⟩:∃x,x=up ss k:=⟨_,rfl⟩;rw[←hups]at C UL UT⊢;obtain⟨nu,hnu⟩:∃x,x=ups.length:=⟨_,rfl⟩;rw[←hnu]at C UL;have NU:=hid hnu;have HT:=hid htn;have n2:nu≤200:=by have:=UL.out;omega
 obtain⟨i1,hi1,hy0,hy1,hy2⟩:=info_parts qoZ;clear h hups hnu htn;go_enter Tryz.func46,Tryz.ntmps46;go_wp2_with(go_at_call 102;refine C.out.mono ?_;rintro e w1 ⟨g0,c0,rfl,ho,hb⟩;have HO:=hid ho;have HB:=hid hb;clear ho hb);have M0:Hid (Mv w N ts lets act g0 ups (.slice none 0 0) [] w1):=hid (by
  have h1:=HO.out;unfold uX at h1;rw[←NU.out]at h1;obtain⟨cur,hc,_⟩:=qd0 h1;refine⟨HB.out,λj hj=>?_,⟨cur,hc⟩,by simpa[mvs]using World.ownsRow_nil w1 w.heap.size 120 6⟩;rw[World.ownsRow.cellAt h1 j (by have:=NU.out;omega)];simp[b8,List.getElem?_eq_getElem hj])
 clear HO HB C;go_loopg [7,15] nu (λmm lv i X=>∃a:Nat,a≤nu∧mm=nu-a∧i=.int .i64 a∧Mv w N ts lets act g0 ups lv (aU ts (ups.take a) sg) X)
 case atStart=>exact⟨0,by omega,by omega,rfl,by simpa[aU]using M0.out⟩
 case round=>
  obtain⟨a,ha,rfl,rfl,hM⟩:=hrel;have MM:=hid hM;obtain⟨ao,cap,hv⟩:=cG hM.o;subst hv;by_cases hlt:a<nu
  ·have cu:=hM.u a (by rw[←NU.out];exact hlt)
   obtain⟨s,hsv⟩:∃s,s=ups.getD a 0:=⟨_,rfl⟩;rw[←hsv]at cu;have hsn:s<ss.length:=by
    have hm:s∈ups:=by rw[hsv,List.getD_eq_getElem?_getD,List.getElem?_eq_getElem (by have:=NU.out;omega)];simp
    have:=UT.out s hm;omega
   have TK:Hid (ups.take (a+1)=ups.take a++[s]):=hid (by
    rw[hsv,List.take_add_one];have:=NU.out;rw[List.getD_eq_getElem?_getD,List.getElem?_eq_getElem (by omega)];rfl)
   have I1:=HI.out;have ai:(a:Int)<(nu:Int):=by omega
   have si:(s:Int)<(ss.length:Int):=by omega
   obtain⟨so,scap,hL⟩:=cG (I1.lv s hsn);have OL:=hid (I1.lv s hsn);have RB:=I1.l1.row.cell hsn;rw[hL]at RB OL;obtain⟨e0,e1,e2,e3,e4⟩:=cJ I1.l1.mac.box;have nd:=(I1.l1.mb.nd.1 s hsn).2.1;have r3:=cell_regrown ((hM.bel.cell (p:=⟨M,3,none⟩) (lt_of_block I1.l1.mac.box)).trans e3);have rn:=cell_regrown ((hM.bel.cell (p:=⟨N s,0,none⟩) (I1.l1.mb.nd.1 s hsn).1).trans nd);have rb:=cell_regrown ((hM.bel.cell (p:=⟨B,s,none⟩) I1.l1.row.lt).trans RB);clear hM hsv I1 e0 e1 e2 e3 e4 nd RB;go_wp2_with fail;refine wp_region_quiet_below (by kernel_rfl) (by kernel_rfl) ?_
   repeat(any_goals(first|go_big_quiet_step(fail)|quiet_step (fail)))
   refine wpQuiet_nil ?_;intro _ hw';obtain⟨⟨dq,osq⟩,hw''⟩:=hw';subst hw'';have M1:=hid (MM.out.below (below_regrown wr dq osq));obtain⟨W,hW⟩:∃W,W=grow (redrawn wr dq) osq:=⟨_,rfl⟩;rw[←hW]at M1⊢;clear r3 rn rb hW cu;go_wp2_with fail;go_loopg [7,30] (aW ts s tn).length (λmm lv i X=>∃c:Nat,c≤(aW ts s tn).length∧mm=(aW ts s tn).length-c∧i=.int .i64 c∧Mv w N ts lets act g0 ups lv (aU ts (ups.take a) sg++((aW ts s tn).take c).filter (λq=>decide ((ts.getD q tr0).sig=sg))) X)
   case atStart=>exact⟨0,by omega,by omega,rfl,by simpa using M1.out⟩
   case round=>
    obtain⟨c,hc,rfl,rfl,hD⟩:=hrel;have DD:=hid hD;obtain⟨ao2,cap2,hv2⟩:=cG hD.o;subst hv2;by_cases hct:c<(aW ts s tn).length
    ·obtain⟨q,hq⟩:∃q,q=(aW ts s tn).getD c 0:=⟨_,rfl⟩
     have hqt:q<tn:=qx8 (ts:=ts) (i:=s) (by rw[hq,List.getD_eq_getElem?_getD,List.getElem?_eq_getElem hct];simp);obtain⟨nf,tp,fn,cp,xo,xn,xc,hmv⟩:=qpG (N:=N) (HI.out.gd q hqt);obtain⟨gg,gcap,hgg,_,hgl⟩:=World.ownsRow.form OL.out (by omega);have hcell:∀i,i<6→w.cell? ⟨gg,c*6+i,none⟩=(mvC N ts lets act q)[i]?:=λi hi=>by
      have h1:=OL.out;rw[hgg]at h1;rw[World.ownsRow.cellAt h1 (c*6+i) (by omega),qpH N ts lets act _ c i hct hi,←hq]
     rw[hmv]at hcell;obtain⟨sv,hsv⟩:∃x,x=(ts.getD q tr0).sig:=⟨_,rfl⟩;rw[←hsv]at hmv hcell;have y0:=(hD.bel.cell (p:=⟨gg,c*6,none⟩) hgl).trans (hcell 0 (by omega));have y1:=(hD.bel.cell (p:=⟨gg,c*6+1,none⟩) hgl).trans (hcell 1 (by omega));have y2:=(hD.bel.cell (p:=⟨gg,c*6+2,none⟩) hgl).trans (hcell 2 (by omega));have y3:=(hD.bel.cell (p:=⟨gg,c*6+3,none⟩) hgl).trans (hcell 3 (by omega));have y4:=(hD.bel.cell (p:=⟨gg,c*6+4,none⟩) hgl).trans (hcell 4 (by omega));have y5:=(hD.bel.cell (p:=⟨gg,c*6+5,none⟩) hgl).trans (hcell 5 (by omega));simp only[List.getElem?_cons_zero,List.getElem?_cons_succ]at y0 y1 y2 y3 y4 y5;have hgg2:so=some ⟨gg,0,none⟩∧scap=gcap:=by simpa using hgg
     obtain⟨rfl,rfl⟩:=hgg2;have c5:c≤500:=by have:=qjR ts s tn;omega
     have ci:(c:Int)<((aW ts s tn).length:Int):=by omega
     have HMV:=hid hmv;have TC:Hid (((aW ts s tn).take (c+1)).filter (λq=>decide ((ts.getD q tr0).sig=sg))=((aW ts s tn).take c).filter (λq=>decide ((ts.getD q tr0).sig=sg))++(if sv=sg then [q]else [])):=hid (by
      have h1:(aW ts s tn).take (c+1)=(aW ts s tn).take c++[q]:=by
       rw[hq,List.take_add_one,List.getD_eq_getElem?_getD,List.getElem?_eq_getElem hct];rfl
      rw[h1,List.filter_append];congr 1;by_cases hh:sv=sg
      ·rw[if_pos hh,List.filter_cons_of_pos (by rw[hsv]at hh;exact decide_eq_true hh)];rfl
      ·rw[if_neg hh,List.filter_cons_of_neg (by rw[hsv]at hh;simpa only[decide_eq_true_eq]using hh)];rfl)
     have LN:Hid ((aU ts (ups.take a) sg++((aW ts s tn).take c).filter (λq=>decide ((ts.getD q tr0).sig=sg))).length≤200000):=hid (by
      have h1:=qg3 ts sg (ups.take a);have h2:(ups.take a).length≤200:=by simp;omega
      have h3:ts.length≤500:=by have:=HT.out;omega
      have h4:=Nat.mul_le_mul h2 h3;have h5:=List.length_filter_le (λq=>decide ((ts.getD q tr0).sig=sg)) ((aW ts s tn).take c);have h6:=qjR ts s tn;have h7:((aW ts s tn).take c).length≤500:=by simp;omega
      rw[List.length_append];omega)
     clear hD hcell hmv hq hgg hL hsv;by_cases hfit:sv=sg
     ·subst hfit
      have EX:=hid (show((aW ts s tn).take (c+1)).filter (λq=>decide ((ts.getD q tr0).sig=sv))=((aW ts s tn).take c).filter (λq=>decide ((ts.getD q tr0).sig=sv))++[q] by rw[TC.out,if_pos rfl]);clear TC;obtain⟨ml,hml⟩:∃x,x=aU ts (ups.take a) sv++((aW ts s tn).take c).filter (λq=>decide ((ts.getD q tr0).sig=sv)):=⟨_,rfl⟩;have HML:=hid hml;have NW:=World.news_of_block (heap_alloc_new (wr.alloc (.cells #[.int .i64 (q:Int),.int .i64 sv,.pointer (some ⟨nf,0,none⟩),.pointer tp,.func fn #[] cp,.slice xo xn xc] 120)) (.cells #[.int .i64 (q:Int),.int .i64 sv,.pointer (some ⟨nf,0,none⟩),.pointer tp,.func fn #[] cp,.slice xo xn xc] 120));rw[World.size_alloc]at NW;have NW:=hid NW;rw[←hml]at DD LN⊢;clear hml;go_wp2_with(at_builtin;refine wpList_append_lies _ rfl (.tmp 38) (.tmp 40) 114 rfl w.heap.size 120 i1 _ 6 64 Tryz.underlying114 hi1 hy0 hy1 hy2 rfl (by decide) _ _ _ rfl (DD.out.below (aD _ _ _)).o ⟨wr.heap.size+1,0,none⟩ 1 1 [.int .i64 (q:Int),.int .i64 sv,.pointer (some ⟨nf,0,none⟩),.pointer tp,.func fn #[] cp,.slice xo xn xc] rfl rfl NW.out (by intro u hu;simp at hu;rcases hu with rfl|rfl|rfl|rfl|rfl|rfl<;>rfl) (by omega) (by have:=LN.out;unfold maxLen;omega) (by have:=LN.out;omega) (by have:=DD.out.bel.size;simp;omega) (wr.heap.size+1+1) (by simp) ?_);intro g cap' w2 hown hgrow hat _;have D2:=hid ((DD.out.below (aD wr _ _)).grown (l':=ml++[q]) hgrow (by rw[List.length_append,qxY];show w2.ownsRow _ _ _ _ _ (mvs N ts lets act ml++(mvC N ts lets act q++[]));rw[List.append_nil,HMV.out];exact hown));clear hown hgrow hat;go_wp2_with fail;go_roundg((aW ts s tn).length-(c+1))
      case measure=>omega
      case rel=>exact⟨c+1,by omega,rfl,by simp,by rw[EX.out,←List.append_assoc,←HML.out];exact D2.out⟩
     ·have EX:=hid (show((aW ts s tn).take (c+1)).filter (λq=>decide ((ts.getD q tr0).sig=sg))=((aW ts s tn).take c).filter (λq=>decide ((ts.getD q tr0).sig=sg)) by rw[TC.out,if_neg hfit,List.append_nil])
      clear TC;have hfb:(sv==sg)=false:=by simpa using hfit
      have D2:=hid (DD.out.below (aB wr (.cells #[.int .i64 (q:Int),.int .i64 sv,.pointer (some ⟨nf,0,none⟩),.pointer tp,.func fn #[] cp,.slice xo xn xc] 120)));go_wp2_with fail;go_roundg((aW ts s tn).length-(c+1))
      case measure=>omega
      case rel=>exact⟨c+1,by omega,rfl,by simp,by rw[EX.out];exact D2.out⟩
    ·have e:(aW ts s tn).take c=aW ts s tn:=List.take_of_length_le (by omega)
     have EX:Hid (aU ts (ups.take (a+1)) sg=aU ts (ups.take a) sg++eO ts s sg tn):=hid (by rw[TK.out,qvG,HT.out]);rw[e,qHI,←EX.out]at hD⊢;have D2:=hid hD;clear hD DD;go_wp2_with fail;go_roundg(nu-(a+1))
     case measure=>omega
     case rel=>exact⟨a+1,by omega,rfl,by go_num,D2.out⟩
  ·obtain rfl:a=nu:=by omega
   have e:ups.take a=ups:=by rw[NU.out];exact List.take_length
   rw[e]at hM MM⊢;have FN:=hid hM;clear hM;go_wp2_with fail;go_ret;exact⟨ao,cap,rfl,FN.out.o,FN.out.bel⟩
end Go.Proofs.YtiimkhepplkocaaGreat
namespace Go.Proofs.YtiimkhepplkocaaGreat
open Go.RowKit Go.Sort
set_option linter.unusedVariables false
attribute [local go_sem ↓] Go.wp_at_zero Go.wp_at_succ
theorem qxT(so tq:Option Addr)(n sc tn tc:Nat)(ss:List StD)(ts:List TrD)(o s t v:Int)(w:World)(hn:n≤9223372036854775807)(htn:tn≤9223372036854775807)(hs:StatesOf w so n ss)(ht:TransOf w tq tn ts)(hc:¬(bJ ss ts ⟨o,s,t,v⟩).1=0):
  Calls Tryz.prog 43 #[.agg #[.slice so n sc,.slice tq tn tc],.agg #[.int .i64 o,.int .i64 s,.int .i64 t,.int .i64 v]] w λe w'=>e=.returned (.tuple #[.pointer none,.bool false])∧Below w.heap.size w w':=by
 have EN:=hid (qhU w #[.slice so n sc,.slice tq tn tc] #[.int .i64 o,.int .i64 s,.int .i64 t,.int .i64 v]);have C:=hid (qw3 so tq n sc tn tc ss ts o s t v _ hn htn (hs.below EN.out.bel) (ht.below EN.out.bel));obtain⟨f0,hf0⟩:∃f,f=(bJ ss ts ⟨o,s,t,v⟩).1:=⟨_,rfl⟩;obtain⟨f1,hf1⟩:∃f,f=(bJ ss ts ⟨o,s,t,v⟩).2:=⟨_,rfl⟩;rw[←hf0,←hf1]at C;rw[←hf0]at hc;have hne:(f0 !=0)=true:=by simpa using hc
 clear hs ht hf0 hf1;go_enter Tryz.func43,Tryz.ntmps43;go_wp2_with(go_at_call 98;refine C.out.mono ?_;rintro e w1 ⟨rfl,hb1⟩;have B1:=hid (EN.out.below hb1);clear hb1);go_ret2;exact⟨rfl,B1.out.bel⟩
theorem qxU(so tq:Option Addr)(n sc tn tc:Nat)(ss:List StD)(ts:List TrD)(o s t v:Int)(w:World)(hn:n≤9223372036854775807)(htn:tn≤9223372036854775807)(hs:StatesOf w so n ss)(ht:TransOf w tq tn ts)(hc:(bJ ss ts ⟨o,s,t,v⟩).1=0):
  Calls Tryz.prog 43 #[.agg #[.slice so n sc,.slice tq tn tc],.agg #[.int .i64 o,.int .i64 s,.int .i64 t,.int .i64 v]] w λe w'=>∃w0 N tg tcap B P M E F ev xv L lets act,e=.returned (.tuple #[.pointer (some ⟨M,0,none⟩),.bool true])∧w.heap.size≤w0.heap.size∧L2 w0 #[.slice so n sc,.slice tq tn tc] #[.int .i64 o,.int .i64 s,.int .i64 t,.int .i64 v] N tg tcap ss ts n ⟨o,s,t,v⟩ B P M tn E F ev xv L lets act w'∧Below w.heap.size w w':=by
 have EN:=hid (qhU w #[.slice so n sc,.slice tq tn tc] #[.int .i64 o,.int .i64 s,.int .i64 t,.int .i64 v]);have C:=hid (qw3 so tq n sc tn tc ss ts o s t v _ hn htn (hs.below EN.out.bel) (ht.below EN.out.bel));have K:=hid (λw' (hb:Below w.heap.size w w')=>qGE so tq n sc tn tc ss ts o s t v (yI hc) w' (hs.below hb) (ht.below hb));obtain⟨f1,hf1⟩:∃f,f=(bJ ss ts ⟨o,s,t,v⟩).2:=⟨_,rfl⟩;rw[hc,←hf1]at C;clear hs ht hf1 hc;go_enter Tryz.func43,Tryz.ntmps43;go_wp2_with(first
  |(go_at_call 98;refine C.out.mono ?_;rintro e w1 ⟨rfl,hb1⟩;have B1:=hid (EN.out.below hb1);obtain⟨q0,q1⟩:=bL B1.out.ch;obtain⟨l0,l1,l2,l3⟩:=aC B1.out.li;clear hb1)
  |(go_at_call 99;refine(K.out _ B1.out.bel).mono ?_;rintro e w2 ⟨N,tg,tcap,B,P,M,E,F,ev,xv,L,lets,act,rfl,hL2⟩;have HL2:=hid hL2;clear hL2))
 go_ret2;exact⟨w1,N,tg,tcap,B,P,M,E,F,ev,xv,L,lets,act,rfl,B1.out.bel.size,HL2.out,B1.out.bel.trans (HL2.out.l1.mb.bel.mono B1.out.bel.size)⟩
theorem qEB{α:Type}(xs:List (List α))(c:Nat)(hc:c<xs.length):(xs.take (c+1)).flatten=(xs.take c).flatten++xs.getD c []:=by
 have:xs.take (c+1)=xs.take c++[xs.getD c []]:=by
  rw[List.take_add_one,List.getD_eq_getElem?_getD,List.getElem?_eq_getElem hc];rfl
 rw[this,List.flatten_append];simp
theorem qEC{α:Type}(xs:List (List α))(c:Nat):(xs.take c).flatten.length≤xs.flatten.length:=by
 have h:xs.flatten=(xs.take c).flatten++(xs.drop c).flatten:=by rw[←List.flatten_append,List.take_append_drop]
 rw[h,List.length_append];omega
structure Lists (X:World) (l:aE) (P:Nat) (lv:Value) (LS:List Value) (xs:List (List aH)):Prop where
 box:X.heap[P]? =some (.cells #[lv] 105 (0,0))
 row:X.ownsRow 0 118 1 lv LS.length LS
 len:xs.length=LS.length
 each:∀i,i<LS.length→StmR X 0 l (LS.getD i undef) (xs.getD i [])
theorem Lists.stir{B:Nat}{X Y:World}{l:aE}{P:Nat}{lv:Value}{LS:List Value}{xs:List (List aH)}(h:Lists X l P lv LS xs)(hs:Stir B X Y):Lists Y l P lv LS xs:=
 ⟨hs.box h.box (by decide) (by decide) (by decide),hs.own h.row (by decide) (by decide) (by decide),h.len,λi hi=>by
  obtain⟨vs,h1,h2⟩:=h.each i hi;exact⟨vs,h1,hs.own h2 (by decide) (by decide) (by decide)⟩⟩
theorem qIF(l:aE)(P:Nat)(lv:Value)(LS:List Value)(xs:List (List aH))(mb B:Nat)(ks vs:List Int)(arg:Int)(es:List bI)(w:World)(hL:Lists w l P lv LS xs)(hl:l.v=vs.length)(hkv:ks.length=vs.length)(hk:∀i,i<ks.length→1≤ks.getD i 0∧ks.getD i 0≤7)
  (hx:LS.length≤1000) (he:es.length+xs.flatten.length≤1000000) (hB:B≤w.heap.size) (h:Mom w B mb ks vs arg es):
  Calls Tryz.prog 163 #[.pointer (some ⟨mb,0,none⟩),.pointer (some ⟨P,0,none⟩)] w λe w'=>e=.returned (.tuple #[])∧Mom w' B mb ks (aL l.v ks arg vs xs.flatten).1 arg (es++(aL l.v ks arg vs xs.flatten).2)∧Stir B w w':=by
 obtain⟨lo,lc,rfl⟩:=cG hL.row;have c0:w.cell? ⟨P,0,none⟩=some (.slice lo LS.length lc):=by
  have:=hL.box;simp[World.cell?,this]
 have HL:=hid hL;have HM:=hid h;have HE:=hid he;obtain⟨m,hm⟩:∃m,m=LS.length:=⟨_,rfl⟩;rw[←hm]at c0;have hxm:m≤1000:=by rw[hm];exact hx
 have EM:=hid hm;clear hL h hm he;go_enter Tryz.func163,Tryz.ntmps163;go_wp2_with fail;go_loopg [7] m (λmm i X=>∃c:Nat,c≤m∧mm=m-c∧i=.int .i64 c∧Mom X B mb ks (aL l.v ks arg vs (xs.take c).flatten).1 arg (es++(aL l.v ks arg vs (xs.take c).flatten).2)∧Stir B w X)
 case atStart=>exact⟨0,by omega,by omega,rfl,by simpa[aL]using HM.out,Stir.refl _ _⟩
 case round=>
  obtain⟨c,hc,rfl,rfl,hMo,hSt⟩:=hrel;by_cases hlt:c<m
  ·have hL2:=HL.out.stir hSt
   obtain⟨g,gc,hgv,_,_⟩:=World.ownsRow.form hL2.row (by have:=EM.out;omega);have hlo:lo=some ⟨g,0,none⟩∧lc=gc:=by simpa using hgv
   obtain⟨rfl,rfl⟩:=hlo;obtain⟨nodes,hno,hrow⟩:=hL2.each c (by have:=EM.out;omega);obtain⟨ao,ac,hav⟩:=cG hrow;have cel:wr.cell? ⟨g,c,none⟩=some (.slice ao nodes.length ac):=by
    rw[World.ownsRow.cellAt hL2.row c (by have:=EM.out;omega),←hav,List.getD_eq_getElem?_getD,List.getElem?_eq_getElem (by have:=EM.out;omega)];rfl
   rw[hav]at hrow;have XL:Hid (c<xs.length):=hid (by have:=HL.out.len;have:=EM.out;omega);have FT:=hid (qEB xs c XL.out);have L1:=qhW l.v ks arg (xs.take c).flatten vs;have CA:=hid (qvH l (xs.getD c []) nodes (.slice ao nodes.length ac) mb B ks (aL l.v ks arg vs (xs.take c).flatten).1 arg (es++(aL l.v ks arg vs (xs.take c).flatten).2) wr hno (by rw[L1.1];exact hl) (by rw[L1.1];exact hkv) hk (by
    have h1:=HE.out;have h2:=qEC xs (c+1);rw[FT.out,List.length_append]at h2;have h3:=L1.2;rw[List.length_append];omega) (Nat.le_trans hB hSt.size) hrow hMo)
   have EX:Hid (aL l.v ks arg vs (xs.take (c+1)).flatten=((aL l.v ks arg (aL l.v ks arg vs (xs.take c).flatten).1 (xs.getD c [])).1,(aL l.v ks arg vs (xs.take c).flatten).2++(aL l.v ks arg (aL l.v ks arg vs (xs.take c).flatten).1 (xs.getD c [])).2)):=hid (by rw[FT.out,qoM]);have ci:(c:Int)<(m:Int):=by omega
   have ST:=hid hSt;clear hMo hSt hL2 hno hrow hav hgv L1 FT;go_wp2_with(go_at_call 68;refine CA.out.mono ?_;rintro e w1 ⟨rfl,hm1,hs1⟩;have M1:=hid hm1;have S1:=hid (ST.out.trans hs1);clear hm1 hs1);go_roundg(m-(c+1))
   case measure=>omega
   case rel=>exact⟨c+1,by omega,rfl,by go_num,by rw[EX.out];simpa[List.append_assoc]using M1.out,S1.out⟩
  ·obtain rfl:c=m:=by omega
   have e:xs.take c=xs:=List.take_of_length_le (by have:=HL.out.len;have:=EM.out;omega);rw[e]at hMo;have M1:=hid hMo;have S1:=hid hSt;clear hMo hSt;go_wp2_with fail;go_end0;exact⟨rfl,M1.out,S1.out⟩
end Go.Proofs.YtiimkhepplkocaaGreat
namespace Go.Proofs.YtiimkhepplkocaaGreat
open Go.RowKit Go.Sort
set_option linter.unusedVariables false
attribute [local go_sem ↓] Go.wp_at_zero Go.wp_at_succ
structure Cr (w:World) (rx:Array Value) (lv:Value) (LS:List Value) (X:World):Prop where
 bel:Below w.heap.size w X
 rb:X.heap[w.heap.size]? =some (.cells rx 44 (0,0))
 lb:X.heap[w.heap.size+1]? =some (.cells #[.int .i64 0,.slice none 0 0,.slice none 0 0,.int .i64 0,.nilFunc] 194 (0,0))
 pb:X.heap[w.heap.size+1+1]? =some (.cells #[lv] 105 (0,0))
 o:X.ownsRow w.heap.size 118 1 lv LS.length LS
theorem Cr.below{w:World}{rx:Array Value}{lv:Value}{LS:List Value}{X Y:World}(h:Cr w rx lv LS X)(hb:Below X.heap.size X Y):Cr w rx lv LS Y:=
 ⟨h.bel.trans (hb.mono h.bel.size),aA h.rb hb,aA h.lb hb,aA h.pb hb,aI h.o hb⟩
theorem Cr.add{w:World}{rx:Array Value}{lv sv:Value}{LS:List Value}{X Y Z:World}{g cap:Nat}(h:Cr w rx lv LS X)(hb:Below X.heap.size X Y)(hg:Y.grownBy Z lv.ownBlock)(ho:Z.ownsRow w.heap.size 118 1 (.slice (some ⟨g,0,none⟩) (LS.length+1) cap) (LS.length+1) (LS++[sv])):
  Cr w rx (.slice (some ⟨g,0,none⟩) (LS.length+1) cap) (LS++[sv]) (Z.setCell ⟨w.heap.size+1+1,0,none⟩ (.slice (some ⟨g,0,none⟩) (LS.length+1) cap)):=by
 have hY:=h.below hb;have keep:∀{q:Nat} {cs:Array Value} {t:TypeId},Y.heap[q]? =some (.cells cs t (0,0))→t≠118→Z.heap[q]? =some (.cells cs t (0,0)):=λhq ht=>(hg.block _ (lt_of_block hq) (λe=>aJ hY.o ht hq e.symm)).trans hq;have bp:=keep hY.pb (by decide);refine⟨?_,?_,?_,?_,?_⟩
 ·exact(hY.bel.grown hg hY.bel.size (λkk e=>(hY.o.lt kk e).1)).setCell (by simp;omega) _
 ·rw[heap_setCell_other _ _ _ _ (by simp;omega)];exact keep hY.rb (by decide)
 ·rw[heap_setCell_other _ _ _ _ (by simp)];exact keep hY.lb (by decide)
 ·rw[heap_setCell_same Z _ 0 _ _ _ bp];simp
 ·rw[List.length_append];exact ownsRow_setCell_other ho (aJ ho (by decide) bp) _
end Go.Proofs.YtiimkhepplkocaaGreat
