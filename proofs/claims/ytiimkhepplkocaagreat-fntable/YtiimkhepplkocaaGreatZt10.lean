import Derived.Test.YtiimkhepplkocaaGreatTc
set_option maxRecDepth 100000
set_option maxHeartbeats 16000000
namespace Go.Proofs.YtiimkhepplkocaaGreat
open Go.RowKit Go.Sort
set_option linter.unusedVariables false
attribute [local go_sem ↓] Go.wp_at_zero Go.wp_at_succ
structure Cq (w:World) (cx lx:Array Value) (X:World):Prop where
 bel:Below w.heap.size w X
 c:X.heap[w.heap.size]? =some (.cells cx 36 (0,0))
 l:X.heap[w.heap.size+1]? =some (.cells lx 40 (0,0))
 r:X.heap[w.heap.size+1+1]? =some (.cells #[.int .i64 0,.slice none 0 0,.slice none 0 0,.slice none 0 0,.int .i64 0,.slice none 0 0,.slice none 0 0,.int .i64 0] 46 (0,0))
theorem Cq.below{w:World}{cx lx:Array Value}{X Y:World}(h:Cq w cx lx X)(hb:Below X.heap.size X Y):Cq w cx lx Y:=⟨h.bel.trans (hb.mono h.bel.size),aA h.c hb,aA h.l hb,aA h.r hb⟩
theorem qvV(w:World)(cx lx:Array Value):Cq w cx lx (((w.alloc (.cells cx 36)).alloc (.cells lx 40)).alloc (.cells #[.int .i64 0,.slice none 0 0,.slice none 0 0,.slice none 0 0,.int .i64 0,.slice none 0 0,.slice none 0 0,.int .i64 0] 46)):=by
 have h2:=heap_alloc_new (w.alloc (.cells cx 36)) (.cells lx 40);have h3:=heap_alloc_new ((w.alloc (.cells cx 36)).alloc (.cells lx 40)) (.cells #[.int .i64 0,.slice none 0 0,.slice none 0 0,.slice none 0 0,.int .i64 0,.slice none 0 0,.slice none 0 0,.int .i64 0] 46);simp only[World.size_alloc]at h2 h3;exact⟨yW _ _ _ _,aA (aA (heap_alloc_new w _) (aB _ _)) (aB _ _),aA h2 (aB _ _),h3⟩
theorem quV{lv v':Value}{g n cap N H:Nat}(hv:v'=.slice (some ⟨g,0,none⟩) n cap)(hat:lv.ownBlock=some g∨g=H)(hH:N≤H):∀b,v'.ownBlock=some b→lv.ownBlock=some b∨N≤b:=λb e=>by
 subst hv;simp[Value.ownBlock]at e;subst e;rcases hat with h|h
 ·exact .inl h
 ·exact .inr (by omega)
theorem qET(so tq:Option Addr)(n sc tn tc:Nat)(ss:List StD)(ts:List TrD)(o s t v:Int)(w:World)(hn:n≤9223372036854775807)(htn:tn≤9223372036854775807)(hs:StatesOf w so n ss)(ht:TransOf w tq tn ts)(hc:(bJ ss ts ⟨o,s,t,v⟩).1=0):
  Calls Tryz.prog 10 #[.agg #[.slice so n sc,.slice tq tn tc],.agg #[.int .i64 o,.int .i64 s,.int .i64 t,.int .i64 v]] w λe w'=>∃lv sv rv bx bn R HB w1,e=.returned (zB (cM ss ts s.toNat) lv sv rv bx bn)∧w.heap.size≤w1.heap.size∧(∃X,TbI w1 HB (cM ss ts s.toNat) lv sv rv bx bn R X∧OnlyP (λb=>b=w.heap.size+1+1) X w'∧w.heap.size+1+1<w1.heap.size)∧Below w.heap.size w w':=by
 have hC:=yI hc;have HL:=hid hs.1;have TL:=hid ht.1;have EN:=hid (qvV w #[.slice so n sc,.slice tq tn tc] #[.int .i64 o,.int .i64 s,.int .i64 t,.int .i64 v]);have C:=hid (qxU so tq n sc tn tc ss ts o s t v _ hn htn (hs.below EN.out.bel) (ht.below EN.out.bel) hc);obtain⟨S,hS⟩:∃S:Nat,S=s.toNat:=⟨_,rfl⟩;have hlim:=hC.lim.2.1;have hsS:s=(S:Int):=by have:=hlim.1;simp only at this;omega
 have S64:S≤64:=by have:=hlim.2;simp only at this;omega
 rw[←hS];have HC:=hid hC;obtain⟨i0,hi0,hz0,hz1,hz2⟩:=info_parts Tryz.infoInt0;obtain⟨i1,hi1,hy0,hy1,hy2⟩:=info_parts qw5;subst hsS;have n2:n≤200:=by rw[←HL.out];exact hC.good.n2
 clear hs ht hc hlim hS hC;go_enter Tryz.func10,Tryz.ntmps10;go_upto_region 4 with(go_at_call 43;refine C.out.mono ?_;rintro e w1 ⟨x0,N,tg,tcap,B,P,M,E,F,ev,xv,L,lets,act,rfl,hx0,hL2,hb⟩;have B1:=hid (EN.out.below hb);have HL2:=hid hL2;clear hb hL2 hx0);have HI:Hid (∀X,Below w1.heap.size w1 X→L2 x0 #[.slice so n sc,.slice tq tn tc] #[.int .i64 o,.int .i64 (S:Int),.int .i64 t,.int .i64 v] N tg tcap ss ts n ⟨o,(S:Int),t,v⟩ B P M tn E F ev xv L lets act X):=hid (λX hb=>HL2.out.below hb);obtain⟨l0,l1,l2,l3⟩:=aC B1.out.l;obtain⟨D0,hD0⟩:∃d,d=cU ss ts S [] [] []:=⟨_,rfl⟩;go_cut [7] (λs7 wx=>∃HB lv sv rv bx bn,s7=.pointer (some ⟨HB,0,none⟩)∧TbI w1 HB (cU ss ts S [] [] []) lv sv rv bx bn [] wx)
 case first=>
  have G:=HC.out.good;have BH:=hid (λX (hb:Below w1.heap.size w1 X)=>qBH N ss _ G M tg n tcap X (by rw[HL.out];exact(HI.out X hb).l1.mb.nd) (cJ (HI.out X hb).l1.mac.box).1 (by have:=G.n1;rw[HL.out]at this;exact this) (qdO (HI.out X hb).l1.mb.tr (by have:=G.n1;rw[HL.out]at this;exact this)));have KL:Hid (∀X,Below w1.heap.size w1 X→X.cell? ⟨w.heap.size+1,1,none⟩=some (.int .i64 (S:Int))):=hid (λX hX=>(hX.cell (p:=⟨w.heap.size+1,1,none⟩) (lt_of_block B1.out.l)).trans l1);clear l0 l1 l2 l3 hD0 D0;refine qMP (λA l a X=>∃s22 s23 s24 s25 s26 s27 s28 s29 s7,a=(((((((((A.put (some 22) s22).put (some 23) s23).put (some 24) s24).put (some 25) s25).put (some 26) s26).put (some 27) s27).put (some 28) s28).put (some 29) s29).put (some 7) s7)∧(GI w1 ss S (.pointer (some ⟨w.heap.size+1,1,none⟩)) (.pointer (some ⟨M,0,none⟩)) l s22 s23 s24 s25 s26 s27 s28 s29 s7 X∨(l=Array.replicate 10 true∧∃HB lv sv rv bx bn,s7=.pointer (some ⟨HB,0,none⟩)∧TbI w1 HB (cU ss ts S [] [] []) lv sv rv bx bn [] X))) (by kernel_rfl) ?_ ?_ ?_
  ·exact⟨undef,undef,undef,undef,undef,undef,undef,undef,undef,by simp only[Act.put,List.setIfInBounds_toArray,List.set_cons_zero,List.set_cons_succ],.inl (qEI ((Below.refl _ _).drew))⟩
  ·rintro l b X i ⟨s22,s23,s24,s25,s26,s27,s28,s29,s7,rfl,hG|⟨rfl,_⟩⟩ hi
   case inr=>exact absurd hi (List.not_mem_nil (a:=i))
   have hlt:i<10:=qH4 hi;have HG:=hid hG;have un:=qH5 hi;clear hG;rcases(show i=0∨i=1∨i=2∨i=3∨i=4∨i=5∨i=6∨i=7∨i=8∨i=9 by omega)with rfl|rfl|rfl|rfl|rfl|rfl|rfl|rfl|rfl|rfl
   ·refine qa1 rfl (λK hK=>?_)
    simp only[Act.put,List.setIfInBounds_toArray,List.set_cons_zero,List.set_cons_succ];go_simp;exact hK _ _ ⟨_,s23,s24,s25,s26,s27,s28,s29,s7,by simp only[Act.put,List.setIfInBounds_toArray,List.set_cons_zero,List.set_cons_succ],.inl HG.out.t0⟩
   ·have n0:=qbD hi (j:=0) (by kernel_rfl)
    obtain rfl:=HG.out.a0 n0;have c:=KL.out X HG.out.ri.bel;refine qa1 rfl (λK hK=>?_);simp only[Act.put,List.setIfInBounds_toArray,List.set_cons_zero,List.set_cons_succ];go_simp;exact hK _ _ ⟨_,_,s24,s25,s26,s27,s28,s29,s7,by simp only[Act.put,List.setIfInBounds_toArray,List.set_cons_zero,List.set_cons_succ],.inl (HG.out.t1 n0)⟩
   ·refine qa1 rfl (λK hK=>?_)
    simp only[Act.put,List.setIfInBounds_toArray,List.set_cons_zero,List.set_cons_succ];go_simp;exact hK _ _ ⟨s22,s23,_,s25,s26,s27,s28,s29,s7,by simp only[Act.put,List.setIfInBounds_toArray,List.set_cons_zero,List.set_cons_succ],.inl (HG.out.t2 un)⟩
   ·refine qa1 rfl (λK hK=>?_)
    simp only[Act.put,List.setIfInBounds_toArray,List.set_cons_zero,List.set_cons_succ];go_simp;exact hK _ _ ⟨s22,s23,s24,_,s26,s27,s28,s29,s7,by simp only[Act.put,List.setIfInBounds_toArray,List.set_cons_zero,List.set_cons_succ],.inl (HG.out.t3 un)⟩
   ·refine qa1 rfl (λK hK=>?_)
    simp only[Act.put,List.setIfInBounds_toArray,List.set_cons_zero,List.set_cons_succ];go_simp;exact hK _ _ ⟨s22,s23,s24,s25,_,s27,s28,s29,s7,by simp only[Act.put,List.setIfInBounds_toArray,List.set_cons_zero,List.set_cons_succ],.inl (HG.out.t4 un)⟩
   ·refine qa1 rfl (λK hK=>?_)
    simp only[Act.put,List.setIfInBounds_toArray,List.set_cons_zero,List.set_cons_succ];go_simp;exact hK _ _ ⟨s22,s23,s24,s25,s26,_,s28,s29,s7,by simp only[Act.put,List.setIfInBounds_toArray,List.set_cons_zero,List.set_cons_succ],.inl HG.out.t5⟩
   ·have n5:=qbD hi (j:=5) (by kernel_rfl)
    obtain rfl:=HG.out.a5 n5;refine qa1 rfl (λK hK=>?_);simp only[Act.put,List.setIfInBounds_toArray,List.set_cons_zero,List.set_cons_succ];go_simp;refine(BH.out X HG.out.ri.bel).mono ?_;rintro e w2 ⟨ge,gn,cn,rfl,o1,o2,hne,hb⟩;exact hK _ _ ⟨s22,s23,s24,s25,s26,_,_,s29,s7,by simp only[Act.put,List.setIfInBounds_toArray,List.set_cons_zero,List.set_cons_succ],.inl (HG.out.t6 un n5 o1 o2 hne hb)⟩
   ·have n1:=qbD hi (j:=1) (by kernel_rfl)
    obtain rfl:=HG.out.a1 n1;have n2':=qbD hi (j:=2) (by kernel_rfl);have n3:=qbD hi (j:=3) (by kernel_rfl);have n4:=qbD hi (j:=4) (by kernel_rfl);have n6:=qbD hi (j:=6) (by kernel_rfl);obtain⟨gl,rfl,_⟩:=HG.out.ri.l n2';obtain⟨gs,rfl,_⟩:=HG.out.ri.s n3;obtain⟨gr,rfl,_⟩:=HG.out.ri.ro n4;obtain⟨ge,gn,cn,rfl,_⟩:=HG.out.ri.bt n6;have H7:=hid (HG.out.t7 n1 n2' n3 n4 n6);clear n2' n3 n4 n6 hi un;refine qa1 rfl (λK hK=>?_);simp only[Act.put,List.setIfInBounds_toArray,List.set_cons_zero,List.set_cons_succ];go_simp;refine hK _ _ ?_;exact⟨s22,.int .i64 (S:Int),.slice (some ⟨gl,0,none⟩) 0 0,.slice (some ⟨gs,0,none⟩) 1 1,.slice (some ⟨gr,0,none⟩) 0 0,s27,.agg #[.int .i64 (-1),.slice (some ⟨ge,0,none⟩) 0 0,.slice (some ⟨gn,0,none⟩) (bR ss).length cn,.int .i64 (dD ss)],.agg #[.int .i64 (S:Int),.slice (some ⟨gl,0,none⟩) 0 0,.slice (some ⟨gs,0,none⟩) 1 1,.slice (some ⟨gr,0,none⟩) 0 0,.int .i64 (-1),.slice (some ⟨ge,0,none⟩) 0 0,.slice (some ⟨gn,0,none⟩) (bR ss).length cn,.int .i64 (dD ss)],s7,by simp only[Act.put,List.setIfInBounds_toArray,List.set_cons_zero,List.set_cons_succ],.inl H7.out⟩
   ·refine qa1 rfl (λK hK=>?_)
    simp only[Act.put,List.setIfInBounds_toArray,List.set_cons_zero,List.set_cons_succ];go_simp;exact hK _ _ ⟨s22,s23,s24,s25,s26,s27,s28,s29,_,by simp only[Act.put,List.setIfInBounds_toArray,List.set_cons_zero,List.set_cons_succ],.inl HG.out.t8⟩
   ·have n7:=qbD hi (j:=7) (by kernel_rfl)
    have n8:=qbD hi (j:=8) (by kernel_rfl);obtain⟨⟨n1,n2',n3,n4,n6⟩,ge,gn,cn,rfl,rfl⟩:=HG.out.a7 n7;obtain⟨gl,gs,gr,ge',gn',cn',HB,rfl,rfl,rfl,e28,rfl,zt,hT⟩:=(HG.out.ri.imp (λ_=>n2') (λ_=>n3) (λ_=>n4) (λ_=>n6) (λ_=>n8)).done ts S;simp at e28;obtain⟨rfl,rfl,rfl⟩:=e28;have LA:=hid (HG.out.all n7 n8);have HT:=hid hT;obtain⟨q0,q1,q2,q3,q4,q5,q6,q7⟩:=dF zt;have fz:=zA zt;have hbl:=lt_of_block zt;clear hT HG n1 n2' n3 n4 n6 n7 n8 un hi;refine qa1 rfl (λK hK=>?_);simp only[Act.put,List.setIfInBounds_toArray,List.set_cons_zero,List.set_cons_succ];go_simp;refine hK _ _ ?_;exact⟨s22,s23,.slice (some ⟨gl,0,none⟩) 0 0,.slice (some ⟨gs,0,none⟩) 1 1,.slice (some ⟨gr,0,none⟩) 0 0,s27,.agg #[.int .i64 (-1),.slice (some ⟨ge,0,none⟩) 0 0,.slice (some ⟨gn,0,none⟩) (bR ss).length cn,.int .i64 (dD ss)],.agg #[.int .i64 (S:Int),.slice (some ⟨gl,0,none⟩) 0 0,.slice (some ⟨gs,0,none⟩) 1 1,.slice (some ⟨gr,0,none⟩) 0 0,.int .i64 (-1),.slice (some ⟨ge,0,none⟩) 0 0,.slice (some ⟨gn,0,none⟩) (bR ss).length cn,.int .i64 (dD ss)],.pointer (some ⟨HB,0,none⟩),by simp only[Act.put,List.setIfInBounds_toArray,List.set_cons_zero,List.set_cons_succ],.inr ⟨LA.out,HB,_,_,_,_,_,rfl,HT.out⟩⟩
  ·rintro l b X ⟨s22,s23,s24,s25,s26,s27,s28,s29,s7,rfl,hG|⟨rfl,HB,lv,sv,rv,bx,bn,rfl,hT⟩⟩ hr
   ·have:=qzY (by kernel_rfl) hG.z hr 9 (by decide)
    rw[hG.u]at this;cases this
   ·simp only[Act.put,List.setIfInBounds_toArray,List.set_cons_zero,List.set_cons_succ]
    go_wp2_with fail;go_meet;exact⟨HB,lv,sv,rv,bx,bn,rfl,hT⟩
 case rest=>
  obtain⟨HB,lv0,sv0,rv0,bx,bn,rfl,hT⟩:=hcut;have T0:=hid hT;clear hT D0 hD0 l0 l1 l2 l3;have I0:=HI.out _ T0.out.bel;have t0:=(cJ I0.l1.mac.box).1;clear I0;go_wp2_with fail;go_loopg [35] n (λmm i X=>∃(k:Nat) (lv sv rv:Value) (R:List (List Value)),k≤n∧mm=n-k∧i=.int .i64 k∧TbI w1 HB (cU ss ts S (cC ss k) (cA ss ts S (cC ss k)) []) lv sv rv bx bn R X)
  case atStart=>exact⟨0,_,_,_,[],by omega,by omega,rfl,by simpa[cC,cA]using T0.out⟩
  case round=>
   obtain⟨k,lv,sv,rv,R,hk,rfl,rfl,hT⟩:=hrel;have TT:=hid hT;have I1:=HI.out _ hT.bel;by_cases hlt:k<n
   ·have hks:k<ss.length:=by rw[HL.out];exact hlt
    have ct:=qdO I1.l1.mb.tr hlt;have nd:=(I1.l1.mb.nd.1 k hlt).2.1;have ki:(k:Int)<(n:Int):=by omega
    have CI:=hid (qxB N ss k hks wr (by rw[HL.out];exact I1.l1.mb.nd));have LS:=hid (qxQ ss k);by_cases hlf:ini ss k<0
    case neg=>
     rw[decide_eq_false hlf]at CI;rw[if_neg hlf,List.append_nil]at LS;clear hT I1 nd;go_wp2_with(go_at_call 45;refine CI.out.mono ?_;rintro e wa ⟨rfl,hw⟩;obtain rfl:=hw.symm);go_roundg(n-(k+1))
     case measure=>omega
     case rel=>exact⟨k+1,lv,sv,rv,R,by omega,rfl,by go_num,by rw[LS.out];exact TT.out⟩
    case pos=>
     rw[decide_eq_true hlf]at CI;rw[if_pos hlf]at LS;obtain⟨la,lc,hlv⟩:∃la lc,lv=.slice la (cC ss k).length lc:=aO hT.l;subst hlv;have LLn:Hid ((cC ss k).length≤200):=hid (by have:=qbA ss k;omega);obtain⟨C0,hC0⟩:∃x,x=cA ss ts S (cC ss k):=⟨_,rfl⟩;have HC0:=hid hC0;obtain⟨Lv,hLv⟩:∃x,x=cC ss k:=⟨_,rfl⟩;have HLv:=hid hLv;rw[←hC0,←hLv]at TT;rw[←hLv]at LLn LS;have ln2:Lv.length≤200:=LLn.out;clear hT I1 hC0 hLv;have TD:=hid (TT.out.below ((Below.refl _ _).drew));have TA:=hid ((TT.out.below (aB wr (.cells #[.int .i64 (k:Int)] 3))).below ((Below.refl _ _).drew));have NW:=hid (World.news_of_block (aA (heap_alloc_new wr (.cells #[.int .i64 (k:Int)] 3)) ((Below.refl _ _).drew)));have SZ:Hid (w1.heap.size≤((wr.alloc (.cells #[.int .i64 (k:Int)] 3)).drew).heap.size):=hid TA.out.bel.size;have F63:Hid (Lv.length+1≤maxLen∧(Lv.length+1)*8≤140737488355328):=hid (by unfold maxLen;omega);have OLa:Hid (((wr.alloc (.cells #[.int .i64 (k:Int)] 3)).drew).ownsRow w1.heap.size 3 1 (.slice la Lv.length lc) Lv.length (aG Lv)):=hid TA.out.l;obtain⟨x0',x1,x2,x3,x4,x5,x6,x7⟩:=dF TT.out.box;have hbl:=lt_of_block TT.out.box;go_upto_region 9 with(go_at_call 45;refine CI.out.mono ?_;rintro e wa ⟨rfl,hw⟩;obtain rfl:=hw.symm);go_cut [35]from 35 to 83 (λs35 wx=>s35=.int .i64 (k:Int)∧∃lv',TbI w1 HB (cU ss ts S (Lv++[k]) C0 []) lv' sv rv bx bn R wx)
     case first=>
      go_region_law
       (first
        |(refine step_append_lies _ (by rfl) _ _ _ (by rfl) w1.heap.size 3 i0 _ 1 8 Tryz.underlying30 hi0 hz0 hz1 hz2 rfl (by omega) (.slice la Lv.length lc) Lv.length (aG Lv) (by simp[Act.eval]) OLa.out ⟨wr.heap.size,0,none⟩ 1 1 [.int .i64 (k:Int)] (by simp[Act.eval]) (by simp) NW.out (by intro u hu;simp at hu;subst hu;rfl) (by omega) F63.out.1 F63.out.2 SZ.out (wr.heap.size+1) (by simp) ?_;intro g3 cap3 w3 hown hgrow hat hlt3;have O3:=hid hown;have G3:=hid hgrow;have A3:=hid hat;have X3:=(hgrow.block _ (lt_of_block TA.out.box) (λe=>tM OLa.out TA.out.box _ e.symm rfl)).trans TA.out.box;obtain⟨q0,q1,q2,q3,q4,q5,q6,q7⟩:=dF X3;have fr1:=frozen_of_row w3 HB 1 _ _ X3;clear hown hgrow hat X3))
      all_goals
       go_wp2_with fail;go_meet;exact⟨rfl,_,TbI.addL (x:=k) TA.out G3.out (show w3.ownsRow w1.heap.size 3 1 _ (Lv.length+1) (aG (Lv++[k])) by simpa[aG]using O3.out) (quV rfl A3.out (by simp))⟩
     case rest=>
      obtain⟨rfl,lv',hT⟩:=hcut;have T1:=hid hT;clear x0' x1 x2 x3 x4 x5 x6 x7 hbl TD TA NW SZ F63 OLa TT hT;obtain⟨l0,l1,l2,l3⟩:=aC ((T1.out.bel.block _ (lt_of_block B1.out.l)).trans B1.out.l);go_wp2_with fail;go_loopg [53] S (λmm i X=>∃(j:Nat) (sv rv:Value) (R:List (List Value)),j≤S∧mm=S-j∧i=.int .i64 j∧TbI w1 HB (cU ss ts S (Lv++[k]) (C0++(List.range j).map (λ(s:Nat)=>iD ss ts k (s:Int))) []) lv' sv rv bx bn R X)
      case atStart=>exact⟨0,_,_,_,by omega,by omega,rfl,by simpa using T1.out⟩
      case round=>
       obtain⟨j,sv,rv,R,hj,rfl,rfl,hT⟩:=hrel;have TJ:=hid hT;by_cases hjt:j<S
       ·have CM:=hid (qxX HC.out.good.tree HL.out n2 TL.out (by rw[←TL.out];exact HC.out.good.tn) k hlt (j:Int) wr (HI.out _ hT.bel))
        have WY:=hid (λq (hq:q∈aU ts (up ss k) (j:Int))=>qc6 HC.out hks hq);obtain⟨K,hK⟩:∃K,K=aU ts (up ss k) (j:Int):=⟨_,rfl⟩;have RX:Hid (iD ss ts k (j:Int)=K.map (bD ss ts k)):=hid (by rw[hK];rfl);have RL:Hid (K.length≤100000):=hid (by have:=qiB HC.out hks (j:Int);rw[RX.out,List.length_map]at this;exact this);rw[←hK]at CM WY;obtain⟨m,hm⟩:∃m,m=K.length:=⟨_,rfl⟩;have EM:=hid hm;rw[←hm]at CM RL;obtain⟨Cj,hCj⟩:∃x,x=C0++(List.range j).map (λ(s:Nat)=>iD ss ts k (s:Int)):=⟨_,rfl⟩;have HCj:=hid hCj;rw[←hCj]at TJ;have CjL:Hid (Cj.flatten.length≤1280000000):=hid (by
         have hmem:∀c,c∈Cj→c.length≤100000:=by
          intro c hc;rw[hCj]at hc;rcases List.mem_append.1 hc with h|h
          ·rw[HC0.out]at h
           exact qi2 HC.out (λx hx=>by have:=qh1 ss k x hx;omega) c h
          ·obtain⟨s,_,rfl⟩:=List.mem_map.1 h
           exact qiB HC.out hks _
         have h1:=qjC hmem;have h2:Cj.length≤200*64:=by
          rw[hCj,List.length_append,List.length_map,List.length_range,HC0.out,qdT];have h3:=qbA ss k;have h4:(cC ss k).length*S≤199*S:=Nat.mul_le_mul (by omega) (Nat.le_refl _);omega
         have h3:=Nat.mul_le_mul h2 (Nat.le_refl 100000);omega)
        have CjN:Hid (dR Cj=dR Cj):=hid rfl;clear hT hK hm hCj l0 l1 l2 l3;go_wp2_with(go_at_call 46;refine CM.out.mono ?_;rintro e w3 ⟨mo,mc,rfl,ho,hb⟩;have T3:=hid (TJ.out.below hb);have OM:Hid (w3.ownsRow w1.heap.size 120 6 (.slice mo m mc) m (mvs N ts lets act K)):=hid (aM ho TJ.out.bel.size);clear ho hb);go_loopg [61] m (λmm i X=>∃(a:Nat) (rv:Value) (R:List (List Value)),a≤m∧mm=m-a∧i=.int .i64 a∧TbI w1 HB (cU ss ts S (Lv++[k]) Cj ((K.map (bD ss ts k)).take a)) lv' sv rv bx bn R X∧X.ownsRow w1.heap.size 120 6 (.slice mo m mc) m (mvs N ts lets act K))
        case atStart=>exact⟨0,_,_,by omega,by omega,rfl,by simpa using T3.out,OM.out⟩
        case round=>
         obtain⟨a,rv,R,ha,rfl,rfl,hT,hO⟩:=hrel;have TT:=hid hT;by_cases hat:a<m
         ·obtain⟨q,hq⟩:∃q,q=K.getD a 0:=⟨_,rfl⟩
          have hak:a<K.length:=by rw[←EM.out];exact hat
          have hqm:q∈K:=by rw[hq,List.getD_eq_getElem?_getD,List.getElem?_eq_getElem hak];simp
          have WQ:=hid (WY.out q hqm);have I2:=HI.out _ hT.bel;have hgq:=I2.gd q (by rw[←TL.out];exact WQ.out.lt);obtain⟨nf,tp,fn,cp,xo,xn,xc,hmv⟩:=qpG (N:=N) hgq;obtain⟨gg,gcap,hgg,_,hgl⟩:=World.ownsRow.form hO (by omega);have hgg2:mo=some ⟨gg,0,none⟩∧mc=gcap:=by simpa using hgg
          have hcell:∀i,i<6→wr.cell? ⟨gg,a*6+i,none⟩=(mvC N ts lets act q)[i]?:=λi hi=>by
           have h1:=hO;rw[hgg]at h1;rw[World.ownsRow.cellAt h1 (a*6+i) (by omega),qpH N ts lets act _ a i hak hi,←hq]
          rw[hmv]at hcell;obtain⟨sv2,hsv⟩:∃x,x=(ts.getD q tr0).sig:=⟨_,rfl⟩;rw[←hsv]at hmv hcell;have y0:=hcell 0 (by omega);have y1:=hcell 1 (by omega);have y2:=hcell 2 (by omega);have y3:=hcell 3 (by omega);have y4:=hcell 4 (by omega);have y5:=hcell 5 (by omega);simp only[List.getElem?_cons_zero,List.getElem?_cons_succ,Nat.add_zero]at y0 y1 y2 y3 y4 y5;obtain⟨rfl,rfl⟩:=hgg2;have CH:Hid (∀X,Below w1.heap.size w1 X→Calls Tryz.prog 47 #[.agg #[.int .i64 (q:Int),.int .i64 sv2,.pointer (some ⟨nf,0,none⟩),.pointer tp,.func fn #[] cp,.slice xo xn xc],.pointer (some ⟨N k,0,none⟩)] X λe w'=>∃ge ce gn cn,e=.returned (.agg #[.int .i64 (q:Int),.slice (some ⟨ge,0,none⟩) (exX ss k (ts.getD q tr0)).length ce,.slice (some ⟨gn,0,none⟩) (enX ss (ts.getD q tr0)).length cn,.int .i64 (nxX ss k (ts.getD q tr0):Nat)])∧
           bO X w' (.slice (some ⟨ge,0,none⟩) (exX ss k (ts.getD q tr0)).length ce) (exX ss k (ts.getD q tr0))∧bO X w' (.slice (some ⟨gn,0,none⟩) (enX ss (ts.getD q tr0)).length cn) (enX ss (ts.getD q tr0))∧ge≠gn∧Below X.heap.size X w'):=hid (λX hb=>by
            have h1:=qw2 HC.out N hks WQ.out lets act X (by rw[HL.out];exact(HI.out _ hb).l1.mb.nd) (by rw[HL.out];exact(HI.out _ hb).l1.mb.nb);rw[hmv]at h1;exact h1)
          have TKs:Hid ((K.map (bD ss ts k)).take (a+1)=(K.map (bD ss ts k)).take a++[bD ss ts k q]):=hid (by rw[hq];exact qy3 hak);obtain⟨ex,hex⟩:∃x,x=exX ss k (ts.getD q tr0):=⟨_,rfl⟩;obtain⟨en,hen⟩:∃x,x=enX ss (ts.getD q tr0):=⟨_,rfl⟩;obtain⟨nx,hnx⟩:∃x,x=nxX ss k (ts.getD q tr0):=⟨_,rfl⟩;have RWX:Hid (bD ss ts k q=⟨(q:Int),ex,en,(nx:Nat)⟩):=hid (by rw[hex,hen,hnx];rfl);rw[←hex,←hen,←hnx]at CH;obtain⟨DR,hDR⟩:∃x,x=Cj.flatten++(K.map (bD ss ts k)).take a:=⟨_,rfl⟩;have HDR:=hid hDR;have DRl:DR.length≤1280100000:=by
           rw[hDR,List.length_append,List.length_take,List.length_map];have:=CjL.out;have:=RL.out;omega
          obtain⟨ra,rc,hrv⟩:∃ra rc,rv=.slice ra DR.length rc:=by rw[hDR];exact aO hT.ro
          subst hrv;obtain⟨V,hV⟩:∃V,V=wr.alloc (.cells #[.int .i64 (q:Int),.int .i64 sv2,.pointer (some ⟨nf,0,none⟩),.pointer tp,.func fn #[] cp,.slice xo xn xc] 120):=⟨_,rfl⟩;have bV:Below wr.heap.size wr V:=by rw[hV];exact aB _ _
          have qV:V.heap[wr.heap.size]? =some (.cells #[.int .i64 (q:Int),.int .i64 sv2,.pointer (some ⟨nf,0,none⟩),.pointer tp,.func fn #[] cp,.slice xo xn xc] 120 (0,0)):=by rw[hV];exact heap_alloc_new _ _
          have TV:=hid ((TT.out.below bV).below ((Below.refl _ _).drew));have OV:=hid (aI (aI hO bV) ((Below.refl _ _).drew));have ai:(a:Int)<(m:Int):=by omega
          have a5:a≤100000:=by have:=RL.out;omega
          have F63:Hid (DR.length+1≤maxLen∧(DR.length+1)*64≤140737488355328):=hid (by unfold maxLen;omega);clear hT hO hq hqm hak I2 hgq hmv hgg hcell hsv hex hen hnx hDR;go_upto_region 16 with fail;rw[←hV];obtain⟨x0',x1,x2,x3,x4,x5,x6,x7⟩:=dF (aA TT.out.box bV);obtain⟨z0,z1,z2,z3,z4,z5⟩:=tQ qV;have hbl:=lt_of_block (aA TT.out.box bV);have zl:=lt_of_block qV;clear hV y0 y1 y2 y3 y4 y5;go_region_law
           (first
            |(refine step_append_lies _ (by rfl) _ _ _ (by rfl) w1.heap.size 44 i1 _ 4 64 Tryz.underlying42 hi1 hy0 hy1 hy2 rfl (by omega) (.slice ra DR.length rc) DR.length R.flatten (by simp[Act.eval]) OA.out ⟨w2.heap.size,0,none⟩ 1 1 [.int .i64 (q:Int),.slice (some ⟨ge,0,none⟩) ex.length ce,.slice (some ⟨gn,0,none⟩) en.length cn,.int .i64 (nx:Nat)] (by simp[Act.eval]) (by simp) NW.out (by intro u hu;simp at hu;rcases hu with rfl|rfl|rfl|rfl<;>rfl) (by omega) F63.out.1 F63.out.2 SZ.out (w2.heap.size+1) (by simp) ?_;intro g4 cap4 w4 hown hgrow hat4 hlt4;have O4:=hid hown;have G4:=hid hgrow;have X4:=(hgrow.block _ (lt_of_block TA.out.box) (λe=>qd3 OA.out TA.out.box _ e.symm rfl)).trans TA.out.box;obtain⟨q0,q1,q2,q3,q4,q5,q6,q7⟩:=dF X4;have fr3:=frozen_of_row w4 HB 3 _ _ X4;clear hown hgrow hat4 hlt4 X4)
            |(go_simp;go_wp2_with(go_at_call 47;refine(CH.out _ TV.out.bel).mono ?_;rintro e w2 ⟨ge,ce,gn,cn,rfl,o1,o2,hne,hb⟩;have T2:=hid (TV.out.below hb);have TA:=hid (T2.out.below (aB w2 (.cells #[.int .i64 (q:Int),.slice (some ⟨ge,0,none⟩) ex.length ce,.slice (some ⟨gn,0,none⟩) en.length cn,.int .i64 (nx:Nat)] 44)));have OA:Hid ((w2.alloc (.cells #[.int .i64 (q:Int),.slice (some ⟨ge,0,none⟩) ex.length ce,.slice (some ⟨gn,0,none⟩) en.length cn,.int .i64 (nx:Nat)] 44)).ownsRow w1.heap.size 44 4 (.slice ra DR.length rc) DR.length R.flatten):=hid (by have h:=TA.out.ro;rw[show(cU ss ts S (Lv++[k]) Cj ((K.map (bD ss ts k)).take a)).rw=DR from HDR.out.symm]at h;exact h);have MA:=hid (aI (aI OV.out hb) (aB w2 (.cells #[.int .i64 (q:Int),.slice (some ⟨ge,0,none⟩) ex.length ce,.slice (some ⟨gn,0,none⟩) en.length cn,.int .i64 (nx:Nat)] 44)));have RI:=hid (qyO (tr:=(q:Int)) (nx:=((nx:Nat):Int)) o1 o2 (aB w2 (.cells #[.int .i64 (q:Int),.slice (some ⟨ge,0,none⟩) ex.length ce,.slice (some ⟨gn,0,none⟩) en.length cn,.int .i64 (nx:Nat)] 44)) TV.out.bel.size);have GE:Hid (V.heap.size≤ge∧V.heap.size≤gn∧ge≠gn):=hid ⟨(World.ownsRow.lt o1 ge rfl).1,(World.ownsRow.lt o2 gn rfl).1,hne⟩;have NW:=hid (World.news_of_block (heap_alloc_new w2 (.cells #[.int .i64 (q:Int),.slice (some ⟨ge,0,none⟩) ex.length ce,.slice (some ⟨gn,0,none⟩) en.length cn,.int .i64 (nx:Nat)] 44)));have SZ:=hid TA.out.bel.size;obtain⟨p0,p1,p2,p3,p4,p5,p6,p7⟩:=dF T2.out.box;have hbl2:=lt_of_block T2.out.box;clear o1 o2 hne hb)))
          all_goals
           have AR:=hid (TbI.addR (t:=bD ss ts k q) (c:=[.int .i64 (q:Int),.slice (some ⟨ge,0,none⟩) ex.length ce,.slice (some ⟨gn,0,none⟩) en.length cn,.int .i64 (nx:Nat)]) (N:=V.heap.size) TA.out (λb e=>by
            rcases e with(e|e|e|e)|e
            ·exact(TV.out.l.lt b e).2
            ·exact(TV.out.s.lt b e).2
            ·exact(TV.out.x.lt b e).2
            ·exact(TV.out.n.lt b e).2
            ·exact(TV.out.inner b e).2) (by rw[RWX.out];exact RI.out) (λb e=>by
            have h1:=GE.out;rcases e with e|e
            ·simp[Value.ownBlock]at e;omega
            ·simp[Value.ownBlock]at e;omega) (λb e e2=>by have h1:=GE.out;simp[Value.ownBlock]at e e2;omega) G4.out (by
            rw[show(cU ss ts S (Lv++[k]) Cj ((K.map (bD ss ts k)).take a)).rw=DR from HDR.out.symm];exact O4.out))
           have MK:=hid (qGZ (o:=3) (u:=.slice (some ⟨g4,0,none⟩) (DR.length+1) cap4) MA.out OA.out G4.out TA.out.box);have EQ:Hid ((⟨(cU ss ts S (Lv++[k]) Cj ((K.map (bD ss ts k)).take a)).sg,(cU ss ts S (Lv++[k]) Cj ((K.map (bD ss ts k)).take a)).lv,(cU ss ts S (Lv++[k]) Cj ((K.map (bD ss ts k)).take a)).st,(cU ss ts S (Lv++[k]) Cj ((K.map (bD ss ts k)).take a)).rw++[bD ss ts k q],(cU ss ts S (Lv++[k]) Cj ((K.map (bD ss ts k)).take a)).bt⟩:TbD)=cU ss ts S (Lv++[k]) Cj ((K.map (bD ss ts k)).take (a+1))):=hid (by rw[TKs.out];simp[cU]);go_wp2_with fail;go_roundg(m-(a+1))
           case measure=>omega
           case rel=>exact⟨a+1,_,_,by omega,rfl,by go_num,by rw[←EQ.out];exact AR.out,MK.out⟩
         ·obtain rfl:a=m:=by omega
          have TK:(K.map (bD ss ts k)).take a=K.map (bD ss ts k):=List.take_of_length_le (by rw[List.length_map,EM.out];exact Nat.le_refl _);rw[TK]at TT;obtain⟨DR,hDR⟩:∃x,x=Cj.flatten++K.map (bD ss ts k):=⟨_,rfl⟩;have HDR:=hid hDR;have DRl:DR.length≤1280100000:=by
           rw[hDR,List.length_append,List.length_map];have:=CjL.out;have:=RL.out;have:=EM.out;omega
          obtain⟨ra,rc,hrv⟩:∃ra rc,rv=.slice ra DR.length rc:=by rw[hDR];exact aO TT.out.ro
          subst hrv;obtain⟨st,hst⟩:∃x,x=dR Cj:=⟨_,rfl⟩;have HST:=hid hst;have stl:st.length≤100000:=by
           rw[hst,dR,List.length_append,qbG,List.length_singleton,HCj.out,List.length_append,List.length_map,List.length_range,HC0.out,qdT];have h3:=qbA ss k;have h4:(cC ss k).length*S≤200*S:=Nat.mul_le_mul (by omega) (Nat.le_refl _);omega
          obtain⟨sa,sc2,hsv⟩:∃sa sc2,sv=.slice sa st.length sc2:=by rw[hst];exact aO TT.out.s
          have TA:=hid (TT.out.below (aB wr (.cells #[.int .i64 (DR.length:Int)] 3)));have OSa:Hid ((wr.alloc (.cells #[.int .i64 (DR.length:Int)] 3)).ownsRow w1.heap.size 3 1 (.slice sa st.length sc2) st.length (aG st)):=hid (by have h:=TA.out.s;rw[hsv,show(cU ss ts S (Lv++[k]) Cj (K.map (bD ss ts k))).st=st from HST.out.symm]at h;exact h);have NW:=hid (World.news_of_block (heap_alloc_new wr (.cells #[.int .i64 (DR.length:Int)] 3)));obtain⟨x0',x1,x2,x3,x4,x5,x6,x7⟩:=dF TT.out.box;have hbl:=lt_of_block TT.out.box;have HSV:=hid hsv;rw[hsv]at x2;clear hT hO hDR hst TK hsv;go_wp2_with(at_builtin;refine wpList_append_lies _ rfl (.tmp 75) (.tmp 79) 30 rfl w1.heap.size 3 i0 _ 1 8 Tryz.underlying30 hi0 hz0 hz1 hz2 rfl (by decide) (.slice sa st.length sc2) st.length (aG st) rfl OSa.out ⟨wr.heap.size,0,none⟩ 1 1 [.int .i64 (DR.length:Int)] rfl rfl NW.out (by intro u hu;simp at hu;subst hu;rfl) (by omega) (by unfold maxLen;omega) (by omega) TA.out.bel.size (wr.heap.size+1) (by simp) ?_);intro g4 cap4 w4 hown hgrow hat4 _;have X4:=(hgrow.block _ (lt_of_block TA.out.box) (λe=>tM OSa.out TA.out.box _ e.symm rfl)).trans TA.out.box;obtain⟨q0,q1,q2,q3,q4,q5,q6,q7⟩:=dF X4;have fr2:=frozen_of_row w4 HB 2 _ _ X4;have AS:=hid (TbI.addS (x:=DR.length) TA.out (by rw[HSV.out];exact hgrow) (show w4.ownsRow w1.heap.size 3 1 (.slice (some ⟨g4,0,none⟩) (st.length+1) cap4) ((cU ss ts S (Lv++[k]) Cj (K.map (bD ss ts k))).st.length+1) (aG ((cU ss ts S (Lv++[k]) Cj (K.map (bD ss ts k))).st++[DR.length])) by rw[show(cU ss ts S (Lv++[k]) Cj (K.map (bD ss ts k))).st=st from HST.out.symm];simpa[aG]using hown) (by rw[HSV.out];exact quV rfl hat4 (by simp)));have EQ:Hid ((⟨(cU ss ts S (Lv++[k]) Cj (K.map (bD ss ts k))).sg,(cU ss ts S (Lv++[k]) Cj (K.map (bD ss ts k))).lv,(cU ss ts S (Lv++[k]) Cj (K.map (bD ss ts k))).st++[DR.length],(cU ss ts S (Lv++[k]) Cj (K.map (bD ss ts k))).rw,(cU ss ts S (Lv++[k]) Cj (K.map (bD ss ts k))).bt⟩:TbD)=cU ss ts S (Lv++[k]) (C0++(List.range (j+1)).map (λ(s:Nat)=>iD ss ts k (s:Int))) []):=hid (by
           rw[qyJ,←List.append_assoc,←HCj.out,RX.out];simp only[cU,qJB,HDR.out,List.flatten_append,List.flatten_cons,List.flatten_nil,List.append_nil])
          clear hown hgrow hat4 X4;go_wp2_with fail;go_roundg(S-(j+1))
          case measure=>omega
          case rel=>exact⟨j+1,_,_,_,by omega,rfl,by go_num,by rw[←EQ.out];exact AS.out⟩
       ·obtain rfl:j=S:=by omega
        have CE:Hid (cA ss ts j (cC ss (k+1))=C0++(List.range j).map (λ(s:Nat)=>iD ss ts k (s:Int))):=hid (by rw[LS.out,qvM,HC0.out,HLv.out]);clear hT;go_wp2_with fail;go_roundg(n-(k+1))
        case measure=>omega
        case rel=>exact⟨k+1,lv',sv,rv,R,by omega,rfl,by go_num,by rw[CE.out,LS.out];exact TJ.out⟩
   ·obtain rfl:k=n:=by omega
    have TX:Hid (cU ss ts S (cC ss k) (cA ss ts S (cC ss k)) []=cM ss ts S):=hid (by simp only[cU,cM,HL.out,List.append_nil]);rw[TX.out]at TT;obtain⟨x0',x1,x2,x3,x4,x5,x6,x7⟩:=dF TT.out.box;obtain⟨la,lc,hlv⟩:=aO TT.out.l;obtain⟨sa,sc2,hsv⟩:=aO TT.out.s;obtain⟨ra,rc,hrv⟩:=aO TT.out.ro;obtain⟨xa,xc,hbx⟩:=aO TT.out.x;obtain⟨na,nc,hbn⟩:=aO TT.out.n;have RB:=hid ((TT.out.bel.block _ (lt_of_block B1.out.r)).trans B1.out.r);have RL0:w.heap.size+1+1<w1.heap.size:=lt_of_block B1.out.r;have RLw:w.heap.size+1+1<wr.heap.size:=lt_of_block RB.out;obtain⟨r0,r1,r2,r3,r4,r5,r6,r7⟩:=dF RB.out;have fz:=zA RB.out;have nHB:¬(HB=w.heap.size+1+1):=by have:=TT.out.hB;omega
    have nHB2:¬(w.heap.size+1+1=HB):=λe=>nHB e.symm;clear hT I1;go_wp2_with fail;subst hlv;subst hsv;subst hrv;subst hbx;subst hbn;obtain⟨c0,c1,c2,c3,c4,c5,c6,c7⟩:=dF (qh9 (a:=.int .i64 (cM ss ts S).sg) (b:=.slice la (cM ss ts S).lv.length lc) (c:=.slice sa (cM ss ts S).st.length sc2) (d:=.slice ra (cM ss ts S).rw.length rc) (e:=.int .i64 (cM ss ts S).bt.tr) (f:=.slice xa (cM ss ts S).bt.ex.length xc) (g:=.slice na (cM ss ts S).bt.en.length nc) (i:=.int .i64 (cM ss ts S).bt.nx) RB.out);refine bodyPost_ret (v:=zB (cM ss ts S) (.slice la (cM ss ts S).lv.length lc) (.slice sa (cM ss ts S).st.length sc2) (.slice ra (cM ss ts S).rw.length rc) (.slice xa (cM ss ts S).bt.ex.length xc) (.slice na (cM ss ts S).bt.en.length nc)) (by simp[results,Tryz.results10,go_sem,c0,c1,c2,c3,c4,c5,c6,c7]) rfl ?_;exact⟨_,_,_,_,_,R,HB,w1,rfl,B1.out.bel.size,⟨wr,TT.out,qdZ,RL0⟩,(B1.out.bel.trans (TT.out.bel.mono B1.out.bel.size)).trans (qdZ.toBelow (λb e=>by omega) (Nat.le_trans B1.out.bel.size TT.out.bel.size))⟩
end Go.Proofs.YtiimkhepplkocaaGreat
