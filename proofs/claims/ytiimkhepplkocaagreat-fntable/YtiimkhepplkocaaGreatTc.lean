import Derived.Test.YtiimkhepplkocaaGreatZa
import Derived.Test.YtiimkhepplkocaaGreatTb
namespace Go.Proofs.YtiimkhepplkocaaGreat
open Go
section
variable {P:Program} {ops:Array Oper} {Q:Exit→Act→World→Prop} {md:Region.Mode}
def left(l:List Bool):Nat:=(l.filter (λb=>!b)).length
theorem qF9{l:List Bool}{i:Nat}(h:l[i]? =some false):0<left l:=by
 unfold left;refine List.length_pos_of_mem (a:=false) ?_;rw[List.mem_filter];exact⟨List.mem_of_getElem? h,rfl⟩
theorem qGA:∀{l:List Bool} {i:Nat},l[i]? =some false→left (l.set i true)+1=left l:=by
 intro l
 induction l with
 |nil=>intro i h;simp at h
 |cons b r ih=>
  intro i h;cases i with
  |zero=>simp at h;subst h;simp[left]
  |succ k=>
   have:=ih (i:=k) (by simpa using h);cases b<;>simp[left]at this⊢<;>omega
theorem qML(I:Array Bool→Act→World→Prop)(hs:∀l a w i,I l a w→i∈Region.ready md ops l→wpOp P ops Q i (λb u=>I (l.setIfInBounds i true) b u) a w)
  (he:∀l a w,I l a w→Region.ready md ops l=[]→Q .normal a w):∀(fuel:Nat) (l:Array Bool) (a:Act) (w:World),I l a w→left l.toList≤fuel→wpAny P md ops Q fuel l a w:=by
 have un:∀{l:Array Bool} {i:Nat},i∈Region.ready md ops l→l.toList[i]? =some false:=by
  intro l i hi;have h:=(mem_ready.1 hi).1;by_cases hz:i<l.size
  ·simp[hz]at h
   simp[hz,h]
  ·simp[hz]at h
 intro fuel
 induction fuel with
 |zero=>
  intro l a w hI hl;have hr:Region.ready md ops l=[]:=by
   cases h:Region.ready md ops l with
   |nil=>rfl
   |cons i r=>
    have:=qF9 (un (l:=l) (i:=i) (by rw[h];simp));omega
  exact⟨hr,he l a w hI hr⟩
 |succ n ih=>
  intro l a w hI hl;refine⟨he l a w hI,λi hi=>wpOp_mono (λb u k=>ih _ b u k ?_) (hs l a w i hI hi)⟩;have:=qGA (un hi);rw[Array.toList_setIfInBounds];omega
theorem qF8(n:Nat):left (List.replicate n false)=n:=by
 unfold left;rw[List.filter_eq_self.2 (λb hb=>by rw[List.eq_of_mem_replicate hb];rfl),List.length_replicate]
theorem qMO{id:Nat}{a:Act}{w:World}(I:Array Bool→Act→World→Prop)(hm:P.follows .mixedOrders=true)(h0:I (Array.replicate ops.size false) a w.drew)
  (hs:∀l a w i,I l a w→i∈Region.ready .any ops l→wpOp P ops Q i (λb u=>I (l.setIfInBounds i true) b u) a w)
  (he:∀l a w,I l a w→Region.ready .any ops l=[]→Q .normal a w):(Code.region id ops true).wp P Q a w:=
 wp_region_any hm (qML I hs he ops.size _ a _ h0 (by rw[Array.toList_replicate,qF8];exact Nat.le_refl _))
def qv6(ops:Array Oper):Bool:=(List.range ops.size).all (λi=>match ops[i]? with|some o=>o.after.all (λe=>decide (e.on<i))|none=>true)
theorem qv7(h:qv6 ops=true){i:Nat}{o:Oper}(ho:ops[i]? =some o):∀e∈o.after,e.on<i:=by
 intro e he;have hi:i<ops.size:=(Array.getElem?_eq_some_iff.1 ho).1;have h1:=List.all_eq_true.1 h i (List.mem_range.2 hi);rw[ho]at h1;exact of_decide_eq_true (Array.all_eq_true_iff_forall_mem.1 h1 e he)
theorem qzY{l:Array Bool}(he:qv6 ops=true)(hz:l.size=ops.size)(hr:Region.ready md ops l=[]):∀i,i<ops.size→l.getD i false=true:=by
 intro i
 induction i using Nat.strongRecOn with
 |_ i ih=>
  intro hi;cases h:l.getD i true with
  |true=>rw[←h];simp[hz,hi]
  |false=>
   exact absurd (mem_ready.2 ⟨h,_,Array.getElem?_eq_getElem hi,λe hm _=>ih e.on (qv7 he (Array.getElem?_eq_getElem hi) e hm) (by have:=qv7 he (Array.getElem?_eq_getElem hi) e hm;omega)⟩) (by rw[hr];simp)
end
end Go.Proofs.YtiimkhepplkocaaGreat
namespace Go.Proofs.YtiimkhepplkocaaGreat
open Go.RowKit Go.Sort
set_option linter.unusedVariables false
attribute [local go_sem ↓] Go.wp_at_zero Go.wp_at_succ
abbrev ZT:Obj:=.cells #[.int .i64 0,.slice none 0 0,.slice none 0 0,.slice none 0 0,.int .i64 0,.slice none 0 0,.slice none 0 0,.int .i64 0] 46
abbrev qj2(X:World)(r:Nat)(a b c d e f g i:Value):World:=(((((((X.setCell ⟨r,0,none⟩ a).setCell ⟨r,1,none⟩ b).setCell ⟨r,2,none⟩ c).setCell ⟨r,3,none⟩ d).setCell ⟨r,4,none⟩ e).setCell ⟨r,5,none⟩ f).setCell ⟨r,6,none⟩ g).setCell ⟨r,7,none⟩ i
theorem qh9{X:World}{r:Nat}{a b c d e f g i x0 x1 x2 x3 x4 x5 x6 x7:Value}{t:TypeId}(h:X.heap[r]? =some (.cells #[x0,x1,x2,x3,x4,x5,x6,x7] t (0,0))):(qj2 X r a b c d e f g i).heap[r]? =some (.cells #[a,b,c,d,e,f,g,i] t (0,0)):=by
 have m1:=heap_setCell_same X r 0 _ _ a h;have m2:=heap_setCell_same _ r 1 _ _ b m1;have m3:=heap_setCell_same _ r 2 _ _ c m2;have m4:=heap_setCell_same _ r 3 _ _ d m3;have m5:=heap_setCell_same _ r 4 _ _ e m4;have m6:=heap_setCell_same _ r 5 _ _ f m5;have m7:=heap_setCell_same _ r 6 _ _ g m6;have m8:=heap_setCell_same _ r 7 _ _ i m7;rw[m8];simp
theorem qdZ{X:World}{r:Nat}{a b c d e f g i:Value}:OnlyP (λq=>q=r) X (qj2 X r a b c d e f g i):=
 have s:∀{Y:World} {o:Nat} {u:Value},OnlyP (λq=>q=r) Y (Y.setCell ⟨r,o,none⟩ u):=OnlyP.set _ rfl
 ((((((s.trans s).trans s).trans s).trans s).trans s).trans s).trans s
structure RI (w1:World) (ss:List StD) (p q r c b:Prop) (x y z u v:Value) (w:World):Prop where
 bel:Below w1.heap.size w1 w
 l:p→∃g,x=.slice (some ⟨g,0,none⟩) 0 0∧w1.heap.size≤g∧w.heap[g]? =some (.cells #[] 3 (0,0))
 s:q→∃g,y=.slice (some ⟨g,0,none⟩) 1 1∧w1.heap.size≤g∧w.heap[g]? =some (.cells #[.int .i64 0] 3 (0,0))
 ro:r→∃g,z=.slice (some ⟨g,0,none⟩) 0 0∧w1.heap.size≤g∧w.heap[g]? =some (.cells #[] 44 (0,0))
 bt:c→∃ge gn cn,u=.agg #[.int .i64 (-1),.slice (some ⟨ge,0,none⟩) 0 0,.slice (some ⟨gn,0,none⟩) (bR ss).length cn,.int .i64 (dD ss)]∧w.ownsRow w1.heap.size 3 1 (.slice (some ⟨ge,0,none⟩) 0 0) 0 []∧w.ownsRow w1.heap.size 3 1 (.slice (some ⟨gn,0,none⟩) (bR ss).length cn) (bR ss).length (aG (bR ss))∧ge≠gn∧(p→x.ownBlock≠some ge∧x.ownBlock≠some gn)∧(q→y.ownBlock≠some ge∧y.ownBlock≠some gn)
 box:b→∃H,v=.pointer (some ⟨H,0,none⟩)∧w1.heap.size≤H∧w.heap[H]? =some ZT
section
variable {w1:World} {ss:List StD} {p q r c b:Prop} {x y z u v:Value} {w w':World}
theorem RI.below(h:RI w1 ss p q r c b x y z u v w)(hb:Below w.heap.size w w'):RI w1 ss p q r c b x y z u v w' where
 bel:=h.bel.trans (hb.mono h.bel.size)
 l:=λk=>by obtain⟨g,e,hg,hB⟩:=h.l k;exact⟨g,e,hg,aA hB hb⟩
 s:=λk=>by obtain⟨g,e,hg,hB⟩:=h.s k;exact⟨g,e,hg,aA hB hb⟩
 ro:=λk=>by obtain⟨g,e,hg,hB⟩:=h.ro k;exact⟨g,e,hg,aA hB hb⟩
 bt:=λk=>by obtain⟨ge,gn,cn,e,o1,o2,hr⟩:=h.bt k;exact⟨ge,gn,cn,e,aI o1 hb,aI o2 hb,hr⟩
 box:=λk=>by obtain⟨g,e,hg,hB⟩:=h.box k;exact⟨g,e,hg,aA hB hb⟩
theorem RI.imp{p' q' r' c' b':Prop}(h:RI w1 ss p q r c b x y z u v w)(hp:p'→p)(hq:q'→q)(hr:r'→r)(hc:c'→c)(hb:b'→b):RI w1 ss p' q' r' c' b' x y z u v w where
 bel:=h.bel
 l:=λk=>h.l (hp k)
 s:=λk=>h.s (hq k)
 ro:=λk=>h.ro (hr k)
 bt:=λk=>by obtain⟨ge,gn,cn,e,o1,o2,hn,h1,h2⟩:=h.bt (hc k);exact⟨ge,gn,cn,e,o1,o2,hn,λk=>h1 (hp k),λk=>h2 (hq k)⟩
 box:=λk=>h.box (hb k)
theorem qH9(w1:World)(ss:List StD)(hb:Below w1.heap.size w1 w):RI w1 ss False False False False False x y z u v w:=⟨hb,False.elim,False.elim,False.elim,False.elim,False.elim⟩
theorem RI.addL(h:RI w1 ss p q r c b x y z u v w):RI w1 ss True q r c b (.slice (some ⟨w.heap.size,0,none⟩) 0 0) y z u v (w.alloc (.cells #[] 3 (0,0))):=
 have k:=h.below (aB w (.cells #[] 3 (0,0)))
 ⟨k.bel,λ_=>⟨_,rfl,h.bel.size,heap_alloc_new w _⟩,k.s,k.ro,λhc=>by
  obtain⟨ge,gn,cn,e,o1,o2,hn,h1,h2⟩:=k.bt hc;obtain⟨_,_,_,e',o1',o2',_⟩:=h.bt hc;have e3:(Value.agg #[.int .i64 (-1),.slice (some ⟨ge,0,none⟩) 0 0,.slice (some ⟨gn,0,none⟩) (bR ss).length cn,.int .i64 (dD ss)])=_:=e.symm.trans e';simp at e3;obtain⟨rfl,rfl,rfl⟩:=e3;have l1:=(World.ownsRow.lt o1' ge rfl).2;have l2:=(World.ownsRow.lt o2' gn rfl).2;refine⟨ge,gn,cn,e,o1,o2,hn,λ_=>⟨?_,?_⟩,h2⟩<;>(simp[Value.ownBlock];omega),k.box⟩
theorem RI.addS(h:RI w1 ss p q r c b x y z u v w):RI w1 ss p True r c b x (.slice (some ⟨w.heap.size,0,none⟩) 1 1) z u v (w.alloc (.cells #[.int .i64 0] 3 (0,0))):=
 have k:=h.below (aB w (.cells #[.int .i64 0] 3 (0,0)))
 ⟨k.bel,k.l,λ_=>⟨_,rfl,h.bel.size,heap_alloc_new w _⟩,k.ro,λhc=>by
  obtain⟨ge,gn,cn,e,o1,o2,hn,h1,h2⟩:=k.bt hc;obtain⟨_,_,_,e',o1',o2',_⟩:=h.bt hc;have e3:(Value.agg #[.int .i64 (-1),.slice (some ⟨ge,0,none⟩) 0 0,.slice (some ⟨gn,0,none⟩) (bR ss).length cn,.int .i64 (dD ss)])=_:=e.symm.trans e';simp at e3;obtain⟨rfl,rfl,rfl⟩:=e3;have l1:=(World.ownsRow.lt o1' ge rfl).2;have l2:=(World.ownsRow.lt o2' gn rfl).2;refine⟨ge,gn,cn,e,o1,o2,hn,h1,λ_=>⟨?_,?_⟩⟩<;>(simp[Value.ownBlock];omega),k.box⟩
theorem RI.addR(h:RI w1 ss p q r c b x y z u v w):RI w1 ss p q True c b x y (.slice (some ⟨w.heap.size,0,none⟩) 0 0) u v (w.alloc (.cells #[] 44 (0,0))):=
 have k:=h.below (aB w (.cells #[] 44 (0,0)))
 ⟨k.bel,k.l,k.s,λ_=>⟨_,rfl,h.bel.size,heap_alloc_new w _⟩,k.bt,k.box⟩
theorem RI.addB(h:RI w1 ss p q r c b x y z u v w):RI w1 ss p q r c True x y z u (.pointer (some ⟨w.heap.size,0,none⟩)) (w.alloc ZT):=
 have k:=h.below (aB w ZT)
 ⟨k.bel,k.l,k.s,k.ro,k.bt,λ_=>⟨_,rfl,h.bel.size,heap_alloc_new w _⟩⟩
theorem RI.addC{ge gn cn:Nat}(h:RI w1 ss p q r c b x y z u v w)(o1:bO w w' (.slice (some ⟨ge,0,none⟩) 0 0) [])(o2:bO w w' (.slice (some ⟨gn,0,none⟩) (bR ss).length cn) (bR ss))(hne:ge≠gn)(hb:Below w.heap.size w w'):
  RI w1 ss p q r True b x y z (.agg #[.int .i64 (-1),.slice (some ⟨ge,0,none⟩) 0 0,.slice (some ⟨gn,0,none⟩) (bR ss).length cn,.int .i64 (dD ss)]) v w':=
 have k:=h.below hb
 ⟨k.bel,k.l,k.s,k.ro,λ_=>by
  have l1:=(World.ownsRow.lt o1 ge rfl).1;have l2:=(World.ownsRow.lt o2 gn rfl).1;refine⟨ge,gn,cn,rfl,aM o1 h.bel.size,aM o2 h.bel.size,hne,λhp=>?_,λhq=>?_⟩
  ·obtain⟨g,e,hg,hB⟩:=h.l hp
   have:=lt_of_block hB;subst e;simp[Value.ownBlock];omega
  ·obtain⟨g,e,hg,hB⟩:=h.s hq
   have:=lt_of_block hB;subst e;simp[Value.ownBlock];omega,k.box⟩
theorem RI.done(h:RI w1 ss True True True True True x y z u v w)(ts:List TrD)(S:Nat):∃gl gs gr ge gn cn HB,x=.slice (some ⟨gl,0,none⟩) 0 0∧y=.slice (some ⟨gs,0,none⟩) 1 1∧z=.slice (some ⟨gr,0,none⟩) 0 0∧u=.agg #[.int .i64 (-1),.slice (some ⟨ge,0,none⟩) 0 0,.slice (some ⟨gn,0,none⟩) (bR ss).length cn,.int .i64 (dD ss)]∧v=.pointer (some ⟨HB,0,none⟩)∧w.heap[HB]? =some ZT∧
  TbI w1 HB (cU ss ts S [] [] []) (.slice (some ⟨gl,0,none⟩) 0 0) (.slice (some ⟨gs,0,none⟩) 1 1) (.slice (some ⟨gr,0,none⟩) 0 0) (.slice (some ⟨ge,0,none⟩) 0 0) (.slice (some ⟨gn,0,none⟩) (bR ss).length cn) [] (qj2 w HB (.int .i64 (S:Int)) (.slice (some ⟨gl,0,none⟩) 0 0) (.slice (some ⟨gs,0,none⟩) 1 1) (.slice (some ⟨gr,0,none⟩) 0 0) (.int .i64 (-1)) (.slice (some ⟨ge,0,none⟩) 0 0) (.slice (some ⟨gn,0,none⟩) (bR ss).length cn) (.int .i64 (dD ss))):=by
 obtain⟨gl,rfl,l1,l2⟩:=h.l trivial;obtain⟨gs,rfl,s1,s2⟩:=h.s trivial;obtain⟨gr,rfl,r1,r2⟩:=h.ro trivial;obtain⟨ge,gn,cn,rfl,o1,o2,hne,n1,n2⟩:=h.bt trivial;obtain⟨HB,rfl,b1,b2⟩:=h.box trivial;have n1:=n1 trivial;have n2:=n2 trivial;simp[Value.ownBlock]at n1 n2;have ls:gl≠gs:=λe=>by rw[e,s2]at l2;simp at l2
 have lr:gl≠gr:=λe=>by rw[e,r2]at l2;simp at l2
 have sr:gs≠gr:=λe=>by rw[e,r2]at s2;simp at s2
 have lb:gl≠HB:=λe=>by rw[e,b2]at l2;simp at l2
 have sb:gs≠HB:=λe=>by rw[e,b2]at s2;simp at s2
 have rb:gr≠HB:=λe=>by rw[e,b2]at r2;simp at r2
 have eb:ge≠HB:=λe=>tM o1 b2 ge rfl e;have nb:gn≠HB:=λe=>tM o2 b2 gn rfl e;have er:ge≠gr:=λe=>by
  obtain⟨ds,hd⟩:=qjT o1 ge rfl;rw[e,r2]at hd;simp at hd
 have nr:gn≠gr:=λe=>by
  obtain⟨ds,hd⟩:=qjT o2 gn rfl;rw[e,r2]at hd;simp at hd
 refine⟨gl,gs,gr,ge,gn,cn,HB,rfl,rfl,rfl,rfl,rfl,b2,?_⟩;obtain⟨X,hX⟩:∃X,X=qj2 w HB (.int .i64 (S:Int)) (.slice (some ⟨gl,0,none⟩) 0 0) (.slice (some ⟨gs,0,none⟩) 1 1) (.slice (some ⟨gr,0,none⟩) 0 0) (.int .i64 (-1)) (.slice (some ⟨ge,0,none⟩) 0 0) (.slice (some ⟨gn,0,none⟩) (bR ss).length cn) (.int .i64 (dD ss)):=⟨_,rfl⟩;have hP:OnlyP (λq=>q=HB) w X:=by rw[hX];exact qdZ
 have hbx:X.heap[HB]? =some (.cells #[.int .i64 (S:Int),.slice (some ⟨gl,0,none⟩) 0 0,.slice (some ⟨gs,0,none⟩) 1 1,.slice (some ⟨gr,0,none⟩) 0 0,.int .i64 (-1),.slice (some ⟨ge,0,none⟩) 0 0,.slice (some ⟨gn,0,none⟩) (bR ss).length cn,.int .i64 (dD ss)] 46 (0,0)):=by rw[hX];exact qh9 b2
 rw[←hX];have at':∀{g:Nat} {ob:Obj},w.heap[g]? =some ob→g≠HB→X.heap[g]? =some ob:=λhg hn=>(hP.block _ (lt_of_block hg) hn).trans hg;have ml:(1:Nat)≤maxLen:=by unfold maxLen;omega
 refine⟨h.bel.trans (hP.toBelow (λb e=>by omega) h.bel.size),hbx,b1,vD (at' l2 lb) l1,⟨rfl,.inr ⟨gs,1,#[.int .i64 0],rfl,s1,at' s2 sb,Nat.le_refl _,ml,rfl,rfl⟩⟩,hP.own o1 (λb e=>by simp[Value.ownBlock]at e;omega),hP.own o2 (λb e=>by simp[Value.ownBlock]at e;omega),⟨rfl,λi hi=>absurd hi (by simp[cU])⟩,⟨rfl,.inr ⟨gr,0,#[],rfl,r1,at' r2 rb,Nat.le_refl _,Nat.zero_le _,rfl,rfl⟩⟩,⟨?_,?_,?_,?_,?_,?_,?_,λi j hi=>absurd hi (by simp[cU])⟩⟩
 any_goals(intro b e e';simp[Value.ownBlock]at e e';omega)
 intro b e;simp only[qdS,Value.ownBlock,Option.some.injEq]at e;intro e';rcases e' with e'|⟨i,hi,_⟩
 ·simp[Value.ownBlock]at e'
  omega
 ·exact absurd hi (by simp[cU])
end
end Go.Proofs.YtiimkhepplkocaaGreat
namespace Go.Proofs.YtiimkhepplkocaaGreat
open Go.RowKit Go.Sort
set_option linter.unusedVariables false
attribute [local go_sem ↓] Go.wp_at_zero Go.wp_at_succ
section
variable {P:Program} {ops:Array Oper} {Q:Exit→Act→World→Prop} {md:Region.Mode}
def qx0(md:Region.Mode)(ops:Array Oper)(i:Nat):List Nat:=match ops[i]? with|some o=>(o.after.toList.filter (Region.binds md)).map (λe=>e.on)|none=>[]
theorem qbD{l:Array Bool}{i:Nat}(hi:i∈Region.ready md ops l){j:Nat}(hj:(qx0 md ops i).contains j=true):l.getD j false=true:=by
 obtain⟨_,o,ho,hall⟩:=mem_ready.1 hi;unfold qx0 at hj;rw[ho]at hj;simp only[List.contains_eq_mem,decide_eq_true_eq,List.mem_map,List.mem_filter]at hj;obtain⟨e,⟨he,hb⟩,rfl⟩:=hj;exact hall e (by simpa using he) hb
theorem qH4{l:Array Bool}{i:Nat}(hi:i∈Region.ready md ops l):i<ops.size:=by
 obtain⟨_,o,ho,_⟩:=mem_ready.1 hi;exact(Array.getElem?_eq_some_iff.1 ho).1
theorem qH5{l:Array Bool}{i:Nat}(hi:i∈Region.ready md ops l):l.getD i true=false:=(mem_ready.1 hi).1
theorem qMP{id:Nat}{a:Act}{w:World}(I:Act→Array Bool→Act→World→Prop)(hm:P.follows .mixedOrders=true)(h0:I a (Array.replicate ops.size false) a w.drew)
  (hs:∀l b u i,I a l b u→i∈Region.ready .any ops l→wpOp P ops Q i (λb u=>I a (l.setIfInBounds i true) b u) b u)
  (he:∀l b u,I a l b u→Region.ready .any ops l=[]→Q .normal b u):(Code.region id ops true).wp P Q a w:=qMO (I a) hm h0 hs he
theorem qa1{i:Nat}{o:Oper}{J:Act→World→Prop}{a:Act}{w:World}(ho:ops[i]? =some o)(h:∀K:Act→World→Prop,(∀b u,J b u→K b u)→if Region.wanted o (yielded ops a.tmps)=true then Oper.wp P o a w K Q else K (a.put o.dst undef) w):wpOp P ops Q i J a w:=by
 have h1:=h J (λ_ _ k=>k);unfold wpOp;rw[ho];dsimp only;split
 ·rename_i hw;rw[if_pos hw]at h1;exact .inl h1
 ·rename_i hw;rw[if_neg hw]at h1;exact h1
end
theorem qbF{l:Array Bool}{i j:Nat}(h:i≠j):(l.setIfInBounds i true).getD j false=l.getD j false:=getD_set_ne false h
theorem qpW{l:Array Bool}{i:Nat}(h:i<l.size):(l.setIfInBounds i true).getD i false=true:=by simp[h]
theorem qj7{l:Array Bool}{i:Nat}(h:l.getD i true=false):¬l.getD i false=true:=by
 intro k;by_cases hz:i<l.size
 ·simp[hz]at h k;rw[h]at k;cases k
 ·simp[hz]at h
structure GI (w1:World) (ss:List StD) (S:Nat) (p22 p27:Value) (l:Array Bool) (s22 s23 s24 s25 s26 s27 s28 s29 s7:Value) (w:World):Prop where
 z:l.size=10
 u:l.getD 9 false=false
 a0:l.getD 0 false=true→s22=p22
 a1:l.getD 1 false=true→s23=.int .i64 (S:Int)
 a5:l.getD 5 false=true→s27=p27
 a7:l.getD 7 false=true→(l.getD 1 false=true∧l.getD 2 false=true∧l.getD 3 false=true∧l.getD 4 false=true∧l.getD 6 false=true)∧∃ge gn cn,s28=.agg #[.int .i64 (-1),.slice (some ⟨ge,0,none⟩) 0 0,.slice (some ⟨gn,0,none⟩) (bR ss).length cn,.int .i64 (dD ss)]∧s29=.agg #[.int .i64 (S:Int),s24,s25,s26,.int .i64 (-1),.slice (some ⟨ge,0,none⟩) 0 0,.slice (some ⟨gn,0,none⟩) (bR ss).length cn,.int .i64 (dD ss)]
 d1:l.getD 1 false=true→l.getD 0 false=true
 d6:l.getD 6 false=true→l.getD 5 false=true
 ri:RI w1 ss (l.getD 2 false=true) (l.getD 3 false=true) (l.getD 4 false=true) (l.getD 6 false=true) (l.getD 8 false=true) s24 s25 s26 s28 s7 w
section
variable {w1:World} {ss:List StD} {S:Nat} {p22 p27:Value} {l:Array Bool} {s22 s23 s24 s25 s26 s27 s28 s29 s7:Value} {w w':World}
theorem qEI(hb:Below w1.heap.size w1 w):GI w1 ss S p22 p27 (Array.replicate 10 false) s22 s23 s24 s25 s26 s27 s28 s29 s7 w:=
 have no:∀j,¬(Array.replicate 10 false).getD j false=true:=λj e=>by
  by_cases h:j<10
  ·simp[h]at e
  ·simp[h]at e
 ⟨rfl,rfl,λh=>absurd h (no _),λh=>absurd h (no _),λh=>absurd h (no _),λh=>absurd h (no _),λh=>absurd h (no _),λh=>absurd h (no _),(qH9 w1 ss hb).imp (λh=>absurd h (no _)) (λh=>absurd h (no _)) (λh=>absurd h (no _)) (λh=>absurd h (no _)) (λh=>absurd h (no _))⟩
theorem GI.t0(h:GI w1 ss S p22 p27 l s22 s23 s24 s25 s26 s27 s28 s29 s7 w):GI w1 ss S p22 p27 (l.setIfInBounds 0 true) p22 s23 s24 s25 s26 s27 s28 s29 s7 w:=by
 have n:∀j,0≠j→(l.setIfInBounds 0 true).getD j false=l.getD j false:=λj hj=>qbF hj;refine⟨by simpa using h.z,?_,λ_=>rfl,?_,?_,?_,λ_=>qpW (by rw[h.z];decide),?_,?_⟩
 all_goals simp only[n 1 (by decide),n 2 (by decide),n 3 (by decide),n 4 (by decide),n 5 (by decide),n 6 (by decide),n 7 (by decide),n 8 (by decide),n 9 (by decide)]
 ·exact h.u
 ·exact h.a1
 ·exact h.a5
 ·exact h.a7
 ·exact h.d6
 ·exact h.ri
theorem GI.t1(h:GI w1 ss S p22 p27 l s22 s23 s24 s25 s26 s27 s28 s29 s7 w)(h0:l.getD 0 false=true):GI w1 ss S p22 p27 (l.setIfInBounds 1 true) s22 (.int .i64 (S:Int)) s24 s25 s26 s27 s28 s29 s7 w:=by
 have n:∀j,1≠j→(l.setIfInBounds 1 true).getD j false=l.getD j false:=λj hj=>qbF hj;refine⟨by simpa using h.z,?_,?_,λ_=>rfl,?_,?_,?_,?_,?_⟩
 all_goals simp only[n 0 (by decide),n 2 (by decide),n 3 (by decide),n 4 (by decide),n 5 (by decide),n 6 (by decide),n 7 (by decide),n 8 (by decide),n 9 (by decide)]
 ·exact h.u
 ·exact h.a0
 ·exact h.a5
 ·exactλk=>⟨⟨qpW (by rw[h.z];decide),(h.a7 k).1.2⟩,(h.a7 k).2⟩
 ·exactλ_=>h0
 ·exact h.d6
 ·exact h.ri
theorem GI.t5(h:GI w1 ss S p22 p27 l s22 s23 s24 s25 s26 s27 s28 s29 s7 w):GI w1 ss S p22 p27 (l.setIfInBounds 5 true) s22 s23 s24 s25 s26 p27 s28 s29 s7 w:=by
 have n:∀j,5≠j→(l.setIfInBounds 5 true).getD j false=l.getD j false:=λj hj=>qbF hj;refine⟨by simpa using h.z,?_,?_,?_,λ_=>rfl,?_,?_,λ_=>qpW (by rw[h.z];decide),?_⟩
 all_goals simp only[n 0 (by decide),n 1 (by decide),n 2 (by decide),n 3 (by decide),n 4 (by decide),n 6 (by decide),n 7 (by decide),n 8 (by decide),n 9 (by decide)]
 ·exact h.u
 ·exact h.a0
 ·exact h.a1
 ·exact h.a7
 ·exact h.d1
 ·exact h.ri
theorem GI.t2(h:GI w1 ss S p22 p27 l s22 s23 s24 s25 s26 s27 s28 s29 s7 w)(hu:l.getD 2 true=false):GI w1 ss S p22 p27 (l.setIfInBounds 2 true) s22 s23 (.slice (some ⟨w.heap.size,0,none⟩) 0 0) s25 s26 s27 s28 s29 s7 (w.alloc (.cells #[] 3 (0,0))):=by
 have n:∀j,2≠j→(l.setIfInBounds 2 true).getD j false=l.getD j false:=λj hj=>qbF hj;refine⟨by simpa using h.z,?_,?_,?_,?_,?_,?_,?_,?_⟩
 all_goals simp only[n 0 (by decide),n 1 (by decide),n 3 (by decide),n 4 (by decide),n 5 (by decide),n 6 (by decide),n 7 (by decide),n 8 (by decide),n 9 (by decide)]
 ·exact h.u
 ·exact h.a0
 ·exact h.a1
 ·exact h.a5
 ·exactλk=>absurd (h.a7 k).1.2.1 (qj7 hu)
 ·exact h.d1
 ·exact h.d6
 ·exact h.ri.addL.imp (λ_=>trivial) id id id id
theorem GI.t3(h:GI w1 ss S p22 p27 l s22 s23 s24 s25 s26 s27 s28 s29 s7 w)(hu:l.getD 3 true=false):GI w1 ss S p22 p27 (l.setIfInBounds 3 true) s22 s23 s24 (.slice (some ⟨w.heap.size,0,none⟩) 1 1) s26 s27 s28 s29 s7 (w.alloc (.cells #[.int .i64 0] 3 (0,0))):=by
 have n:∀j,3≠j→(l.setIfInBounds 3 true).getD j false=l.getD j false:=λj hj=>qbF hj;refine⟨by simpa using h.z,?_,?_,?_,?_,?_,?_,?_,?_⟩
 all_goals simp only[n 0 (by decide),n 1 (by decide),n 2 (by decide),n 4 (by decide),n 5 (by decide),n 6 (by decide),n 7 (by decide),n 8 (by decide),n 9 (by decide)]
 ·exact h.u
 ·exact h.a0
 ·exact h.a1
 ·exact h.a5
 ·exactλk=>absurd (h.a7 k).1.2.2.1 (qj7 hu)
 ·exact h.d1
 ·exact h.d6
 ·exact h.ri.addS.imp id (λ_=>trivial) id id id
theorem GI.t4(h:GI w1 ss S p22 p27 l s22 s23 s24 s25 s26 s27 s28 s29 s7 w)(hu:l.getD 4 true=false):GI w1 ss S p22 p27 (l.setIfInBounds 4 true) s22 s23 s24 s25 (.slice (some ⟨w.heap.size,0,none⟩) 0 0) s27 s28 s29 s7 (w.alloc (.cells #[] 44 (0,0))):=by
 have n:∀j,4≠j→(l.setIfInBounds 4 true).getD j false=l.getD j false:=λj hj=>qbF hj;refine⟨by simpa using h.z,?_,?_,?_,?_,?_,?_,?_,?_⟩
 all_goals simp only[n 0 (by decide),n 1 (by decide),n 2 (by decide),n 3 (by decide),n 5 (by decide),n 6 (by decide),n 7 (by decide),n 8 (by decide),n 9 (by decide)]
 ·exact h.u
 ·exact h.a0
 ·exact h.a1
 ·exact h.a5
 ·exactλk=>absurd (h.a7 k).1.2.2.2.1 (qj7 hu)
 ·exact h.d1
 ·exact h.d6
 ·exact h.ri.addR.imp id id (λ_=>trivial) id id
theorem GI.t6{ge gn cn:Nat}(h:GI w1 ss S p22 p27 l s22 s23 s24 s25 s26 s27 s28 s29 s7 w)(hu:l.getD 6 true=false)(h5:l.getD 5 false=true)(o1:bO w w' (.slice (some ⟨ge,0,none⟩) 0 0) [])(o2:bO w w' (.slice (some ⟨gn,0,none⟩) (bR ss).length cn) (bR ss))(hne:ge≠gn)(hb:Below w.heap.size w w'):GI w1 ss S p22 p27 (l.setIfInBounds 6 true) s22 s23 s24 s25 s26 s27 (.agg #[.int .i64 (-1),.slice (some ⟨ge,0,none⟩) 0 0,.slice (some ⟨gn,0,none⟩) (bR ss).length cn,.int .i64 (dD ss)]) s29 s7 w':=by
 have n:∀j,6≠j→(l.setIfInBounds 6 true).getD j false=l.getD j false:=λj hj=>qbF hj;refine⟨by simpa using h.z,?_,?_,?_,?_,?_,?_,?_,?_⟩
 all_goals simp only[n 0 (by decide),n 1 (by decide),n 2 (by decide),n 3 (by decide),n 4 (by decide),n 5 (by decide),n 7 (by decide),n 8 (by decide),n 9 (by decide)]
 ·exact h.u
 ·exact h.a0
 ·exact h.a1
 ·exact h.a5
 ·exactλk=>absurd (h.a7 k).1.2.2.2.2 (qj7 hu)
 ·exact h.d1
 ·exactλ_=>h5
 ·exact(h.ri.addC o1 o2 hne hb).imp id id id (λ_=>trivial) id
theorem GI.t8(h:GI w1 ss S p22 p27 l s22 s23 s24 s25 s26 s27 s28 s29 s7 w):GI w1 ss S p22 p27 (l.setIfInBounds 8 true) s22 s23 s24 s25 s26 s27 s28 s29 (.pointer (some ⟨w.heap.size,0,none⟩)) (w.alloc ZT):=by
 have n:∀j,8≠j→(l.setIfInBounds 8 true).getD j false=l.getD j false:=λj hj=>qbF hj;refine⟨by simpa using h.z,?_,?_,?_,?_,?_,?_,?_,?_⟩
 all_goals simp only[n 0 (by decide),n 1 (by decide),n 2 (by decide),n 3 (by decide),n 4 (by decide),n 5 (by decide),n 6 (by decide),n 7 (by decide),n 9 (by decide)]
 ·exact h.u
 ·exact h.a0
 ·exact h.a1
 ·exact h.a5
 ·exact h.a7
 ·exact h.d1
 ·exact h.d6
 ·exact h.ri.addB.imp id id id id (λ_=>trivial)
theorem GI.t7{ge gn cn:Nat}(h:GI w1 ss S p22 p27 l s22 (.int .i64 (S:Int)) s24 s25 s26 s27 (.agg #[.int .i64 (-1),.slice (some ⟨ge,0,none⟩) 0 0,.slice (some ⟨gn,0,none⟩) (bR ss).length cn,.int .i64 (dD ss)]) s29 s7 w)(h1:l.getD 1 false=true)(h2:l.getD 2 false=true)(h3:l.getD 3 false=true)(h4:l.getD 4 false=true)(h6:l.getD 6 false=true):GI w1 ss S p22 p27 (l.setIfInBounds 7 true) s22 (.int .i64 (S:Int)) s24 s25 s26 s27 (.agg #[.int .i64 (-1),.slice (some ⟨ge,0,none⟩) 0 0,.slice (some ⟨gn,0,none⟩) (bR ss).length cn,.int .i64 (dD ss)]) (.agg #[.int .i64 (S:Int),s24,s25,s26,.int .i64 (-1),.slice (some ⟨ge,0,none⟩) 0 0,.slice (some ⟨gn,0,none⟩) (bR ss).length cn,.int .i64 (dD ss)]) s7 w:=by
 have n:∀j,7≠j→(l.setIfInBounds 7 true).getD j false=l.getD j false:=λj hj=>qbF hj;refine⟨by simpa using h.z,?_,?_,?_,?_,?_,?_,?_,?_⟩
 all_goals simp only[n 0 (by decide),n 1 (by decide),n 2 (by decide),n 3 (by decide),n 4 (by decide),n 5 (by decide),n 6 (by decide),n 8 (by decide),n 9 (by decide)]
 ·exact h.u
 ·exact h.a0
 ·exactλ_=>trivial
 ·exact h.a5
 ·exactλ_=>⟨⟨h1,h2,h3,h4,h6⟩,ge,gn,cn,rfl,rfl⟩
 ·exact h.d1
 ·exact h.d6
 ·exact h.ri
theorem GI.all(h:GI w1 ss S p22 p27 l s22 s23 s24 s25 s26 s27 s28 s29 s7 w)(h7:l.getD 7 false=true)(h8:l.getD 8 false=true):l.setIfInBounds 9 true=Array.replicate 10 true:=by
 obtain⟨h1,h2,h3,h4,h6⟩:=(h.a7 h7).1;have h0:=h.d1 h1;have h5:=h.d6 h6;have z:=h.z;apply Array.ext
 ·simp[z]
 ·intro i hi hj
  have hi10:i<10:=by simpa[z]using hi
  have g:i<l.size:=by omega
  rcases(show i=0∨i=1∨i=2∨i=3∨i=4∨i=5∨i=6∨i=7∨i=8∨i=9 by omega)with rfl|rfl|rfl|rfl|rfl|rfl|rfl|rfl|rfl|rfl
  all_goals simp_all
end
end Go.Proofs.YtiimkhepplkocaaGreat
