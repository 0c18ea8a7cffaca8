import Derived.OrdersHeld
import Derived.Deep.RegionHeld3
import Derived.Test.YtiimkhepplkocaaGreatWa
import Derived.Test.YtiimkhepplkocaaGreatP2
import Derived.Test.YtiimkhepplkocaaGreatVb
import Derived.Carry
set_option maxRecDepth 100000
set_option maxHeartbeats 16000000
namespace Go.Proofs.YtiimkhepplkocaaGreat
open Go
section
variable {P:Program} {ops:Array Oper} {Q:Exit→Act→World→Prop} {md:Region.Mode} {S:World→Prop}
def vE(P:Program)(md:Region.Mode)(ops:Array Oper)(Q:Exit→Act→World→Prop)(S:World→Prop)(st fuel:Nat)(listed:Array Bool)(a:Act)(w:World):Prop:=
 match fuel with
 |0=>Region.ready md ops listed=[]∧Q .normal a w
 |n+1=>(Region.ready md ops listed=[]→Q .normal a w)∧∀i∈Region.ready md ops listed,
   wpOp P ops Q i (λb u=>((listed.setIfInBounds i true).getD st true=false→S u)∧vE P md ops Q S st n (listed.setIfInBounds i true) b u) a w
theorem qMM{st fuel:Nat}{listed:Array Bool}{a:Act}{w:World}(h:vE P md ops Q S st fuel listed a w):wpAny P md ops Q fuel listed a w:=by
 induction fuel generalizing listed a w with
 |zero=>exact h
 |succ n ih=>exact⟨h.1,λi hi=>wpOp_mono (λ_ _ k=>ih k.2) (h.2 i hi)⟩
def qhO(md:Region.Mode)(ops:Array Oper)(st i:Nat):Bool:=match ops[st]? with|some o=>o.after.any (λe=>Region.binds md e&&decide (e.on=i))|none=>false
theorem qpU{i j:Nat}{listed:Array Bool}(hi:i∈Region.ready md ops listed)(hj:j∈Region.ready md ops listed):qhO md ops j i=false:=by
 obtain⟨_,oj,hoj,hall⟩:=mem_ready.1 hj;cases h:qhO md ops j i with
 |false=>rfl
 |true=>
  unfold qhO at h;rw[hoj]at h;obtain⟨e,he,h2⟩:=Array.any_eq_true'.1 h;simp only[Bool.and_eq_true,decide_eq_true_eq]at h2;have k1:=hall e he h2.1;have k0:=(mem_ready.1 hi).1;rw[h2.2]at k1;by_cases hs:i<listed.size
  ·simp[hs]at k0 k1
   rw[k0]at k1;cases k1
  ·simp[Array.getElem?_eq_none (Nat.le_of_not_lt hs)]at k1
def Beside(md:Region.Mode)(ops:Array Oper)(i:Nat)(oi:Oper)(listed:Array Bool):Prop:=
 ∀j oj,ops[j]? =some oj→j≠i→listed.getD j true=false→(∀e∈oj.after,Region.binds md e=true→e.on≠i)→oi.apart ops oj=true
theorem Beside.next{i j:Nat}{oi:Oper}{listed:Array Bool}(h:Beside md ops i oi listed):Beside md ops i oi (listed.setIfInBounds j true):=by
 intro k ok hk hki hun hno;refine h k ok hk hki ?_ hno;by_cases e:j=k
 ·subst e
  by_cases hs:j<listed.size
  ·simp[hs]at hun
  ·simp[hs]at hun
 ·rwa[getD_set_ne true e]at hun
theorem qMN{st i:Nat}{oi:Oper}{v:Value}(hi:ops[i]? =some oi)(hsel:∀(j:Nat) (o:Oper) cs b,ops[j]? =some o→o.op≠.select cs b)
  (hQ:∀c a w,Q (.panic c) (a.put oi.dst v) w→Q (.panic c) a w) (hst:qhO md ops st i=true) {fuel:Nat} {listed:Array Bool} {a:Act} {w:World}
  (hfree:Beside md ops i oi listed) (hr:i∈Region.ready md ops listed) (hl:listed.getD st true=false) (hy:YieldsIf P ops S oi v a) (hS:S w)
  (H:vE P md ops Q S st fuel (listed.setIfInBounds i true) (a.put oi.dst v) w):vE P md ops Q S st (fuel+1) listed a w:=by
 induction fuel generalizing listed a w with
 |zero=>
  refine⟨λh=>by simp[h]at hr,λj hj=>?_⟩;by_cases e:j=i
  ·exact e ▸ hy.wpOp hi hS ⟨λ_=>hS,H⟩
  ·exact absurd (ready_mono hj e) (by rw[H.1];simp)
 |succ n ih=>
  refine⟨λh=>by simp[h]at hr,λj hj=>?_⟩;by_cases e:j=i
  ·exact e ▸ hy.wpOp hi hS ⟨λ_=>hS,H⟩
  have his:i≠st:=λh=>by have:=qpU hr hr;rw[←h]at hst;rw[hst]at this;cases this
  have hjs:j≠st:=λh=>by have:=qpU hr hj;rw[h,hst]at this;cases this
  obtain⟨hjun,oj,hoj,_⟩:=mem_ready.1 hj;have hno:∀x∈oj.after,Region.binds md x=true→x.on≠i:=λx hx hb hon=>by
   have h:=qpU hr hj;unfold qhO at h;rw[hoj]at h;have:=Array.any_eq_false'.1 h x hx;simp[hb,hon]at this
  refine wpOp_mono (λb u k=>?_) (wpOp_putIf hoj (hfree j oj hoj e hjun hno) (λcs b=>hsel i oi cs b hi) (λcs b=>hsel j oj cs b hoj) hQ hy (H.2 j (ready_mono hj e)));have hu:S u:=k.2.1 (by rw[getD_set_ne true hjs,getD_set_ne true his];exact hl);refine⟨λ_=>hu,ih hfree.next (ready_mono hr (Ne.symm e)) (by rw[getD_set_ne true hjs];exact hl) k.1 hu ?_⟩;rw[Array.setIfInBounds_comm _ _ e];exact k.2.2
theorem cX{st i:Nat}{oi:Oper}{d:Option Nat}{v:Value}{fuel:Nat}{listed:Array Bool}{a:Act}{w:World}(hi:ops[i]? =some oi)(hd:oi.dst=d)
  (hs:Region.noSelect ops=true) (hf:Region.free md ops listed i=true) (hr:(Region.ready md ops listed).contains i=true) (hst:qhO md ops st i=true) (hl:listed.getD st true=false)
  (hQ:∀c a w,Q (.panic c) (a.put d v) w→Q (.panic c) a w) (hy:YieldsIf P ops S oi v a) (hS:S w)
  (h:vE P md ops Q S st fuel (listed.setIfInBounds i true) (a.put d v) w):vE P md ops Q S st (fuel+1) listed a w:=by
 subst hd;exact qMN hi (Region.noSelect_spec hs) hQ hst (Region.free_spec hi hf) (by simpa using hr) hl hy hS h
theorem qj8{st i:Nat}{o:Oper}{fuel:Nat}{listed:Array Bool}{a:Act}{w:World}(hr:Region.ready md ops listed=[i])(ho:ops[i]? =some o)
  (h:∀K:Act→World→Prop,(∀b u,S u→vE P md ops Q S st fuel (listed.setIfInBounds i true) b u→K b u)→if Region.wanted o (yielded ops a.tmps)=true then Oper.wp P o a w K Q else K (a.put o.dst undef) w):vE P md ops Q S st (fuel+1) listed a w:=by
 refine⟨λe=>absurd (hr ▸ e) (by simp),λj hj=>?_⟩;rw[hr]at hj;obtain rfl:j=i:=by simpa using hj
 have h1:=h (λb u=>((listed.setIfInBounds j true).getD st true=false→S u)∧vE P md ops Q S st fuel (listed.setIfInBounds j true) b u) (λb u hS ht=>⟨λ_=>hS,ht⟩);unfold wpOp;rw[ho];dsimp only;split
 ·rename_i hw;rw[if_pos hw]at h1;exact .inl h1
 ·rename_i hw;rw[if_neg hw]at h1;exact h1
theorem qzB{st:Nat}{o:Oper}{fuel:Nat}{listed:Array Bool}{a:Act}{w:World}(hr:Region.ready md ops listed=[st])(ho:ops[st]? =some o)(hn:(listed.setIfInBounds st true).getD st true=true)
  (h:∀K:Act→World→Prop,(∀b u,vE P md ops Q S st fuel (listed.setIfInBounds st true) b u→K b u)→if Region.wanted o (yielded ops a.tmps)=true then Oper.wp P o a w K Q else K (a.put o.dst undef) w):vE P md ops Q S st (fuel+1) listed a w:=by
 refine⟨λe=>absurd (hr ▸ e) (by simp),λj hj=>?_⟩;rw[hr]at hj;obtain rfl:j=st:=by simpa using hj
 have h1:=h (λb u=>((listed.setIfInBounds j true).getD j true=false→S u)∧vE P md ops Q S j fuel (listed.setIfInBounds j true) b u) (λb u ht=>⟨λe=>absurd (hn.symm.trans e) (by simp),ht⟩);unfold wpOp;rw[ho];dsimp only;split
 ·rename_i hw;rw[if_pos hw]at h1;exact .inl h1
 ·rename_i hw;rw[if_neg hw]at h1;exact h1
theorem qzA{st:Nat}{listed:Array Bool}{a:Act}{w:World}(hr:Region.ready md ops listed=[])(h:Q .normal a w)(fuel:Nat):vE P md ops Q S st fuel listed a w:=by
 cases fuel with
 |zero=>exact⟨hr,h⟩
 |succ n=>exact⟨λ_=>h,by simp[hr]⟩
theorem qzD{id st:Nat}{a:Act}{w:World}(hm:P.follows .mixedOrders=true)(h:vE P .any ops Q S st ops.size (Array.replicate ops.size false) a w.drew):(Code.region id ops true).wp P Q a w:=
 wp_region_any hm (qMM h)
end
end Go.Proofs.YtiimkhepplkocaaGreat
namespace Go.Proofs.YtiimkhepplkocaaGreat
open Go.RowKit Go.Sort
set_option linter.unusedVariables false
attribute [local go_sem ↓] Go.wp_at_zero Go.wp_at_succ
theorem qD5{ss:List StD}{tn:Nat}{lim:Bool}(h:(bN ss tn lim).1=0):bN ss tn lim=(0,0):=by
 unfold bN at h⊢;by_cases hc:1≤ss.length∧ss.length≤200∧tn≤500∧lim=true
 ·rw[if_pos hc]at h⊢
  cases h1:sO (cY ss) ss.length with
  |some i=>simp[h1]at h
  |none=>
   cases h2:sO (uE ss) ss.length with
   |some i=>simp[h1,h2]at h
   |none=>
    cases h3:sO (gI ss) ss.length with
    |some i=>simp[h1,h2,h3]at h
    |none=>simp
 ·rw[if_neg hc]at h
  simp at h
structure Chk (ss:List StD) (ts:List TrD) (l:aE):Prop where
 flt:bN ss ts.length (bC l)=(0,0)
 good:uH ss ts.length
 lim:cO l
 ent:∀i,i<ss.length→∃vs,dJ l (ss.getD i st0).entry=some vs
 ext:∀i,i<ss.length→∃vs,dJ l (ss.getD i st0).exit=some vs
 src:∀j,j<ts.length→0≤(ts.getD j tr0).src∧(ts.getD j tr0).src<ss.length
 sig:∀j,j<ts.length→0≤(ts.getD j tr0).sig∧(ts.getD j tr0).sig<l.s
 tgt:∀j,j<ts.length→-1≤(ts.getD j tr0).target∧(ts.getD j tr0).target<ss.length
 grd:∀j,j<ts.length→(ts.getD j tr0).guard=[]∨((ts.getD j tr0).guard≠[]∧∃t,aV (ts.getD j tr0).guard l.v=some t)
 act:∀j,j<ts.length→∃vs,dJ l (ts.getD j tr0).action=some vs
theorem yI{ss:List StD}{ts:List TrD}{l:aE}(h:(bJ ss ts l).1=0):Chk ss ts l:=by
 have f0:(bN ss ts.length (bC l)).1=0:=by
  by_cases c:(bN ss ts.length (bC l)).1=0
  ·exact c
  ·unfold bJ at h;rw[if_neg c]at h;exact h
 have lm:cO l:=by
  unfold bN at f0;split at f0
  ·rename_i hc;have:=hc.2.2.2;unfold bC at this;exact of_decide_eq_true this
  ·simp at f0
 unfold bJ at h;rw[if_pos f0]at h;cases e1:sO (uI l ss) ss.length with
 |some i=>rw[e1]at h;simp at h
 |none=>
  rw[e1]at h;simp only at h;cases e2:sO (uJ ss.length l ts) ts.length with
  |some j=>rw[e2]at h;simp at h
  |none=>
   have hA:=qjB e1;have hT:=qjB e2;have tr:∀j,j<ts.length→dN ss.length l (ts.getD j tr0)=true:=λj hj=>by
    have:=hT j hj;unfold uJ at this;simpa using this
   have un:∀j,j<ts.length→aQ (ts.getD j tr0).src 0 ((ss.length:Int)-1)=true∧aQ (ts.getD j tr0).sig 0 (l.s-1)=true∧aQ (ts.getD j tr0).target (-1) ((ss.length:Int)-1)=true∧qa8 l (ts.getD j tr0).guard=true∧cK l (ts.getD j tr0).action=true:=λj hj=>by
    have:=tr j hj;unfold dN at this;simpa only[Bool.and_eq_true]using this
   have some_of:∀x,cK l x=true→∃vs,dJ l x=some vs:=λx hx=>Option.isSome_iff_exists.1 (by rw[qh2];exact hx);have st:∀i,i<ss.length→cK l (ss.getD i st0).entry=true∧cK l (ss.getD i st0).exit=true:=λi hi=>by
    have:=hA i hi;unfold uI at this;simpa only[Bool.not_eq_false',Bool.and_eq_true]using this
   refine⟨qD5 f0,qoS f0,lm,λi hi=>some_of _ (st i hi).1,λi hi=>some_of _ (st i hi).2,λj hj=>?_,λj hj=>?_,λj hj=>?_,λj hj=>?_,λj hj=>some_of _ (un j hj).2.2.2.2⟩
   ·have:=(un j hj).1;unfold aQ at this;have:=of_decide_eq_true this;omega
   ·have:=(un j hj).2.1;unfold aQ at this;have:=of_decide_eq_true this;omega
   ·have:=(un j hj).2.2.1;unfold aQ at this;have:=of_decide_eq_true this;omega
   ·have:=(un j hj).2.2.2.1
    unfold qa8 at this;rw[Bool.or_eq_true,decide_eq_true_iff]at this;by_cases c:(ts.getD j tr0).guard=[]
    ·exact .inl c
    ·refine .inr ⟨c,?_⟩
     rcases this with h1|h1
     ·exact absurd (List.length_eq_zero_iff.1 h1) c
     ·exact Option.isSome_iff_exists.1 (by rw[qjP];exact h1)
structure Turn (S:Nat→Prop) (B:Nat) (w w':World):Prop where
 os:w'.os=w.os
 tape:w'.tape=w.tape
 output:w'.output=w.output
 size:w.heap.size≤w'.heap.size
 low:∀k,k<B→k<w.heap.size→w'.heap[k]? =w.heap[k]?
 other:∀(k:Nat) (cs:Array Value) (t:TypeId) (fr:Nat×Nat),w.heap[k]? =some (Obj.cells cs t fr)→¬S t→w'.heap[k]? =w.heap[k]?
 rest:∀(k:Nat) (ob:Obj),w.heap[k]? =some ob→(∀cs t fr,ob≠Obj.cells cs t fr)→w'.heap[k]? =w.heap[k]?
theorem Turn.trans{S:Nat→Prop}{B:Nat}{a b c:World}(h:Turn S B a b)(k:Turn S B b c):Turn S B a c:=
 ⟨k.os.trans h.os,k.tape.trans h.tape,k.output.trans h.output,Nat.le_trans h.size k.size,λi hi hs=>(k.low i hi (Nat.lt_of_lt_of_le hs h.size)).trans (h.low i hi hs),
  λi cs t fr e h1=>(k.other i cs t fr ((h.other i cs t fr e h1).trans e) h1).trans (h.other i cs t fr e h1),
  λi ob e h1=>(k.rest i ob ((h.rest i ob e h1).trans e) h1).trans (h.rest i ob e h1)⟩
theorem Turn.of_below{S:Nat→Prop}{B:Nat}{a b:World}(h:Below a.heap.size a b):Turn S B a b:=⟨h.os,h.tape,h.output,h.size,λi _ hs=>h.block i hs,λi _ _ _ e _=>h.block i (lt_of_block e),λi _ e _=>h.block i (lt_of_block e)⟩
theorem Turn.below{S:Nat→Prop}{B:Nat}{w w':World}(h:Turn S B w w')(hB:B≤w.heap.size):Below B w w':=⟨h.os,h.tape,h.output,h.size,λk hk=>h.low k hk (by omega)⟩
theorem Turn.set{S:Nat→Prop}{B:Nat}{w:World}{H o:Nat}{cs:Array Value}{t:TypeId}(hH:w.heap[H]? =some (.cells cs t (0,0)))(ht:S t)(hB:B≤H)(u:Value):Turn S B w (w.setCell ⟨H,o,none⟩ u):=by
 refine⟨rfl,rfl,rfl,by simp,λk hk _=>Below.heap_setCell _ _ _ _ (show k≠H by omega),λk cs' t' fr e h1=>Below.heap_setCell _ _ _ _ ?_,λk ob e h1=>Below.heap_setCell _ _ _ _ ?_⟩
 ·show k≠H
  rintro rfl;rw[hH]at e;simp at e;obtain⟨_,rfl,_⟩:=e;exact h1 ht
 ·show k≠H
  rintro rfl;rw[hH]at e;simp at e;exact h1 _ _ _ e.symm
theorem Turn.box{S:Nat→Prop}{B:Nat}{w w':World}{H:Nat}{cs:Array Value}{t:TypeId}{fr:Nat×Nat}(h:Turn S B w w')(hb:w.heap[H]? =some (.cells cs t fr))(h1:¬S t):w'.heap[H]? =some (.cells cs t fr):=(h.other H cs t fr hb h1).trans hb
theorem Turn.own{S:Nat→Prop}{B B2:Nat}{w w':World}{e:TypeId}{size:Nat}{v:Value}{n:Nat}{xs:List Value}(h:Turn S B w w')(ho:w.ownsRow B2 e size v n xs)(h1:¬S e):w'.ownsRow B2 e size v n xs:=by
 refine⟨ho.1,?_⟩;rcases ho.2 with h0|⟨g,cap,cur,k1,k2,k3,k4⟩
 ·exact .inl h0
 ·exact .inr ⟨g,cap,cur,k1,k2,h.box k3 h1,k4⟩
theorem Turn.grown{S:Nat→Prop}{B:Nat}{X w2:World}{e:TypeId}{size:Nat}{v:Value}{n:Nat}{xs:List Value}(ho:X.ownsRow B e size v n xs)(hS:S e)(hg:X.grownBy w2 v.ownBlock):Turn S B X w2:=by
 have key:∀k ob,X.heap[k]? =some ob→some k=v.ownBlock→B≤k∧∃cs fr,ob=.cells cs e fr:=by
  intro k ob e1 e2;rcases ho.2 with⟨h0,_⟩|⟨g,cap,cur,k1,k2,k3,k4⟩
  ·rw[h0]at e2;cases e2
  ·rw[k1]at e2
   simp[Value.ownBlock]at e2;subst e2;rw[e1]at k3;simp at k3;exact⟨k2,_,_,k3⟩
 refine⟨hg.os,hg.tape,hg.output,hg.size,λk hk hs=>hg.block k hs ?_,λk cs t fr e1 h1=>hg.block k (lt_of_block e1) ?_,λk ob e1 h1=>hg.block k (lt_of_block e1) ?_⟩
 ·intro e2
  obtain⟨h,_⟩:=key k _ (Array.getElem?_eq_getElem hs) e2;omega
 ·intro e2
  obtain⟨_,cs',fr',h⟩:=key k _ e1 e2;simp at h;exact h1 (by rw[h.2.1];exact hS)
 ·intro e2
  obtain⟨_,cs',fr',h⟩:=key k _ e1 e2;exact h1 _ _ _ h
def GuardAt(X:World)(B:Nat)(v:Int)(its:List (Int×Int))(g:Value):Prop:=
 (its=[]∧g=.func (.func 178) #[] #[])∨(its≠[]∧∃t P,aV its v=some t∧g=.func (.func 179) #[] #[.pointer (some ⟨P,0,none⟩)]∧B≤P∧X.heap[P]? =some (.cells #[tv t] 138 (0,0)))
theorem GuardAt.form{X:World}{B:Nat}{v:Int}{its:List (Int×Int)}{g:Value}(h:GuardAt X B v its g):∃fn cp,g=.func fn #[] cp:=by
 rcases h with⟨_,h⟩|⟨_,t,P,_,h,_⟩<;>exact⟨_,_,h⟩
theorem GuardAt.base{X:World}{B B':Nat}{v:Int}{its:List (Int×Int)}{g:Value}(h:GuardAt X B v its g)(hB:B'≤B):GuardAt X B' v its g:=by
 rcases h with h|⟨h0,t,P,h1,h2,h3,h4⟩
 ·exact .inl h
 ·exact .inr ⟨h0,t,P,h1,h2,Nat.le_trans hB h3,h4⟩
theorem GuardAt.below{X Y:World}{B:Nat}{v:Int}{its:List (Int×Int)}{g:Value}(h:GuardAt X B v its g)(hb:Below X.heap.size X Y):GuardAt Y B v its g:=by
 rcases h with h|⟨h0,t,P,h1,h2,h3,h4⟩
 ·exact .inl h
 ·exact .inr ⟨h0,t,P,h1,h2,h3,aA h4 hb⟩
theorem GuardAt.turn{S:Nat→Prop}{X Y:World}{B B2:Nat}{v:Int}{its:List (Int×Int)}{g:Value}(h:GuardAt X B v its g)(ht:Turn S B2 X Y)(hS:¬S 138):GuardAt Y B v its g:=by
 rcases h with h|⟨h0,t,P,h1,h2,h3,h4⟩
 ·exact .inl h
 ·exact .inr ⟨h0,t,P,h1,h2,h3,ht.box h4 hS⟩
theorem qEJ(ao:Option Addr)(n c:Nat)(its:List (Int×Int))(v:Int)(w:World)(hn:n≤9223372036854775807)(hs:ItemsOf w ao n its)(hg:its=[]∨(its≠[]∧∃t,aV its v=some t)):
  Calls Tryz.prog 142 #[.slice ao n c,.int .i64 v] w λe w'=>∃g,e=.returned g∧GuardAt w' w.heap.size v its g∧Below w.heap.size w w':=by
 rcases hg with h0|⟨h0,t,ht⟩
 ·subst h0
  have hn0:n=0:=by have:=hs.1;simp at this;omega
  subst hn0;clear hs;go_enter Tryz.func142,Tryz.ntmps142;go_wp2;go_ret;exact⟨_,rfl,.inl ⟨rfl,rfl⟩,Below.refl _ _⟩
 ·have hmf:∀(fn:Fn) (first cap:Array Value) (w:World),(Instr.makeFunc fn first cap).run Tryz.prog w=.ok (.func fn first cap) w:=λ_ _ _ _=>rfl
  have hn0:((n:Int)==0)=false:=by
   have h1:n≠0:=by have:=hs.1;intro e;rw[e]at this;exact h0 (List.length_eq_zero_iff.1 this)
   simpa using h1
  have L:=hid (yL ao n c its v w hn hs);rw[ht]at L;unfold dH at L;obtain⟨y,x,hyx⟩:=cL t;simp only[hyx]at L;have HV:=hid hyx;clear hyx;have H0:=hid h0;have HT:=hid ht;clear hs ht h0;go_enter Tryz.func142,Tryz.ntmps142;go_wp2_with(go_at_call 64;refine L.out.mono ?_;rintro e w1 ⟨rfl,hb1⟩;have B1:=hid hb1;clear hb1);go_ret;exact⟨_,rfl,.inr ⟨H0.out,t,w1.heap.size,HT.out,rfl,B1.out.size,by rw[HV.out];exact heap_alloc_new w1 _⟩,B1.out.alloc B1.out.size _⟩
end Go.Proofs.YtiimkhepplkocaaGreat
namespace Go.Proofs.YtiimkhepplkocaaGreat
open Go.RowKit Go.Sort
set_option linter.unusedVariables false
attribute [local go_sem ↓] Go.wp_at_zero Go.wp_at_succ
theorem qGG(so tq:Option Addr)(n sc tn tc:Nat)(ss:List StD)(ts:List TrD)(o s t v:Int)(hC:Chk ss ts ⟨o,s,t,v⟩)(w:World)(hs:StatesOf w so n ss)(hl:ts.length=tn):
  Calls Tryz.prog 139 #[.agg #[.slice so n sc,.slice tq tn tc],.agg #[.int .i64 o,.int .i64 s,.int .i64 t,.int .i64 v]] w λe w'=>∃N tg tcap,e=.returned (.tuple #[.slice (some ⟨tg,0,none⟩) n tcap,.int .i64 0,.int .i64 0])∧NodesI w' N ss n∧NodeB w' N n∧w'.ownsRow w.heap.size 110 1 (.slice (some ⟨tg,0,none⟩) n tcap) n (b8 N (List.range n))∧Below w.heap.size w w':=by
 have hn:=hs.1;have n1:=hC.good.n1;have n2:=hC.good.n2;have t2:=hC.good.tn;refine(qxR so tq n sc tn tc ss o s t v w (by omega) (by omega) hs).mono ?_;have hf:=hC.flt;rw[hl]at hf;rw[hf];rintro e w' ⟨hb,h|⟨_,N,tv,rfl,hN,hNB,hT⟩⟩
 ·exact absurd rfl h.1
 ·rw[hn]at hN hNB hT
  obtain⟨tg,tcap,rfl,_,_⟩:=World.ownsRow.form hT (by omega);exact⟨N,tg,tcap,rfl,hN,hNB,hT,hb⟩
structure Mac (X:World) (B mb:Nat) (tv ev xv lv mv:Value) (E F:List Value):Prop where
 box:X.heap[mb]? =some (.cells #[tv,ev,xv,lv,mv] 109 (0,0))
 hB:B≤mb
 e:X.ownsRow B 118 1 ev E.length E
 x:X.ownsRow B 118 1 xv F.length F
 ne:∀b,ev.ownBlock=some b→xv.ownBlock≠some b
theorem Mac.below{X Y:World}{B mb:Nat}{tv ev xv lv mv:Value}{E F:List Value}(h:Mac X B mb tv ev xv lv mv E F)(hb:Below X.heap.size X Y):Mac Y B mb tv ev xv lv mv E F:=
 ⟨aA h.box hb,h.hB,aI h.e hb,aI h.x hb,h.ne⟩
def S1(t:Nat):Prop:=t=118∨t=109
theorem qGS{X Y Z:World}{B mb g cap:Nat}{tv ev xv lv mv sv:Value}{E F:List Value}(h:Mac X B mb tv ev xv lv mv E F)(hb:Below X.heap.size X Y)(hg:Y.grownBy Z ev.ownBlock)
  (ho:Z.ownsRow B 118 1 (.slice (some ⟨g,0,none⟩) (E.length+1) cap) (E.length+1) (E++[sv])) (hat:ev.ownBlock=some g∨g=Y.heap.size):
  Mac (Z.setCell ⟨mb,1,none⟩ (.slice (some ⟨g,0,none⟩) (E.length+1) cap)) B mb tv (.slice (some ⟨g,0,none⟩) (E.length+1) cap) xv lv mv (E++[sv]) F∧Turn S1 B X (Z.setCell ⟨mb,1,none⟩ (.slice (some ⟨g,0,none⟩) (E.length+1) cap)):=by
 have hY:=h.below hb;have bY:=hY.box;have nm:=aJ hY.e (by decide) bY;have bZ:Z.heap[mb]? =_:=(hg.block mb (lt_of_block bY) (λe=>nm e.symm)).trans bY;have oZ:Z.ownsRow B 118 1 xv F.length F:=qhG hY.x (λb hbl e=>hg.block b hbl (λe3=>h.ne b e3.symm e));have nn:∀b,(Value.slice (some ⟨g,0,none⟩) (E.length+1) cap).ownBlock=some b→xv.ownBlock≠some b:=by
  intro b e1 e2;simp[Value.ownBlock]at e1;subst e1;rcases hat with h1|h1
  ·exact h.ne g h1 e2
  ·have:=(hY.x.lt g e2).2
   omega
 refine⟨⟨?_,h.hB,?_,?_,nn⟩,((Turn.of_below hb).trans (Turn.grown hY.e (.inl rfl) hg)).trans (Turn.set bZ (.inr rfl) h.hB _)⟩
 ·rw[heap_setCell_same Z mb 1 _ _ _ bZ];simp
 ·rw[List.length_append];exact ownsRow_setCell_other ho (aJ ho (by decide) bZ) _
 ·exact ownsRow_setCell_other oZ (aJ oZ (by decide) bZ) _
theorem qGT{X Y Z:World}{B mb g cap:Nat}{tv ev xv lv mv sv:Value}{E F:List Value}(h:Mac X B mb tv ev xv lv mv E F)(hb:Below X.heap.size X Y)(hg:Y.grownBy Z xv.ownBlock)
  (ho:Z.ownsRow B 118 1 (.slice (some ⟨g,0,none⟩) (F.length+1) cap) (F.length+1) (F++[sv])) (hat:xv.ownBlock=some g∨g=Y.heap.size):
  Mac (Z.setCell ⟨mb,2,none⟩ (.slice (some ⟨g,0,none⟩) (F.length+1) cap)) B mb tv ev (.slice (some ⟨g,0,none⟩) (F.length+1) cap) lv mv E (F++[sv])∧Turn S1 B X (Z.setCell ⟨mb,2,none⟩ (.slice (some ⟨g,0,none⟩) (F.length+1) cap)):=by
 have hY:=h.below hb;have bY:=hY.box;have nm:=aJ hY.x (by decide) bY;have bZ:Z.heap[mb]? =_:=(hg.block mb (lt_of_block bY) (λe=>nm e.symm)).trans bY;have oZ:Z.ownsRow B 118 1 ev E.length E:=qhG hY.e (λb hbl e=>hg.block b hbl (λe3=>h.ne b e e3.symm));have nn:∀b,ev.ownBlock=some b→(Value.slice (some ⟨g,0,none⟩) (F.length+1) cap).ownBlock≠some b:=by
  intro b e1 e2;simp[Value.ownBlock]at e2;subst e2;rcases hat with h1|h1
  ·exact h.ne g e1 h1
  ·have:=(hY.e.lt g e1).2
   omega
 refine⟨⟨?_,h.hB,?_,?_,nn⟩,((Turn.of_below hb).trans (Turn.grown hY.x (.inl rfl) hg)).trans (Turn.set bZ (.inr rfl) h.hB _)⟩
 ·rw[heap_setCell_same Z mb 2 _ _ _ bZ];simp
 ·exact ownsRow_setCell_other oZ (aJ oZ (by decide) bZ) _
 ·rw[List.length_append];exact ownsRow_setCell_other ho (aJ ho (by decide) bZ) _
theorem NodesI.turn{S:Nat→Prop}{B:Nat}{X Y:World}{N:Nat→Nat}{ss:List StD}{n:Nat}(h:NodesI X N ss n)(hB:NodeB X N n)(ht:Turn S B X Y)(hS:¬S 113):NodesI Y N ss n∧NodeB Y N n:=by
 have blk:∀k,k<n→Y.heap[N k]? =X.heap[N k]?:=λk hk=>by
  obtain⟨cs,hc⟩:=hB k hk;exact(ht.box hc hS).trans hc.symm
 have cel:∀k o,k<n→Y.cell? ⟨N k,o,none⟩=X.cell? ⟨N k,o,none⟩:=λk o hk=>by
  simp only[World.cell?];rw[blk k hk]
 refine⟨⟨λk hk=>?_,λk hk=>(cel k 2 hk).trans (h.2 k hk)⟩,λk hk=>?_⟩
 ·obtain⟨h1,h2,h3⟩:=h.1 k hk
  exact⟨Nat.lt_of_lt_of_le h1 ht.size,(cel k 0 hk).trans h2,(cel k 1 hk).trans h3⟩
 ·obtain⟨cs,hc⟩:=hB k hk
  exact⟨cs,ht.box hc hS⟩
theorem qyL{S:Nat→Prop}{B:Nat}{X Y:World}{b n:Nat}{T:TypeId}{f:Nat→Value}(h:X.rowIs b T n f)(ht:Turn S B X Y)(hS:¬S T):Y.rowIs b T n f:=by
 obtain⟨c,h1,h2,h3⟩:=h;exact⟨c,ht.box h1 hS,h2,h3⟩
structure MB (w:World) (cx lx:Array Value) (N:Nat→Nat) (tg tcap:Nat) (ss:List StD) (n mp:Nat) (X:World):Prop where
 bel:Below w.heap.size w X
 ch:X.heap[w.heap.size]? =some (.cells cx 36 (0,0))
 li:X.heap[w.heap.size+1]? =some (.cells lx 40 (0,0))
 nd:NodesI X N ss n
 nb:NodeB X N n
 tr:X.ownsRow w.heap.size 110 1 (.slice (some ⟨tg,0,none⟩) n tcap) n (b8 N (List.range n))
 mp:X.heap[mp]? =some (.map #[] 0)
theorem MB.turn{S:Nat→Prop}{B:Nat}{w:World}{cx lx:Array Value}{N:Nat→Nat}{tg tcap:Nat}{ss:List StD}{n mp:Nat}{X Y:World}(h:MB w cx lx N tg tcap ss n mp X)(ht:Turn S B X Y)(hB:w.heap.size≤B)(h1:¬S 36)(h2:¬S 40)(h3:¬S 113)(h4:¬S 110):MB w cx lx N tg tcap ss n mp Y:=by
 have hn:=h.nd.turn h.nb ht h3;exact⟨h.bel.trans ⟨ht.os,ht.tape,ht.output,ht.size,λk hk=>ht.low k (by omega) (Nat.lt_of_lt_of_le hk h.bel.size)⟩,ht.box h.ch h1,ht.box h.li h2,hn.1,hn.2,ht.own h.tr h4,(ht.rest _ _ h.mp (λ_ _ _ e=>by cases e)).trans h.mp⟩
theorem MB.below{w:World}{cx lx:Array Value}{N:Nat→Nat}{tg tcap:Nat}{ss:List StD}{n mp:Nat}{X Y:World}(h:MB w cx lx N tg tcap ss n mp X)(hb:Below X.heap.size X Y):MB w cx lx N tg tcap ss n mp Y:=
 ⟨h.bel.trans (hb.mono h.bel.size),aA h.ch hb,aA h.li hb,h.nd.below hb,h.nb.below hb,aI h.tr hb,aA h.mp hb⟩
def StmR(X:World)(B:Nat)(l:aE)(v:Value)(xs:List aH):Prop:=∃vs,cT l xs=some vs∧X.ownsRow B 212 1 v vs.length vs
theorem StmR.turn{S:Nat→Prop}{B B2:Nat}{X Y:World}{l:aE}{v:Value}{xs:List aH}(h:StmR X B l v xs)(ht:Turn S B2 X Y)(hS:¬S 212):StmR Y B l v xs:=by
 obtain⟨vs,h1,h2⟩:=h;exact⟨vs,h1,ht.own h2 hS⟩
theorem qhA{l:aE}{xs:List aH}{vs:List Value}(h:dJ l xs=some vs):cT l xs=some vs:=by
 unfold dJ at h;split at h
 ·exact h
 ·cases h
end Go.Proofs.YtiimkhepplkocaaGreat
namespace Go.Proofs.YtiimkhepplkocaaGreat
open Go.RowKit Go.Sort
set_option linter.unusedVariables false
attribute [local go_sem ↓] Go.wp_at_zero Go.wp_at_succ
theorem qE0:(Tryz.prog.info? 114).map (λi=>(i.zero,i.size,i.bytes))=some (some (.slice none 0 0),1,24):=by kernel_rfl
theorem qw6:(Tryz.prog.info? 118).map (λi=>(i.zero,i.size,i.bytes))=some (some (.slice none 0 0),1,24):=by kernel_rfl
structure L1 (w:World) (cx lx:Array Value) (N:Nat→Nat) (tg tcap:Nat) (ss:List StD) (n:Nat) (l:aE) (B P M:Nat) (k kf:Nat) (E F:List Value) (ev xv:Value) (L:Nat→Value) (X:World):Prop where
 hB:w.heap.size+1<B∧B≤P
 mb:MB w cx lx N tg tcap ss n P X
 mac:Mac X B M (.slice (some ⟨tg,0,none⟩) n tcap) ev xv (.slice (some ⟨B,0,none⟩) n n) (.map (some P)) E F
 row:X.rowIs B 114 n L
 le:E.length=k
 lf:F.length=kf
 ce:∀i,i<k→StmR X w.heap.size l (E.getD i undef) (ss.getD i st0).entry
 cf:∀i,i<kf→StmR X w.heap.size l (F.getD i undef) (ss.getD i st0).exit
theorem qg5{α:Type}(l:List α)(x d:α)(i:Nat):(l++[x]).getD i d=if i<l.length then l.getD i d else if i=l.length then x else d:=by
 simp only[List.getD_eq_getElem?_getD];by_cases h:i<l.length
 ·rw[if_pos h,List.getElem?_append_left h]
 ·rw[if_neg h,List.getElem?_append_right (by omega)]
  by_cases e:i=l.length
  ·subst e;simp
  ·rw[if_neg e,List.getElem?_eq_none (by simp;omega)];rfl
theorem L1.below{w:World}{cx lx:Array Value}{N:Nat→Nat}{tg tcap:Nat}{ss:List StD}{n:Nat}{l:aE}{B P M k kf:Nat}{E F:List Value}{ev xv:Value}{L:Nat→Value}{X Y:World}(h:L1 w cx lx N tg tcap ss n l B P M k kf E F ev xv L X)(hb:Below X.heap.size X Y):L1 w cx lx N tg tcap ss n l B P M k kf E F ev xv L Y:=
 ⟨h.hB,h.mb.below hb,h.mac.below hb,h.row.of_block (hb.block _ h.row.lt),h.le,h.lf,λi hi=>(h.ce i hi).turn (S:=λ_=>False) (B2:=0) (Turn.of_below hb) (λx=>x),λi hi=>(h.cf i hi).turn (S:=λ_=>False) (B2:=0) (Turn.of_below hb) (λx=>x)⟩
theorem L1.entry{w:World}{cx lx:Array Value}{N:Nat→Nat}{tg tcap:Nat}{ss:List StD}{n:Nat}{l:aE}{B P M k kf:Nat}{E F:List Value}{ev xv val:Value}{L:Nat→Value}{X Y Z:World}{g cap:Nat}(h:L1 w cx lx N tg tcap ss n l B P M k kf E F ev xv L X)(hb:Below X.heap.size X Y)(hv:StmR Y w.heap.size l val (ss.getD k st0).entry)(hg:Y.grownBy Z ev.ownBlock)
  (ho:Z.ownsRow B 118 1 (.slice (some ⟨g,0,none⟩) (E.length+1) cap) (E.length+1) (E++[val])) (hat:ev.ownBlock=some g∨g=Y.heap.size):
  L1 w cx lx N tg tcap ss n l B P M (k+1) kf (E++[val]) F (.slice (some ⟨g,0,none⟩) (E.length+1) cap) xv L (Z.setCell ⟨M,1,none⟩ (.slice (some ⟨g,0,none⟩) (E.length+1) cap))∧Turn S1 B X (Z.setCell ⟨M,1,none⟩ (.slice (some ⟨g,0,none⟩) (E.length+1) cap)):=by
 obtain⟨m1,t1⟩:=qGS h.mac hb hg ho hat;have hY:=h.below hb;have bY:=hY.mac.box;have nm:=aJ hY.mac.e (by decide) bY;have bZ:Z.heap[M]? =_:=(hg.block M (lt_of_block bY) (λe=>nm e.symm)).trans bY;have tY:Turn S1 B Y (Z.setCell ⟨M,1,none⟩ (.slice (some ⟨g,0,none⟩) (E.length+1) cap)):=(Turn.grown hY.mac.e (.inl rfl) hg).trans (Turn.set bZ (.inr rfl) h.mac.hB _);have hB:=h.hB;refine⟨⟨h.hB,h.mb.turn t1 (by omega) (by simp[S1]) (by simp[S1]) (by simp[S1]) (by simp[S1]),m1,qyL h.row t1 (by simp[S1]),by simp[h.le],h.lf,λi hi=>?_,λi hi=>(h.cf i hi).turn t1 (by simp[S1])⟩,t1⟩;have hle:=h.le;rw[qg5];by_cases e:i<k
 ·rw[if_pos (by omega)];exact(h.ce i e).turn t1 (by simp[S1])
 ·obtain rfl:i=k:=by omega
  rw[if_neg (by omega),if_pos hle.symm];exact hv.turn tY (by simp[S1])
theorem L1.exit_{w:World}{cx lx:Array Value}{N:Nat→Nat}{tg tcap:Nat}{ss:List StD}{n:Nat}{l:aE}{B P M k kf:Nat}{E F:List Value}{ev xv val:Value}{L:Nat→Value}{X Y Z:World}{g cap:Nat}(h:L1 w cx lx N tg tcap ss n l B P M k kf E F ev xv L X)(hb:Below X.heap.size X Y)(hv:StmR Y w.heap.size l val (ss.getD kf st0).exit)(hg:Y.grownBy Z xv.ownBlock)
  (ho:Z.ownsRow B 118 1 (.slice (some ⟨g,0,none⟩) (F.length+1) cap) (F.length+1) (F++[val])) (hat:xv.ownBlock=some g∨g=Y.heap.size):
  L1 w cx lx N tg tcap ss n l B P M k (kf+1) E (F++[val]) ev (.slice (some ⟨g,0,none⟩) (F.length+1) cap) L (Z.setCell ⟨M,2,none⟩ (.slice (some ⟨g,0,none⟩) (F.length+1) cap))∧Turn S1 B X (Z.setCell ⟨M,2,none⟩ (.slice (some ⟨g,0,none⟩) (F.length+1) cap)):=by
 obtain⟨m1,t1⟩:=qGT h.mac hb hg ho hat;have hY:=h.below hb;have bY:=hY.mac.box;have nm:=aJ hY.mac.x (by decide) bY;have bZ:Z.heap[M]? =_:=(hg.block M (lt_of_block bY) (λe=>nm e.symm)).trans bY;have tY:Turn S1 B Y (Z.setCell ⟨M,2,none⟩ (.slice (some ⟨g,0,none⟩) (F.length+1) cap)):=(Turn.grown hY.mac.x (.inl rfl) hg).trans (Turn.set bZ (.inr rfl) h.mac.hB _);have hB:=h.hB;refine⟨⟨h.hB,h.mb.turn t1 (by omega) (by simp[S1]) (by simp[S1]) (by simp[S1]) (by simp[S1]),m1,qyL h.row t1 (by simp[S1]),h.le,by simp[h.lf],λi hi=>(h.ce i hi).turn t1 (by simp[S1]),λi hi=>?_⟩,t1⟩;have hle:=h.lf;rw[qg5];by_cases e:i<kf
 ·rw[if_pos (by omega)];exact(h.cf i e).turn t1 (by simp[S1])
 ·obtain rfl:i=kf:=by omega
  rw[if_neg (by omega),if_pos hle.symm];exact hv.turn tY (by simp[S1])
end Go.Proofs.YtiimkhepplkocaaGreat
namespace Go.Proofs.YtiimkhepplkocaaGreat
open Go.RowKit Go.Sort
set_option linter.unusedVariables false
attribute [local go_sem ↓] Go.wp_at_zero Go.wp_at_succ
theorem qoZ:(Tryz.prog.info? 120).map (λi=>(i.zero,i.size,i.bytes))=some (some (.agg #[.int .i64 0,.int .i64 0,.pointer none,.pointer none,.nilFunc,.slice none 0 0]),6,64):=by kernel_rfl
def aW(ts:List TrD)(i m:Nat):List Nat:=(List.range m).filter λq=>decide ((ts.getD q tr0).src=i)
theorem qx8{ts:List TrD}{i m q:Nat}(h:q∈aW ts i m):q<m:=by
 unfold aW at h;exact List.mem_range.1 (List.mem_filter.1 h).1
theorem qx9(ts:List TrD)(i m:Nat):aW ts i (m+1)=aW ts i m++(if(ts.getD m tr0).src=i then [m]else []):=by
 unfold aW;rw[List.range_succ,List.filter_append];congr 1;by_cases h:(ts.getD m tr0).src=i
 ·rw[if_pos h,List.filter_cons_of_pos (by exact decide_eq_true h)];rfl
 ·rw[if_neg h,List.filter_cons_of_neg (by simpa only[decide_eq_true_eq]using h)];rfl
theorem qjR(ts:List TrD)(i m:Nat):(aW ts i m).length≤m:=by
 unfold aW;exact Nat.le_trans (List.length_filter_le _ _) (by simp)
def yO(N:Nat→Nat)(t:Int):Value:=if t=-1 then .pointer none else .pointer (some ⟨N t.toNat,0,none⟩)
def mvC(N:Nat→Nat)(ts:List TrD)(lets act:Nat→Value)(q:Nat):List Value:=
 [.int .i64 (q:Int),.int .i64 (ts.getD q tr0).sig,.pointer (some ⟨N (ts.getD q tr0).src.toNat,0,none⟩),yO N (ts.getD q tr0).target,lets q,act q]
def mvs(N:Nat→Nat)(ts:List TrD)(lets act:Nat→Value)(l:List Nat):List Value:=l.flatMap (mvC N ts lets act)
theorem qxY(N:Nat→Nat)(ts:List TrD)(lets act:Nat→Value)(a b:List Nat):mvs N ts lets act (a++b)=mvs N ts lets act a++mvs N ts lets act b:=by simp[mvs]
theorem qG0{N:Nat→Nat}{ts:List TrD}{lets act lets' act':Nat→Value}{a:List Nat}(h:∀q,q∈a→lets q=lets' q∧act q=act' q):mvs N ts lets act a=mvs N ts lets' act' a:=by
 induction a with
 |nil=>rfl
 |cons x r ih=>
  have h1:=h x (by simp);simp only[mvs,List.flatMap_cons]at ih⊢;rw[ih (λq hq=>h q (by simp[hq]))];simp[mvC,h1.1,h1.2]
def S2(t:Nat):Prop:=t=120∨t=114
theorem L1.turn{w:World}{cx lx:Array Value}{N:Nat→Nat}{tg tcap:Nat}{ss:List StD}{n:Nat}{l:aE}{B P M k kf:Nat}{E F:List Value}{ev xv:Value}{L L':Nat→Value}{X Y:World}(h:L1 w cx lx N tg tcap ss n l B P M k kf E F ev xv L X)(ht:Turn S2 B X Y)(hr:Y.rowIs B 114 n L'):L1 w cx lx N tg tcap ss n l B P M k kf E F ev xv L' Y:=by
 have hB:=h.hB;exact⟨h.hB,h.mb.turn ht (by omega) (by simp[S2]) (by simp[S2]) (by simp[S2]) (by simp[S2]),⟨ht.box h.mac.box (by simp[S2]),h.mac.hB,ht.own h.mac.e (by simp[S2]),ht.own h.mac.x (by simp[S2]),h.mac.ne⟩,hr,h.le,h.lf,λi hi=>(h.ce i hi).turn ht (by simp[S2]),λi hi=>(h.cf i hi).turn ht (by simp[S2])⟩
structure L2 (w:World) (cx lx:Array Value) (N:Nat→Nat) (tg tcap:Nat) (ss:List StD) (ts:List TrD) (n:Nat) (l:aE) (B P M j:Nat) (E F:List Value) (ev xv:Value) (L lets act:Nat→Value) (X:World):Prop where
 l1:L1 w cx lx N tg tcap ss n l B P M n n E F ev xv L X
 lv:∀i,i<n→X.ownsRow B 120 6 (L i) (aW ts i j).length (mvs N ts lets act (aW ts i j))
 dis:∀i i',i<n→i'<n→i≠i'→∀b,(L i).ownBlock=some b→(L i').ownBlock≠some b
 gd:∀q,q<j→GuardAt X w.heap.size l.v (ts.getD q tr0).guard (lets q)∧StmR X w.heap.size l (act q) (ts.getD q tr0).action
theorem L2.below{w:World}{cx lx:Array Value}{N:Nat→Nat}{tg tcap:Nat}{ss:List StD}{ts:List TrD}{n:Nat}{l:aE}{B P M j:Nat}{E F:List Value}{ev xv:Value}{L lets act:Nat→Value}{X Y:World}(h:L2 w cx lx N tg tcap ss ts n l B P M j E F ev xv L lets act X)(hb:Below X.heap.size X Y):L2 w cx lx N tg tcap ss ts n l B P M j E F ev xv L lets act Y:=
 ⟨h.l1.below hb,λi hi=>aI (h.lv i hi) hb,h.dis,λq hq=>⟨(h.gd q hq).1.below hb,(h.gd q hq).2.turn (S:=λ_=>False) (B2:=0) (Turn.of_below hb) (λx=>x)⟩⟩
theorem L2.start{w:World}{cx lx:Array Value}{N:Nat→Nat}{tg tcap:Nat}{ss:List StD}{ts:List TrD}{n:Nat}{l:aE}{B P M:Nat}{E F:List Value}{ev xv:Value}{X:World}(h:L1 w cx lx N tg tcap ss n l B P M n n E F ev xv (λ_=>.slice none 0 0) X):L2 w cx lx N tg tcap ss ts n l B P M 0 E F ev xv (λ_=>.slice none 0 0) (λ_=>undef) (λ_=>undef) X:=
 ⟨h,λi hi=>by simpa[aW,mvs]using World.ownsRow_nil X B 120 6,λi i' _ _ _ b e=>by simp[Value.ownBlock]at e,λq hq=>absurd hq (by omega)⟩
theorem L2.add{w:World}{cx lx:Array Value}{N:Nat→Nat}{tg tcap:Nat}{ss:List StD}{ts:List TrD}{n:Nat}{l:aE}{B P M j:Nat}{E F:List Value}{ev xv gv av:Value}{L lets act:Nat→Value}{X Y Z:World}{g cap i:Nat}(h:L2 w cx lx N tg tcap ss ts n l B P M j E F ev xv L lets act X)
  (hb:Below X.heap.size X Y) (hi:i<n) (hsrc:(ts.getD j tr0).src=i) (hgu:GuardAt Y w.heap.size l.v (ts.getD j tr0).guard gv) (hac:StmR Y w.heap.size l av (ts.getD j tr0).action) (hg:Y.grownBy Z (L i).ownBlock)
  (ho:Z.ownsRow B 120 6 (.slice (some ⟨g,0,none⟩) ((aW ts i j).length+1) cap) ((aW ts i j).length+1) (mvs N ts lets act (aW ts i j)++[.int .i64 (j:Int),.int .i64 (ts.getD j tr0).sig,.pointer (some ⟨N i,0,none⟩),yO N (ts.getD j tr0).target,gv,av]))
  (hat:(L i).ownBlock=some g∨g=Y.heap.size):
  L2 w cx lx N tg tcap ss ts n l B P M (j+1) E F ev xv (λk=>if k=i then .slice (some ⟨g,0,none⟩) ((aW ts i j).length+1) cap else L k) (λq=>if q=j then gv else lets q) (λq=>if q=j then av else act q) (Z.setCell ⟨B,i,none⟩ (.slice (some ⟨g,0,none⟩) ((aW ts i j).length+1) cap)):=by
 have hY:=h.below hb;have oY:=hY.lv i hi;have rY:=hY.l1.row;obtain⟨rc,rb,rs,rf⟩:=rY;have nB:=aJ oY (by decide) rb;have bZ:Z.heap[B]? =Y.heap[B]?:=hg.block B (lt_of_block rb) (λe=>nB e.symm);have rZ:Z.rowIs B 114 n L:=hY.l1.row.of_block bZ;have t1:Turn S2 B Y Z:=Turn.grown oY (.inl rfl) hg;have t2:Turn S2 B Z (Z.setCell ⟨B,i,none⟩ (.slice (some ⟨g,0,none⟩) ((aW ts i j).length+1) cap)):=Turn.set (bZ.trans rb) (.inr rfl) (Nat.le_refl _) _;have tt:=t1.trans t2;have rr:=rZ.set i (.slice (some ⟨g,0,none⟩) ((aW ts i j).length+1) cap);have same:∀i',mvs N ts (λq=>if q=j then gv else lets q) (λq=>if q=j then av else act q) (aW ts i' j)=mvs N ts lets act (aW ts i' j):=λi'=>qG0 λq hq=>by
  have:=qx8 hq;rw[if_neg (by omega),if_neg (by omega)];exact⟨rfl,rfl⟩
 refine⟨hY.l1.turn tt (rr.congr λk _=>rfl),λi' hi'=>?_,λa b ha hb' hab x hx=>?_,λq hq=>?_⟩
 ·by_cases e:i'=i
  ·subst e
   rw[if_pos rfl,qx9,if_pos hsrc,qxY,same,List.length_append];have e2:mvs N ts (λq=>if q=j then gv else lets q) (λq=>if q=j then av else act q) [j]=[.int .i64 (j:Int),.int .i64 (ts.getD j tr0).sig,.pointer (some ⟨N i',0,none⟩),yO N (ts.getD j tr0).target,gv,av]:=by
    simp only[mvs,List.flatMap_cons,List.flatMap_nil,List.append_nil,mvC,hsrc,if_true,Int.toNat_natCast]
   rw[e2];exact ownsRow_setCell_other ho (aJ ho (by decide) (bZ.trans rb)) _
  ·rw[if_neg e,qx9,if_neg (by rw[hsrc];omega),List.append_nil,same]
   have o2:Z.ownsRow B 120 6 (L i') (aW ts i' j).length (mvs N ts lets act (aW ts i' j)):=qhG (hY.lv i' hi') (λb hbl e1=>hg.block b hbl (λe3=>h.dis i' i hi' hi e b e1 e3.symm));exact ownsRow_setCell_other o2 (aJ o2 (by decide) (bZ.trans rb)) _
 ·have new:∀k,k<n→k≠i→(L k).ownBlock≠some g:=λk hk hki e=>by
   rcases hat with h1|h1
   ·exact h.dis k i hk hi hki g e h1
   ·have:=((hY.lv k hk).lt g e).2
    omega
  by_cases ea:a=i
  ·subst ea
   have eb:b≠a:=λe=>hab e.symm;rw[if_pos rfl]at hx;rw[if_neg eb];simp[Value.ownBlock]at hx;subst hx;exact new b hb' eb
  ·rw[if_neg ea]at hx
   by_cases eb:b=i
   ·subst eb
    rw[if_pos rfl];intro e;simp[Value.ownBlock]at e;subst e;exact new a ha ea hx
   ·rw[if_neg eb]
    exact h.dis a b ha hb' hab x hx
 ·by_cases e:q=j
  ·subst e
   rw[if_pos rfl,if_pos rfl];exact⟨hgu.turn tt (by simp[S2]),hac.turn tt (by simp[S2])⟩
  ·rw[if_neg e,if_neg e]
   have hh:=hY.gd q (by omega);exact⟨hh.1.turn tt (by simp[S2]),hh.2.turn tt (by simp[S2])⟩
abbrev qd4(X:World)(r:Nat)(a b c d e f:Value):World:=(((((X.setCell ⟨r,0,none⟩ a).setCell ⟨r,1,none⟩ b).setCell ⟨r,2,none⟩ c).setCell ⟨r,3,none⟩ d).setCell ⟨r,4,none⟩ e).setCell ⟨r,5,none⟩ f
theorem qIC{X:World}{r:Nat}{a b c d e f x0 x1 x2 x3 x4 x5:Value}{t:TypeId}(h:X.heap[r]? =some (.cells #[x0,x1,x2,x3,x4,x5] t (0,0))):(qd4 X r a b c d e f).heap[r]? =some (.cells #[a,b,c,d,e,f] t (0,0)):=by
 have m1:=heap_setCell_same X r 0 _ _ a h;have m2:=heap_setCell_same _ r 1 _ _ b m1;have m3:=heap_setCell_same _ r 2 _ _ c m2;have m4:=heap_setCell_same _ r 3 _ _ d m3;have m5:=heap_setCell_same _ r 4 _ _ e m4;have m6:=heap_setCell_same _ r 5 _ _ f m5;rw[m6];simp
theorem qhS{w X:World}{C r:Nat}{a b c d e f:Value}(h:Below C w X)(hr:C≤r):Below C w (qd4 X r a b c d e f):=(((((h.setCell hr _).setCell hr _).setCell hr _).setCell hr _).setCell hr _).setCell hr _
theorem qKV{S:Nat→Prop}{X:World}{r:Nat}{a b c d e f x0 x1 x2 x3 x4 x5:Value}{t:TypeId}(h:X.heap[r]? =some (.cells #[x0,x1,x2,x3,x4,x5] t (0,0)))(ht:S t):Turn S 0 X (qd4 X r a b c d e f):=by
 have m1:=heap_setCell_same X r 0 _ _ a h;have m2:=heap_setCell_same _ r 1 _ _ b m1;have m3:=heap_setCell_same _ r 2 _ _ c m2;have m4:=heap_setCell_same _ r 3 _ _ d m3;have m5:=heap_setCell_same _ r 4 _ _ e m4;exact(((((Turn.set h ht (Nat.zero_le _) _).trans (Turn.set m1 ht (Nat.zero_le _) _)).trans (Turn.set m2 ht (Nat.zero_le _) _)).trans (Turn.set m3 ht (Nat.zero_le _) _)).trans (Turn.set m4 ht (Nat.zero_le _) _)).trans (Turn.set m5 ht (Nat.zero_le _) _)
theorem zA{w:World}{H:Nat}{cs:Array Value}{t:TypeId}(h:w.heap[H]? =some (.cells cs t (0,0))):∀o,w.frozen? ⟨H,o,none⟩=false:=λo=>frozen_of_row w H o cs t h
theorem qdO{X:World}{B tg n tcap:Nat}{N:Nat→Nat}(h:X.ownsRow B 110 1 (.slice (some ⟨tg,0,none⟩) n tcap) n (b8 N (List.range n))){f:Nat}(hf:f<n):X.cell? ⟨tg,f,none⟩=some (.pointer (some ⟨N f,0,none⟩)):=by
 rw[World.ownsRow.cellAt h f (by simpa using hf)];simp[b8,hf]
theorem StmR.below{X Y:World}{B:Nat}{l:aE}{v:Value}{xs:List aH}(h:StmR X B l v xs)(hb:Below X.heap.size X Y):StmR Y B l v xs:=h.turn (S:=λ_=>False) (B2:=0) (Turn.of_below hb) (λx=>x)
theorem qhL{w w':World}(h:Below w.drew.heap.size w.drew w'):Below w.heap.size w w':=⟨h.os,h.tape,h.output,h.size,h.block⟩
structure Bt (w:World) (X:World) (H b:Nat) (tx mx:Array Value) (l:aE) (gc:List (Int × Int)) (ac:List aH) (gv av:Value) (Y:World):Prop where
 bel:Below X.heap.size X Y
 q:Y.heap[H]? =some (.cells tx 60 (0,0))
 m:Y.heap[b]? =some (.cells mx 120 (0,0))
 bl:X.heap.size≤b
 g:GuardAt Y w.heap.size l.v gc gv
 a:StmR Y w.heap.size l av ac
theorem qBK{w X Y:World}{H r:Nat}{tx:Array Value}{a b c d d' gv av:Value}{l:aE}{gc:List (Int×Int)}{ac:List aH}(h:Bt w X H r tx #[a,b,c,d,gv,av] l gc ac gv av Y):Bt w X H r tx #[a,b,c,d',gv,av] l gc ac gv av (Y.setCell ⟨r,3,none⟩ d'):=by
 have tt:Turn S2 0 Y (Y.setCell ⟨r,3,none⟩ d'):=Turn.set h.m (.inl rfl) (Nat.zero_le _) _;exact⟨h.bel.setCell h.bl _,tt.box h.q (by simp[S2]),by rw[heap_setCell_same Y r 3 _ _ _ h.m];simp,h.bl,h.g.turn tt (by simp[S2]),h.a.turn tt (by simp[S2])⟩
theorem qBJ{w X Y:World}{H:Nat}{tx:Array Value}{a b c d gv av:Value}{l:aE}{gc:List (Int×Int)}{ac:List aH}(hb:Below X.heap.size X Y)(hq:Y.heap[H]? =some (.cells tx 60 (0,0)))(hg:GuardAt Y w.heap.size l.v gc gv)(ha:StmR Y w.heap.size l av ac):Bt w X H Y.heap.size tx #[a,b,c,d,gv,av] l gc ac gv av (Y.alloc (.cells #[a,b,c,d,gv,av] 120)):=
 ⟨hb.trans ((aB _ _).mono hb.size),aA hq (aB _ _),heap_alloc_new _ _,hb.size,hg.below (aB _ _),ha.below (aB _ _)⟩
theorem qvA{w X Y:World}{H r:Nat}{tx:Array Value}{a b c d gv av x0 x1 x2 x3 x4 x5:Value}{l:aE}{gc:List (Int×Int)}{ac:List aH}(hb:Below X.heap.size X Y)(hr:X.heap.size≤r)(hq:Y.heap[H]? =some (.cells tx 60 (0,0)))(hx:Y.heap[r]? =some (.cells #[x0,x1,x2,x3,x4,x5] 120 (0,0)))(hg:GuardAt Y w.heap.size l.v gc gv)(ha:StmR Y w.heap.size l av ac):Bt w X H r tx #[a,b,c,d,gv,av] l gc ac gv av (qd4 Y r a b c d gv av):=by
 have tt:Turn S2 0 Y (qd4 Y r a b c d gv av):=qKV hx (.inl rfl);exact⟨qhS hb hr,tt.box hq (by simp[S2]),qIC hx,hr,hg.turn tt (by simp[S2]),ha.turn tt (by simp[S2])⟩
end Go.Proofs.YtiimkhepplkocaaGreat
