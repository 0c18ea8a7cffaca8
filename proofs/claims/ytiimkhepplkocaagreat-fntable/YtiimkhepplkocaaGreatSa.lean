import Derived.Test.YtiimkhepplkocaaGreatKa
import Derived.Deep.RegionHeld3
import Derived.Deep.AppendLies
set_option maxRecDepth 100000
set_option maxHeartbeats 16000000
namespace Go.Proofs.YtiimkhepplkocaaGreat
def sO(P:Nat→Bool)(n:Nat):Option Nat:=(List.range n).find? P
theorem qhZ{P:Nat→Bool}{n k:Nat}(hk:k<n)(h:P k=true)(hb:∀j,j<k→P j=false):sO P n=some k:=by
 unfold sO;rw[List.find?_eq_some_iff_append];refine⟨h,List.range k,(List.range n).drop (k+1),?_,λa ha=>by simp[hb a (List.mem_range.1 ha)]⟩;apply List.ext_getElem?;intro i;rw[List.getElem?_append];by_cases h1:i<k
 ·simp[h1,show i<n by omega]
 ·by_cases h2:i=k
  ·subst h2;simp[hk]
  ·rw[if_neg (by simpa using h1)]
   simp only[List.length_range];rw[show i-k=(i-k-1)+1 by omega,List.getElem?_cons_succ,List.getElem?_drop,show k+1+(i-k-1)=i by omega]
theorem vM{P:Nat→Bool}{n:Nat}(hb:∀j,j<n→P j=false):sO P n=none:=by
 unfold sO;rw[List.find?_eq_none];intro x hx;simp[hb x (List.mem_range.1 hx)]
def par(ss:List StD)(k:Nat):Int:=(ss.getD k st0).parent
def ini(ss:List StD)(k:Nat):Int:=(ss.getD k st0).initial
def cN(ss:List StD):Prop:=par ss 0=-1∧∀i,0<i→i<ss.length→0≤par ss i∧par ss i<i
def cY(ss:List StD)(i:Nat):Bool:=if i=0 then decide (par ss 0≠-1)else decide (¬(0≤par ss i∧par ss i<i))
theorem qj6{ss:List StD}(h0:0<ss.length)(h:∀j,j<ss.length→cY ss j=false):cN ss:=by
 constructor
 ·have:=h 0 h0
  simpa[cY]using this
 ·intro i hi hl
  have:=h i hl;rw[cY,if_neg (by omega)]at this;simpa using this
def upF(p:Nat→Int):Nat→Nat→List Nat
 |0,_=>[]
 |f+1,k=>if k=0 then [0]else k::upF p f (p k).toNat
def up(ss:List StD)(k:Nat):List Nat:=upF (par ss) (k+1) k
theorem qKX{ss:List StD}(T:cN ss):∀k,k<ss.length→∀f,k<f→upF (par ss) f k=up ss k:=by
 intro k
 induction k using Nat.strongRecOn with
 |ind k ih=>
  intro hk f hf;obtain⟨f,rfl⟩:∃g,f=g+1:=⟨f-1,by omega⟩;by_cases h0:k=0
  ·simp[upF,up,h0]
  ·have h1:=T.2 k (by omega) hk
   have e1:=ih (par ss k).toNat (by omega) (by omega) f (by omega);have e2:=ih (par ss k).toNat (by omega) (by omega) k (by omega);show upF (par ss) (f+1) k=upF (par ss) (k+1) k;simp only[upF,if_neg h0,e1,e2]
theorem tI(ss:List StD):up ss 0=[0]:=by simp[up,upF]
theorem uB{ss:List StD}(T:cN ss){k:Nat}(h0:0<k)(hk:k<ss.length):up ss k=k::up ss (par ss k).toNat:=by
 have h1:=T.2 k h0 hk;show upF (par ss) (k+1) k=_;simp only[upF,if_neg (show¬k=0 by omega)];rw[qKX T _ (by omega) k (by omega)]
theorem tH{ss:List StD}(T:cN ss){k:Nat}(hk:k<ss.length):up ss k=k::(up ss k).tail:=by
 by_cases h0:k=0
 ·subst h0;simp[tI]
 ·rw[uB T (by omega) hk];simp
theorem vP{ss:List StD}(T:cN ss):∀k,k<ss.length→∀x,x∈up ss k→x≤k:=by
 intro k
 induction k using Nat.strongRecOn with
 |ind k ih=>
  intro hk x hx;by_cases h0:k=0
  ·subst h0;simp[tI]at hx;omega
  ·have h1:=T.2 k (by omega) hk
   rw[uB T (by omega) hk]at hx;rcases List.mem_cons.1 hx with rfl|hx
   ·exact Nat.le_refl _
   ·have:=ih (par ss k).toNat (by omega) (by omega) x hx
    omega
theorem qp7{ss:List StD}(T:cN ss){k:Nat}(hk:k<ss.length){x:Nat}(hx:x∈(up ss k).tail):x<k:=by
 by_cases h0:k=0
 ·subst h0;simp[tI]at hx
 ·have h1:=T.2 k (by omega) hk
  rw[uB T (by omega) hk]at hx;have:=vP T (par ss k).toNat (by omega) x hx;omega
theorem qiJ{ss:List StD}(T:cN ss){k:Nat}(h0:0<k)(hk:k<ss.length):(up ss k).tail=up ss (par ss k).toNat:=by rw[uB T h0 hk];rfl
theorem qp6{ss:List StD}(T:cN ss):∀k,k<ss.length→∀x,x∈up ss k→∀y,y∈up ss x→y∈up ss k:=by
 intro k
 induction k using Nat.strongRecOn with
 |ind k ih=>
  intro hk x hx y hy;by_cases h0:k=0
  ·subst h0
   simp[tI]at hx;subst hx;exact hy
  ·have h1:=T.2 k (by omega) hk
   rw[uB T (by omega) hk]at hx⊢;rcases List.mem_cons.1 hx with rfl|hx
   ·rw[uB T (by omega) hk]at hy;exact hy
   ·exact List.mem_cons_of_mem _ (ih (par ss k).toNat (by omega) (by omega) x hx y hy)
theorem qKY{ss:List StD}(T:cN ss):∀k,k<ss.length→(up ss k).Pairwise (· > ·):=by
 intro k
 induction k using Nat.strongRecOn with
 |ind k ih=>
  intro hk;by_cases h0:k=0
  ·subst h0;simp[tI]
  ·have h1:=T.2 k (by omega) hk
   rw[uB T (by omega) hk,List.pairwise_cons];refine⟨λx hx=>?_,ih _ (by omega) (by omega)⟩;have:=vP T (par ss k).toNat (by omega) x hx;omega
theorem pS{ss:List StD}(T:cN ss):∀k,k<ss.length→(up ss k).length≤k+1:=by
 intro k
 induction k using Nat.strongRecOn with
 |ind k ih=>
  intro hk;by_cases h0:k=0
  ·subst h0;simp[tI]
  ·have h1:=T.2 k (by omega) hk
   rw[uB T (by omega) hk,List.length_cons];have:=ih (par ss k).toNat (by omega) (by omega);omega
def uE(ss:List StD)(i:Nat):Bool:=decide (17≤(up ss i).length)
def bK(ss:List StD)(m k:Nat):List Nat:=(List.range m).filter λj=>decide (par ss j=k)
def gI(ss:List StD)(i:Nat):Bool:=!(if bK ss ss.length i=[]then decide (ini ss i=-1)else decide (0≤ini ss i∧ini ss i<ss.length∧par ss (ini ss i).toNat=i))
theorem qxF(ss:List StD)(m k:Nat):bK ss (m+1) k=if par ss m=k then bK ss m k++[m]else bK ss m k:=by
 unfold bK;rw[List.range_succ,List.filter_append];by_cases h:par ss m=k<;>simp[h]
theorem qdG{ss:List StD}{m k j:Nat}:j∈bK ss m k↔j<m∧par ss j=k:=by simp[bK]
theorem qAH(ss:List StD)(i:Nat):gI ss i=!((bK ss ss.length i).any (λj=>decide ((j:Int)=ini ss i))||(decide (bK ss ss.length i=[])&&decide (ini ss i=-1))):=by
 unfold gI;by_cases h:bK ss ss.length i=[]
 ·simp[h]
 ·rw[if_neg h]
  congr 1;rw[Bool.eq_iff_iff];simp only[h,decide_false,Bool.false_and,Bool.or_false,decide_eq_true_eq,List.any_eq_true];constructor
  ·rintro⟨h0,h1,h2⟩
   exact⟨(ini ss i).toNat,qdG.2 ⟨by omega,h2⟩,by omega⟩
  ·rintro⟨x,hx,e⟩
   obtain⟨h1,h2⟩:=qdG.1 hx;have:(ini ss i).toNat=x:=by omega
   exact⟨by omega,by omega,by rw[this];exact h2⟩
def bN(ss:List StD)(tn:Nat)(lim:Bool):Int×Int:=
 if 1≤ss.length∧ss.length≤200∧tn≤500∧lim=true then
  match sO (cY ss) ss.length with
  |some i=>(2,i)
  |none=>match sO (uE ss) ss.length with
   |some i=>(3,i)
   |none=>match sO (gI ss) ss.length with
    |some i=>(4,i)
    |none=>(0,0)
 else(1,0)
theorem qhY{ss:List StD}{tn:Nat}{lim:Bool}(h:¬(1≤ss.length∧ss.length≤200∧tn≤500∧lim=true)):bN ss tn lim=(1,0):=if_neg h
theorem qi9{ss:List StD}{tn:Nat}{lim:Bool}(h:1≤ss.length∧ss.length≤200∧tn≤500∧lim=true){k:Nat}(hk:k<ss.length)(h1:cY ss k=true)(h2:∀j,j<k→cY ss j=false):bN ss tn lim=(2,(k:Int)):=by
 unfold bN;rw[if_pos h,qhZ hk h1 h2]
theorem qwN{ss:List StD}{tn:Nat}{lim:Bool}(h:1≤ss.length∧ss.length≤200∧tn≤500∧lim=true)(hp:∀j,j<ss.length→cY ss j=false){k:Nat}(hk:k<ss.length)(h1:uE ss k=true)(h2:∀j,j<k→uE ss j=false):bN ss tn lim=(3,(k:Int)):=by
 unfold bN;rw[if_pos h,vM hp,qhZ hk h1 h2]
theorem qi8{ss:List StD}{tn:Nat}{lim:Bool}(h:1≤ss.length∧ss.length≤200∧tn≤500∧lim=true)(hp:∀j,j<ss.length→cY ss j=false)(hd:∀j,j<ss.length→uE ss j=false){k:Nat}(hk:k<ss.length)(h1:gI ss k=true)(h2:∀j,j<k→gI ss j=false):bN ss tn lim=(4,(k:Int)):=by
 unfold bN;rw[if_pos h,vM hp,vM hd,qhZ hk h1 h2]
theorem qwO{ss:List StD}{tn:Nat}{lim:Bool}(h:1≤ss.length∧ss.length≤200∧tn≤500∧lim=true)(hp:∀j,j<ss.length→cY ss j=false)(hd:∀j,j<ss.length→uE ss j=false)(hi:∀j,j<ss.length→gI ss j=false):bN ss tn lim=(0,0):=by
 unfold bN;rw[if_pos h,vM hp,vM hd,vM hi]
structure uH (ss:List StD) (tn:Nat):Prop where
 n1:1≤ss.length
 n2:ss.length≤200
 tn:tn≤500
 tree:cN ss
 ini:∀j,j<ss.length→gI ss j=false
theorem qjB{P:Nat→Bool}{n:Nat}(h:sO P n=none):∀j,j<n→P j=false:=by
 intro j hj;unfold sO at h;rw[List.find?_eq_none]at h;simpa using h j (List.mem_range.2 hj)
theorem qoS{ss:List StD}{tn:Nat}{lim:Bool}(h:(bN ss tn lim).1=0):uH ss tn:=by
 unfold bN at h;by_cases hc:1≤ss.length∧ss.length≤200∧tn≤500∧lim=true
 ·rw[if_pos hc]at h
  cases h1:sO (cY ss) ss.length with
  |some i=>simp[h1]at h
  |none=>
   cases h2:sO (uE ss) ss.length with
   |some i=>simp[h1,h2]at h
   |none=>
    cases h3:sO (gI ss) ss.length with
    |some i=>simp[h1,h2,h3]at h
    |none=>exact⟨hc.1,hc.2.1,hc.2.2.1,qj6 (by omega) (qjB h1),qjB h3⟩
 ·rw[if_neg hc]at h;simp at h
theorem qg7{ss:List StD}{tn:Nat}(g:uH ss tn){k:Nat}(hk:k<ss.length):ini ss k=-1∨((k:Int)<ini ss k∧ini ss k<ss.length):=by
 have h:=g.ini k hk;unfold gI at h;by_cases e:bK ss ss.length k=[]
 ·left;simpa[e]using h
 ·right
  simp only[e,if_false,Bool.not_eq_false',decide_eq_true_eq]at h;obtain⟨h0,h1,h2⟩:=h;by_cases hz:(ini ss k).toNat=0
  ·rw[hz,g.tree.1]at h2;omega
  ·have:=g.tree.2 (ini ss k).toNat (by omega) (by omega)
   omega
def qdV(i:Nat→Int):Nat→Nat→List Nat
 |0,_=>[]
 |f+1,k=>if i k<0 then []else(i k).toNat::qdV i f (i k).toNat
def bM(ss:List StD)(k:Nat):List Nat:=qdV (ini ss) (ss.length-k) k
theorem qDK{ss:List StD}{tn:Nat}(g:uH ss tn):∀d k,k<ss.length→ss.length-k=d→∀f,d≤f→qdV (ini ss) f k=bM ss k:=by
 intro d
 induction d using Nat.strongRecOn with
 |ind d ih=>
  intro k hk hd f hf;unfold bM;rw[hd];obtain⟨f,rfl⟩:∃g,f=g+1:=⟨f-1,by omega⟩;obtain⟨d,rfl⟩:∃g,d=g+1:=⟨d-1,by omega⟩;simp only[qdV];rcases qg7 g hk with h|⟨h1,h2⟩
  ·simp[h]
  ·rw[if_neg (by omega),if_neg (by omega),ih (ss.length-(ini ss k).toNat) (by omega) _ (by omega) rfl f (by omega),ih (ss.length-(ini ss k).toNat) (by omega) _ (by omega) rfl d (by omega)]
theorem qi6{ss:List StD}{k:Nat}(h:ini ss k<0):bM ss k=[]:=by
 unfold bM;cases ss.length-k with
 |zero=>rfl
 |succ d=>simp[qdV,h]
theorem qi5{ss:List StD}{tn:Nat}(g:uH ss tn){k:Nat}(hk:k<ss.length)(h:¬ini ss k<0):bM ss k=(ini ss k).toNat::bM ss (ini ss k).toNat:=by
 rcases qg7 g hk with e|⟨h1,h2⟩
 ·omega
 ·obtain⟨d,hd⟩:∃d,ss.length-k=d+1:=⟨ss.length-k-1,by omega⟩
  show qdV _ _ _=_;rw[hd];simp only[qdV,if_neg h];rw[qDK g _ _ (by omega) rfl d (by omega)]
theorem qa6{ss:List StD}{tn:Nat}(g:uH ss tn):∀d k,k<ss.length→ss.length-k=d→(bM ss k).length≤d:=by
 intro d
 induction d using Nat.strongRecOn with
 |ind d ih=>
  intro k hk hd;by_cases h:ini ss k<0
  ·rw[qi6 h];simp
  ·rw[qi5 g hk h,List.length_cons]
   rcases qg7 g hk with e|⟨h1,h2⟩
   ·omega
   ·have:=ih (ss.length-(ini ss k).toNat) (by omega) _ (by omega) rfl
    omega
def vB(P:Nat→Bool):Nat→Int
 |0=>-1
 |k+1=>if P k=true then k else vB P k
theorem qpA{P:Nat→Bool}{m n:Nat}(hm:m<n)(h:P m=true)(hl:∀j,m<j→j<n→P j=false):vB P n=m:=by
 induction n with
 |zero=>omega
 |succ n ih=>
  unfold vB;by_cases e:m=n
  ·subst e;rw[if_pos h]
  ·rw[if_neg (by simp[hl n (by omega) (by omega)])]
   exact ih (by omega) (λj h1 h2=>hl j h1 (by omega))
theorem qF5{P:Nat→Bool}{n:Nat}(hl:∀j,j<n→P j=false):vB P n=-1:=by
 induction n with
 |zero=>rfl
 |succ n ih=>
  unfold vB;rw[if_neg (by simp[hl n (by omega)])];exact ih (λj h2=>hl j (by omega))
def b9(ss:List StD)(a k:Nat):Bool:=decide (a∈(up ss k).tail)
def dom(ss:List StD)(f t:Nat):Int:=vB (λs=>b9 ss s f&&b9 ss s t) ss.length
theorem qDJ(ss:List StD)(f t:Nat):dom ss f t=dom ss t f:=by
 unfold dom;congr 1;funext s;exact Bool.and_comm _ _
theorem qvY{ss:List StD}(T:cN ss){f t:Nat}(hf:f<ss.length)(ht:t<ss.length)(h:f∈up ss t):dom ss f t=if f=0 then-1 else par ss f:=by
 by_cases h0:f=0
 ·rw[if_pos h0]
  refine qF5 λj _=>?_;subst h0;simp[b9,tI]
 ·rw[if_neg h0]
  have h1:=T.2 f (by omega) hf;obtain⟨p,hp⟩:∃p:Nat,par ss f=p:=⟨(par ss f).toNat,by omega⟩;have hpl:p<f:=by omega
  have hpn:(par ss f).toNat=p:=by omega
  have mem:p∈up ss p:=by rw[tH T (k:=p) (by omega)];exact List.mem_cons_self
  have hft:(up ss f).tail=up ss p:=by rw[qiJ T (by omega) hf,hpn]
  rw[hp];refine qpA (m:=p) (by omega) ?_ ?_
  ·simp only[b9,Bool.and_eq_true,decide_eq_true_eq]
   refine⟨by rw[hft];exact mem,?_⟩;by_cases e:f=t
   ·subst e;rw[hft];exact mem
   ·have ht0:0<t:=by
     rcases Nat.eq_zero_or_pos t with rfl|h
     ·simp[tI]at h;omega
     ·exact h
    have h2:=T.2 t ht0 ht;rw[qiJ T ht0 ht];have hm:f∈up ss (par ss t).toNat:=by
     rw[uB T ht0 ht]at h;rcases List.mem_cons.1 h with h|h
     ·exact absurd h e
     ·exact h
    refine qp6 T _ (by omega) f hm p ?_;rw[uB T (by omega) hf,hpn];exact List.mem_cons_of_mem _ mem
  ·intro j hj _
   simp only[b9,Bool.and_eq_false_iff,decide_eq_false_iff_not];left;intro hm;rw[hft]at hm;have:=vP T p (by omega) j hm;omega
theorem qDI{ss:List StD}(T:cN ss){f t m:Nat}(hf:f<ss.length)(ht:t<ss.length){pre post:List Nat}(e:up ss f=pre++m::post)(hpre:∀x,x∈pre→¬x∈up ss t)(hm:m∈up ss t):
  dom ss f t=if m∈(up ss f).tail∧m∈(up ss t).tail then(m:Int)else if m=0 then-1 else par ss m:=by
 have hmf:m∈up ss f:=by rw[e];simp
 by_cases h:m∈(up ss f).tail∧m∈(up ss t).tail
 ·rw[if_pos h]
  refine qpA (m:=m) (Nat.lt_of_le_of_lt (vP T f hf m hmf) hf) (by simp[b9,h]) λj hj _=>?_;simp only[b9,Bool.and_eq_false_iff,decide_eq_false_iff_not];rw[←Classical.not_and_iff_not_or_not];rintro⟨h1,h2⟩;have h1':j∈up ss f:=List.mem_of_mem_tail h1;have h2':j∈up ss t:=List.mem_of_mem_tail h2;have hp:=qKY T f hf;rw[e]at h1' hp;rcases List.mem_append.1 h1' with h3|h3
  ·exact hpre j h3 h2'
  ·rcases List.mem_cons.1 h3 with rfl|h3
   ·omega
   ·have:=(List.pairwise_cons.1 (List.pairwise_append.1 hp).2.1).1 j h3
    omega
 ·rw[if_neg h]
  have hcase:m=f∨m=t:=by
   rw[tH T hf]at hmf;rw[tH T ht]at hm;rcases List.mem_cons.1 hmf with h1|h1
   ·exact .inl h1
   ·rcases List.mem_cons.1 hm with h2|h2
    ·exact .inr h2
    ·exact absurd ⟨h1,h2⟩ h
  rcases hcase with rfl|rfl
  ·exact qvY T hf ht hm
  ·rw[qDJ]
   exact qvY T ht hf hmf
end Go.Proofs.YtiimkhepplkocaaGreat
namespace Go.Proofs.YtiimkhepplkocaaGreat
open Go.RowKit Go.Sort
attribute [local go_sem ↓] Go.wp_at_zero Go.wp_at_succ
def aG(l:List Nat):List Value:=l.map λ(x:Nat)=>.int .i64 (x:Int)
theorem yZ(l:List Nat):(aG l).length=l.length:=by simp[aG]
theorem y6(l:List Nat):∀u∈aG l,u.oneCell'=true:=by
 intro u hu;simp only[aG,List.mem_map]at hu;obtain⟨x,_,rfl⟩:=hu;rfl
theorem Tryz.info3:(Tryz.prog.info? 3).map (λi=>(i.zero,i.size,i.bytes))=some (some (.int .i64 0),1,8):=by kernel_rfl
def bO(w w':World)(v:Value)(l:List Nat):Prop:=w'.ownsRow w.heap.size 3 1 v l.length (aG l)
theorem qo8(so to:Option Addr)(n sc tn tc:Nat)(ss:List StD)(s:Nat)(w:World)(hn:n≤9223372036854775807)(hs:StatesOf w so n ss):
  Calls Tryz.prog 49 #[.agg #[.slice so n sc,.slice to tn tc],.int .i64 s] w λe w'=>e=.returned (.bool (decide (¬bK ss ss.length s=[])))∧Below w.heap.size w w':=by
 have HL:=hid hs.1;go_enter Tryz.func49,Tryz.ntmps49;go_wp2;go_loopw [10] (λi wr=>∃k:Nat,k≤n∧i=.int .i64 k∧Hid (∀j,j<k→¬par ss j=s)∧Below w.heap.size w wr) (λi _=>n-(intOf i).toNat)
 case atStart=>exact⟨0,Nat.zero_le _,rfl,hid (λj h=>absurd h (by omega)),aB _ _⟩
 case round=>
  obtain⟨k,hk,rfl,HP,hb⟩:=hrel;have HB:=hid hb;by_cases hlt:k<n
  ·obtain⟨b,off,rfl,hbl,hc⟩:=hs.2 (by omega)
   obtain⟨k1,k2,⟨co,cn,cc,k3,_,_⟩,⟨do_,dn,dc,k4,_,_⟩⟩:=hc k hlt;have k1:=(hb.cell (p:=⟨b,off+k*4,none⟩) hbl).trans k1;have k2:=(hb.cell (p:=⟨b,off+k*4+1,none⟩) hbl).trans k2;have k3:=(hb.cell (p:=⟨b,off+k*4+2,none⟩) hbl).trans k3;have k4:=(hb.cell (p:=⟨b,off+k*4+3,none⟩) hbl).trans k4;obtain⟨pv,hpv⟩:∃pv,pv=par ss k:=⟨_,rfl⟩;have hpv':(ss.getD k st0).parent=pv:=hpv.symm;rw[hpv']at k1;have EP:=hid hpv;have hz:w.heap.size≤wr.heap.size:=hb.size;clear hc hs hb hpv hpv';by_cases e:pv=(s:Int)
   ·subst e
    go_wp2;go_ret;refine⟨aZ ?_,HB.out.alloc hz _⟩;symm;rw[decide_eq_true_iff];intro h0;have:k∈bK ss ss.length s:=qdG.2 ⟨by rw[HL.out];exact hlt,EP.out.symm⟩;rw[h0]at this;cases this
   ·have e':(pv==(s:Int))=false:=by simpa using e
    go_wp2;go_roundw
    case rel=>
     refine⟨k+1,by omega,by go_num,hid (λj hj=>?_),HB.out.alloc hz _⟩;by_cases ej:j=k
     ·subst ej;rw[←EP.out];exact e
     ·exact HP.out j (by omega)
    case measure=>simp[intOf];omega
  ·have e:k=n:=by omega
   subst e;clear hs hb;go_wp2;go_ret;refine⟨aZ ?_,HB.out⟩;symm;rw[decide_eq_false_iff_not,Classical.not_not];rw[List.eq_nil_iff_forall_not_mem];intro x hx;obtain⟨h1,h2⟩:=qdG.1 hx;exact HP.out x (by rw[←HL.out];exact h1) h2
theorem qFX(so to:Option Addr)(n sc tn tc:Nat)(ss:List StD)(T:cN ss)(hn:n≤200):∀k:Nat,k<n→∀w,StatesOf w so n ss→
  Calls Tryz.prog 145 #[.agg #[.slice so n sc,.slice to tn tc],.int .i64 k] w λe w'=>e=.returned (.int .i64 (((up ss k).length:Int)-1))∧Below w.heap.size w w':=by
 intro k
 induction k using Nat.strongRecOn with
 |ind k ih=>
  intro hk w hs;by_cases h0:k=0
  ·subst h0
   clear ih hs;go_enter Tryz.func145,Tryz.ntmps145;go_wp2;go_ret;exact⟨aX (by simp[tI]),aB _ _⟩
  ·have hl:=hs.1
   have ht:=T.2 k (by omega) (by omega);obtain⟨p,hp⟩:∃p:Nat,par ss k=p:=⟨(par ss k).toNat,by omega⟩;have hpk:p<k:=by omega
   have hlen:=pS T p (by omega);have E:Hid (((up ss k).length:Int)-1=((up ss p).length:Int)):=hid (by
    rw[uB T (by omega) (by omega),hp,List.length_cons,Int.toNat_natCast];omega)
   obtain⟨b,off,rfl,hbl,hc⟩:=hs.2 (by omega);have k1:w.cell? ⟨b,off+k*4,none⟩=some (.int .i64 (p:Int)):=by rw[←hp];exact(hc k hk).1
   have k0:(k:Int)<(n:Int):=by omega
   have kz:((k:Int)==0)=false:=by simpa using h0
   obtain⟨ob,hob⟩:∃ob:Obj,ob=.cells #[.slice (some ⟨b,off,none⟩) n sc,.slice to tn tc] 36:=⟨_,rfl⟩;have hcell:=cell_regrown (((aB w ob).cell (p:=⟨b,off+k*4,none⟩) hbl).trans k1);obtain⟨c0,c1⟩:=bL (w:=w.alloc (.cells #[.slice (some ⟨b,off,none⟩) n sc,.slice to tn tc] 36)) (H:=w.heap.size) (heap_alloc_new w _);have q0:=cell_regrown c0;have q1:=cell_regrown c1;have cE:∀d os,Calls Tryz.prog 145 #[.agg #[.slice (some ⟨b,off,none⟩) n sc,.slice to tn tc],.int .i64 (p:Int)] (grow (redrawn (w.alloc ob) d) os) λe w''=>e=.returned (.int .i64 (((up ss p).length:Int)-1))∧∃p:Regrown,w''=grow (redrawn (w.alloc ob) p.d) p.os:=
    λd os=>Calls.regrown_of (ih p hpk (by omega) _ (hs.below ((aB w ob).trans ((below_regrown _ d os).mono (by simp)))))
   subst hob;obtain⟨m,hm⟩:∃m,m=((up ss p).length:Int):=⟨_,rfl⟩;rw[←hm]at cE E;have hm':0≤m∧m≤200:=by omega
   obtain⟨m0,m1⟩:=hm';rw[E.out];clear ih hs hc k1 ht hp hlen hl c0 c1 hm;go_enter Tryz.func145,Tryz.ntmps145;go_wp2;refine wp_region_quiet_below (by kernel_rfl) (by kernel_rfl) ?_
   repeat(any_goals(first|go_big_quiet_step(first|exact cE _ _)|quiet_step (first|exact cE _ _)))
   refine wpQuiet_nil ?_;intro _ hw';obtain⟨⟨dq,osq⟩,hw''⟩:=hw';subst hw'';go_wp2;go_ret;exact⟨aX (by omega),(aB w _).trans ((below_regrown _ dq osq).mono (by simp))⟩
end Go.Proofs.YtiimkhepplkocaaGreat
namespace Go.Proofs.YtiimkhepplkocaaGreat
open Go.RowKit Go.Sort
attribute [local go_sem ↓] Go.wp_at_zero Go.wp_at_succ
theorem qGR(w:World)(o:Obj):w.heap.size<(w.alloc o).heap.size:=by simp
theorem qHJ{w w':World}{v:Value}{l:List Nat}(h:bO w w' v l)(o:Obj):bO w (w'.alloc o) v l:=World.ownsRow.alloc h o
theorem qdL(w w1:World)(x:Nat)(h:w.heap.size≤w1.heap.size):(w1.alloc (.cells #[.int .i64 (x:Int)] 3)).ownsRow w.heap.size 3 1 (.slice (some ⟨w1.heap.size,0,none⟩) 1 1) 1 [.int .i64 (x:Int)]:=
 World.ownsRow_lit w1 #[.int .i64 (x:Int)] 1 h (by unfold maxLen;omega) rfl
theorem qhK{B:Nat}{w w':World}(h:Below B w.drew w'):Below B w w':=⟨h.os,h.tape,h.output,h.size,h.block⟩
theorem qwZ{w w':World}{row:Option Nat}(h:w.grownBy w' row){b o:Nat}(hb:b<w.heap.size)(hr:row≠some b):w'.cell? ⟨b,o,none⟩=w.cell? ⟨b,o,none⟩:=World.cell?_of_block (a:=⟨b,o,none⟩) (qdC h hb hr)
theorem qzX{w w1:World}{lit:Obj}{a c:Value}{t:TypeId}(hb1:Below ((w.alloc (.cells #[a,c] t)).alloc lit).drew.heap.size ((w.alloc (.cells #[a,c] t)).alloc lit).drew w1):
  Below w.heap.size w w1∧(w1.cell? ⟨w.heap.size,0,none⟩=some a∧w1.cell? ⟨w.heap.size,1,none⟩=some c)∧w.heap.size+1<w1.heap.size:=by
 have h:=(qhK hb1);have h2:Below (w.alloc (.cells #[a,c] t)).heap.size (w.alloc (.cells #[a,c] t)) w1:=(aB _ lit).trans (h.mono (by simp));exact⟨(aB _ _).trans (h2.mono (by simp)),bL (aA (heap_alloc_new w _) h2),by have h:=h.size;simp at h;omega⟩
theorem qzU{w w1 w2:World}{H:Nat}(hgrow:w1.grownBy w2 (some H))(hH:H=w.heap.size+1)(Z1:w.heap.size+1<w1.heap.size){b o:Nat}(hbl:b<w.heap.size){a c d:Value}
  (SX:w1.cell? ⟨w.heap.size,0,none⟩=some a∧w1.cell? ⟨w.heap.size,1,none⟩=some c∧w1.cell? ⟨b,o,none⟩=some d) (B1:Below w.heap.size w w1):
  (w2.cell? ⟨w.heap.size,0,none⟩=some a∧w2.cell? ⟨w.heap.size,1,none⟩=some c∧w2.cell? ⟨b,o,none⟩=some d)∧Below w.heap.size w w2:=by
 subst hH;have h1:∀q,q<w.heap.size+1→∀o,w2.cell? ⟨q,o,none⟩=w1.cell? ⟨q,o,none⟩:=λq hq o=>qwZ hgrow (by omega) (by simp;omega);exact⟨⟨(h1 _ (by omega) _).trans SX.1,(h1 _ (by omega) _).trans SX.2.1,(h1 _ (by omega) _).trans SX.2.2⟩,B1.grown hgrow B1.size (λkk e=>by simp at e;omega)⟩
theorem qzW{w w1:World}{a c:Value}{t:TypeId}(hb1:Below (w.alloc (.cells #[a,c] t)).drew.heap.size (w.alloc (.cells #[a,c] t)).drew w1):
  Below w.heap.size w w1∧(w1.cell? ⟨w.heap.size,0,none⟩=some a∧w1.cell? ⟨w.heap.size,1,none⟩=some c)∧w.heap.size<w1.heap.size:=by
 have h2:=qhK hb1;exact⟨(aB _ _).trans (h2.mono (by simp)),bL (aA (heap_alloc_new w _) h2),by have h:=h2.size;simp at h;omega⟩
theorem qzV{w w1 w2:World}{lit:Obj}(hgrow:(w1.alloc lit).grownBy w2 (some w1.heap.size))(Z1:w.heap.size<w1.heap.size){b o:Nat}(hbl:b<w.heap.size){a c d:Value}
  (SX:w1.cell? ⟨w.heap.size,0,none⟩=some a∧w1.cell? ⟨w.heap.size,1,none⟩=some c∧w1.cell? ⟨b,o,none⟩=some d) (B1:Below w.heap.size w w1):
  (w2.cell? ⟨w.heap.size,0,none⟩=some a∧w2.cell? ⟨w.heap.size,1,none⟩=some c∧w2.cell? ⟨b,o,none⟩=some d)∧Below w.heap.size w w2:=by
 have h1:∀q,q<w.heap.size+1→∀o,w2.cell? ⟨q,o,none⟩=w1.cell? ⟨q,o,none⟩:=λq hq o=>(qwZ hgrow (by simp;omega) (by simp;omega)).trans ((aB w1 lit).cell (p:=⟨q,o,none⟩) (show q<w1.heap.size by omega));have B2:Below w.heap.size w (w1.alloc lit):=B1.alloc (by omega) _;exact⟨⟨(h1 _ (by omega) _).trans SX.1,(h1 _ (by omega) _).trans SX.2.1,(h1 _ (by omega) _).trans SX.2.2⟩,B2.grown hgrow B2.size (λkk e=>by simp at e;omega)⟩
theorem qo9(so to:Option Addr)(n sc tn tc:Nat)(ss:List StD)(T:cN ss)(hn:n≤200):∀k:Nat,k<n→∀w,StatesOf w so n ss→
  Calls Tryz.prog 109 #[.agg #[.slice so n sc,.slice to tn tc],.int .i64 k] w λe w'=>∃g cap,e=.returned (.slice (some ⟨g,0,none⟩) (up ss k).length cap)∧bO w w' (.slice (some ⟨g,0,none⟩) (up ss k).length cap) (up ss k)∧(k=0→cap=1)∧Below w.heap.size w w':=by
 intro k
 induction k using Nat.strongRecOn with
 |ind k ih=>
  intro hk w hs;by_cases h0:k=0
  ·subst h0
   clear ih hs;rw[tI];go_enter Tryz.func109,Tryz.ntmps109;go_wp2;go_ret;exact⟨_,_,rfl,by simpa[bO,aG]using qdL w (w.alloc (.cells #[.slice so n sc,.slice to tn tc] 36)) 0 (by simp),λ_=>rfl,aD _ _ _⟩
  ·have hl:=hs.1
   have ht:=T.2 k (by omega) (by omega);obtain⟨p,hp⟩:∃p:Nat,par ss k=p:=⟨(par ss k).toNat,by omega⟩;have hpk:p<k:=by omega
   have hlen:=pS T p (by omega);have hpos:0<(up ss p).length:=by rw[tH T (k:=p) (by omega)];simp
   have E:Hid (up ss k=[k]++up ss p):=hid (by rw[uB T (by omega) (by omega),hp,Int.toNat_natCast];rfl);obtain⟨b,off,rfl,hbl,hc⟩:=hs.2 (by omega);have k1:w.cell? ⟨b,off+k*4,none⟩=some (.int .i64 (p:Int)):=by rw[←hp];exact(hc k hk).1
   have k00:(0:Int)≤(k:Int):=by omega
   have k0:(k:Int)<(n:Int):=by omega
   have kz:((k:Int)==0)=false:=by simpa using h0
   have C:=hid (λw hw=>ih p hpk (by omega) w hw);have HS:Hid (∀w',Below w.heap.size w w'→StatesOf w' (some ⟨b,off,none⟩) n ss):=λw' h=>hs.below h;have m0:0<(up ss p).length:=hpos;have NL:Hid ((aG (up ss p)).length=(up ss p).length*1):=hid (by rw[yZ];omega);have NO:=hid (y6 (up ss p));have m1:(up ss p).length≤200:=by omega
   have F63:Hid (1+(up ss p).length≤maxLen∧(1+(up ss p).length)*8≤140737488355328):=hid (by unfold maxLen;omega);have E2:Hid ((up ss k).length=1+(up ss p).length∧aG (up ss k)=[.int .i64 (k:Int)]++aG (up ss p)):=hid (by rw[E.out];constructor<;>simp[aG];omega);have nb:=World.new_ne w ⟨b,off+k*4,none⟩ k1;obtain⟨i0,hi0,hz0,hz1,hz2⟩:=info_parts Tryz.info3;obtain⟨ob,hob⟩:∃ob:Obj,ob=.cells #[.slice (some ⟨b,off,none⟩) n sc,.slice to tn tc] 36:=⟨_,rfl⟩;have OL:=hid (qdL w (w.alloc ob) k (by simp));rw[hob]at OL;clear ih hs hc ht hp hlen hl hpk hob;go_enter Tryz.func109,Tryz.ntmps109;go_wp2_with fail;go_region_held3(λw'=>w'.cell? ⟨w.heap.size,0,none⟩=some (.slice (some ⟨b,off,none⟩) n sc)∧w'.cell? ⟨w.heap.size,1,none⟩=some (.slice to tn tc)∧w'.cell? ⟨b,off+k*4,none⟩=some (.int .i64 (p:Int))) (first|go_keep|exact SY.out|exact SX.out)
    (first
     |(go_at_call 109;refine(C.out _ (HS.out _ (aD _ _ _).drew)).mono ?_;rintro e w1 ⟨g,cap,rfl,ho,_,hb1⟩;have O1:=hid ho;have O9:=hid (aI OL.out (qhK hb1));have AF:=qzX hb1;have Z1:=hid AF.2.2;have B1:=hid AF.1;have SX:=hid (And.intro AF.2.1.1 (And.intro AF.2.1.2 ((AF.1.cell (p:=⟨b,off+k*4,none⟩) hbl).trans k1)));clear ho hb1 AF)
     |(go_at_call 109;refine(C.out _ (HS.out _ (aB _ _).drew)).mono ?_;rintro e w1 ⟨g,cap,rfl,ho,_,hb1⟩;have O1:=hid ho;have AF:=qzW hb1;have Z1:=hid AF.2.2;have B1:=hid AF.1;have SX:=hid (And.intro AF.2.1.1 (And.intro AF.2.1.2 ((AF.1.cell (p:=⟨b,off+k*4,none⟩) hbl).trans k1)));clear ho hb1 AF)
     |(refine step_append_lies _ (by rfl) _ _ _ (by rfl) w.heap.size 3 i0 _ 1 8 Tryz.underlying30 hi0 hz0 hz1 hz2 rfl (by omega) (.slice (some ⟨(w.alloc (.cells #[.slice (some ⟨b,off,none⟩) n sc,.slice to tn tc] 36)).heap.size,0,none⟩) 1 1) 1 [.int .i64 (k:Int)] (by simp[Act.eval]) O9.out ⟨g,0,none⟩ (up ss p).length cap (aG (up ss p)) (by simp[Act.eval]) NL.out (World.ownsRow.cells O1.out rfl) NO.out m0 F63.out.1 F63.out.2 B1.out.size w1.heap.size rfl ?_;intro gg cap' w2 hown1 hgrow hat hlt;have AP:=qzU (H:=(w.alloc (.cells #[.slice (some ⟨b,off,none⟩) n sc,.slice to tn tc] 36)).heap.size) hgrow (World.size_alloc _ _) Z1.out hbl SX.out B1.out;have SY:=hid AP.1;have B2:=hid AP.2;have O2:=hid hown1;clear AP hown1 hgrow hat)
     |(refine step_append_lies _ (by rfl) _ _ _ (by rfl) w.heap.size 3 i0 _ 1 8 Tryz.underlying30 hi0 hz0 hz1 hz2 rfl (by omega) (.slice (some ⟨w1.heap.size,0,none⟩) 1 1) 1 [.int .i64 (k:Int)] (by simp[Act.eval]) (qdL w w1 k B1.out.size) ⟨g,0,none⟩ (up ss p).length cap (aG (up ss p)) (by simp[Act.eval]) NL.out (World.ownsRow.cells (qHJ O1.out _) rfl) NO.out m0 F63.out.1 F63.out.2 (Nat.le_trans B1.out.size (Nat.le_of_lt (qGR _ _))) (w1.heap.size+1) (World.size_alloc _ _) ?_;intro gg cap' w2 hown1 hgrow hat hlt;have AP:=qzV hgrow Z1.out hbl SX.out B1.out;have SY:=hid AP.1;have B2:=hid AP.2;have O2:=hid hown1;clear AP hown1 hgrow hat)
     )
   all_goals
    go_wp2;go_ret;refine⟨gg,cap',by rw[E2.out.1];rfl,?_,λh=>absurd h h0,B2.out⟩;unfold bO;rw[E2.out.1,E2.out.2];exact O2.out
end Go.Proofs.YtiimkhepplkocaaGreat
namespace Go.Proofs.YtiimkhepplkocaaGreat
open Go.RowKit Go.Sort
attribute [local go_sem ↓] Go.wp_at_zero Go.wp_at_succ
theorem qh5{w w':World}{g n cap:Nat}{l:List Nat}(h:bO w w' (.slice (some ⟨g,0,none⟩) n cap) l)(hn:n=l.length):g<w'.heap.size∧n≤cap∧∀j,j<n→w'.cell? ⟨g,j,none⟩=some (.int .i64 ((l.getD j 0:Nat):Int)):=by
 subst hn;unfold bO at h;rcases h.2 with⟨h0,_⟩|⟨g',cap',cur,e,_,hb,hcap,_⟩
 ·simp at h0
 ·simp at e
  obtain⟨rfl,rfl⟩:=e;refine⟨lt_of_block hb,hcap,λj hj=>?_⟩;rw[h.cellAt j (by omega)];simp[aG,List.getD_eq_getElem?_getD,hj]
theorem qu5{w w1:World}{a c:Value}{t:TypeId}(hb1:Below (w.alloc (.cells #[a,c] t)).heap.size (w.alloc (.cells #[a,c] t)) w1):
  Below w.heap.size w w1∧w1.heap[w.heap.size]? =some (.cells #[a,c] t (0,0)):=
 ⟨(aB _ _).trans (hb1.mono (by simp)),aA (heap_alloc_new w _) hb1⟩
theorem qo7(so to:Option Addr)(n sc tn tc:Nat)(ss:List StD)(T:cN ss)(hn:n≤200)(a k:Nat)(hk:k<n)(w:World)(hs:StatesOf w so n ss):
  Calls Tryz.prog 111 #[.agg #[.slice so n sc,.slice to tn tc],.int .i64 a,.int .i64 k] w λe w'=>e=.returned (.bool (b9 ss a k))∧Below w.heap.size w w':=by
 have C:=hid (qo9 so to n sc tn tc ss T hn k hk (w.alloc (.cells #[.slice so n sc,.slice to tn tc] 36)) (hs.below (aB _ _)));have hl:=hs.1;by_cases h0:k=0
 ·subst h0
  have E:Hid (b9 ss a 0=false):=hid (by simp[b9,tI]);rw[E.out];rw[tI]at C;clear hs hl;go_enter Tryz.func111,Tryz.ntmps111;go_wp2_with(go_at_call 109;refine C.out.mono ?_;rintro e w1 ⟨g,cap,rfl,ho,hcap,hb1⟩;obtain rfl:=hcap rfl;have B1:=hid (qu5 hb1);clear ho hb1);go_loopw [14] (λi wr=>i=.int .i64 0∧wr=w1) (λ_ _=>0)
  case atStart=>exact⟨rfl,rfl⟩
  case round=>
   obtain⟨rfl,rfl⟩:=hrel;go_wp2;go_ret;exact⟨rfl,B1.out.1⟩
 ·obtain⟨l,hll⟩:∃l,(up ss k).length=l+1:=⟨(up ss k).length-1,by rw[tH T (k:=k) (by omega)];simp⟩
  have htl:(up ss k).tail.length=l:=by simp[hll]
  have hl1:1≤l:=by
   rw[qiJ T (by omega) (by omega)]at htl;have ht:=T.2 k (by omega) (by omega);rw[tH T (by omega)]at htl;simp at htl;omega
  have hl2:l≤200:=by have:=pS T k (by omega);omega
  have htg:∀j,(up ss k).tail.getD j 0=(up ss k).getD (1+j) 0:=by
   intro j;rw[tH T (k:=k) (by omega)];simp[List.getD_eq_getElem?_getD,Nat.add_comm]
  have C2:Hid (Calls Tryz.prog 109 #[.agg #[.slice so n sc,.slice to tn tc],.int .i64 k] (w.alloc (.cells #[.slice so n sc,.slice to tn tc] 36)) λe w'=>∃g cap,e=.returned (.slice (some ⟨g,0,none⟩) (l+1) cap)∧l+1≤cap∧(∀j,j<l→w'.cell? ⟨g,1+j,none⟩=some (.int .i64 (((up ss k).tail.getD j 0:Nat):Int)))∧Below w.heap.size w w'):=by
   refine hid (C.out.mono ?_);rintro e w1 ⟨g,cap,rfl,ho,_,hb1⟩;obtain⟨_,h2,h3⟩:=qh5 ho rfl;rw[hll]at h2 h3;exact⟨g,cap,by rw[hll],h2,λj hj=>by rw[h3 (1+j) (by omega),htg],(qu5 hb1).1⟩
  have HT:=hid htl;clear C hs hl hll htl htg;go_enter Tryz.func111,Tryz.ntmps111;go_wp2_with(go_at_call 109;refine C2.out.mono ?_;rintro e w1 ⟨g,cap,rfl,hcap,hc,hb1⟩;have B1:=hid hb1;have CC:=hid hc;have hcap1:¬cap=1:=(by omega);have hci:(1:Int)≤(cap:Int):=(by omega);clear hc hb1);go_loopw [14] (λi wr=>(∃j:Nat,j≤l∧i=.int .i64 j∧Hid (∀q,q<j→¬(up ss k).tail.getD q 0=a))∧wr=w1) (λi _=>l-(intOf i).toNat)
  case atStart=>exact⟨⟨0,Nat.zero_le _,rfl,hid (λq h=>absurd h (by omega))⟩,rfl⟩
  case round=>
   obtain⟨⟨j,hj,rfl,HP⟩,rfl⟩:=hrel;by_cases hlt:j<l
   ·obtain⟨x,hx⟩:∃x,x=(up ss k).tail.getD j 0:=⟨_,rfl⟩
    have hc:=CC.out j hlt;rw[←hx]at hc;have HX:=hid hx;clear hx;by_cases e:x=a
    ·subst e
     go_wp2;go_ret;refine⟨aZ ?_,B1.out⟩;symm;unfold b9;rw[decide_eq_true_iff];rw[HX.out,List.getD_eq_getElem?_getD,List.getElem?_eq_getElem (by rw[HT.out];exact hlt)];exact List.getElem_mem _
    ·have e':((x:Int)==(a:Int))=false:=by simp;omega
     go_wp2;go_roundw
     case rel=>
      refine⟨⟨j+1,by omega,by go_num,hid (λq hq=>?_)⟩,by first|rfl|trivial⟩;by_cases ej:q=j
      ·subst ej;rw[←HX.out];exact e
      ·exact HP.out q (by omega)
     case measure=>simp[intOf];omega
   ·have e:j=l:=by omega
    subst e;go_wp2;go_ret;refine⟨aZ ?_,B1.out⟩;symm;unfold b9;rw[decide_eq_false_iff_not];intro hm;obtain⟨q,hq,e⟩:=List.getElem_of_mem hm;exact HP.out q (by rw[←HT.out];exact hq) (by rw[List.getD_eq_getElem?_getD,List.getElem?_eq_getElem hq];exact e)
theorem qFY(so to:Option Addr)(n sc tn tc:Nat)(ss:List StD)(T:cN ss)(hn:n≤200)(f t:Nat)(hf:f<n)(ht:t<n)(w:World)(hs:StatesOf w so n ss):
  Calls Tryz.prog 110 #[.agg #[.slice so n sc,.slice to tn tc],.int .i64 f,.int .i64 t] w λe w'=>e=.returned (.int .i64 (dom ss f t))∧Below w.heap.size w w':=by
 have HS:Hid (∀w',Below w.heap.size w w'→StatesOf w' so n ss):=λw' h=>hs.below h;have HL:=hid hs.1;clear hs;go_enter Tryz.func110,Tryz.ntmps110;go_wp2;go_loopw [7,12] (λbv i wr=>∃k:Nat,k≤n∧i=.int .i64 k∧bv=.int .i64 (vB (λs=>b9 ss s f&&b9 ss s t) k)∧wr.heap[w.heap.size]? =some (.cells #[.slice so n sc,.slice to tn tc] 36 (0,0))∧Below w.heap.size w wr) (λ_ i _=>n-(intOf i).toNat)
 case atStart=>exact⟨0,Nat.zero_le _,rfl,rfl,heap_alloc_new _ _,aB _ _⟩
 case round=>
  obtain⟨k,hk,rfl,rfl,hq,hb⟩:=hrel;have HB:=hid hb;have HQ:=hid hq;obtain⟨q0,q1⟩:=bL hq;clear hq;by_cases hlt:k<n
  ·have C1:=hid (λw hw=>qo7 so to n sc tn tc ss T hn k f hf w hw)
   have C2:=hid (λw hw=>qo7 so to n sc tn tc ss T hn k t ht w hw);obtain⟨b1,hb1⟩:∃b1,b1=b9 ss k f:=⟨_,rfl⟩;obtain⟨b2,hb2⟩:∃b2,b2=b9 ss k t:=⟨_,rfl⟩;obtain⟨lb,hlb⟩:∃lb,lb=vB (λs=>b9 ss s f&&b9 ss s t) k:=⟨_,rfl⟩;have E:Hid (vB (λs=>b9 ss s f&&b9 ss s t) (k+1)=if(b1&&b2)=true then(k:Int)else lb):=hid (by rw[hb1,hb2,hlb];rfl);rw[←hb1]at C1;rw[←hb2]at C2;rw[←hlb];have S1:=hid (HS.out _ hb);have W1:Hid (∀w1,Below wr.heap.size wr w1→Below w.heap.size w w1∧w1.heap[w.heap.size]? =some (.cells #[.slice so n sc,.slice to tn tc] 36 (0,0))):=hid (λw1 h=>⟨HB.out.trans (h.mono HB.out.size),aA HQ.out h⟩);clear hb hb1 hb2 hlb;cases b1 with
   |false=>
    go_wp2_with(go_at_call_of 111 (Value.int .i64 (f:Int));refine(C1.out _ S1.out).mono ?_;rintro e w1 ⟨rfl,hb1⟩;have V1:=hid (W1.out _ hb1);obtain⟨p0,p1⟩:=bL V1.out.2;clear hb1);go_roundw
    case rel=>exact⟨k+1,by omega,by go_num,by rw[E.out];rfl,V1.out.2,V1.out.1⟩
    case measure=>simp[intOf];omega
   |true=>
    cases b2 with
    |false=>
     go_wp2_with(first|(go_at_call_of 111 (Value.int .i64 (f:Int));refine(C1.out _ S1.out).mono ?_;rintro e w1 ⟨rfl,hb1⟩;have V1:=hid (W1.out _ hb1);obtain⟨p0,p1⟩:=bL V1.out.2;have Y1:=hid hb1;clear hb1)|(go_at_call_of 111 (Value.int .i64 (t:Int));refine(C2.out _ (HS.out _ V1.out.1)).mono ?_;rintro e w2 ⟨rfl,hb2⟩;have V2:=hid (W1.out _ (Y1.out.trans (hb2.mono Y1.out.size)));obtain⟨r0,r1⟩:=bL V2.out.2;clear hb2));go_roundw
     case rel=>exact⟨k+1,by omega,by go_num,by rw[E.out];rfl,V2.out.2,V2.out.1⟩
     case measure=>simp[intOf];omega
    |true=>
     go_wp2_with(first|(go_at_call_of 111 (Value.int .i64 (f:Int));refine(C1.out _ S1.out).mono ?_;rintro e w1 ⟨rfl,hb1⟩;have V1:=hid (W1.out _ hb1);obtain⟨p0,p1⟩:=bL V1.out.2;have Y1:=hid hb1;clear hb1)|(go_at_call_of 111 (Value.int .i64 (t:Int));refine(C2.out _ (HS.out _ V1.out.1)).mono ?_;rintro e w2 ⟨rfl,hb2⟩;have V2:=hid (W1.out _ (Y1.out.trans (hb2.mono Y1.out.size)));obtain⟨r0,r1⟩:=bL V2.out.2;clear hb2));go_roundw
     case rel=>exact⟨k+1,by omega,by go_num,by rw[E.out];rfl,V2.out.2,V2.out.1⟩
     case measure=>simp[intOf];omega
  ·have e:k=n:=by omega
   subst e;clear hb;go_wp2;go_ret;exact⟨aX (by unfold dom;rw[HL.out]),HB.out⟩
end Go.Proofs.YtiimkhepplkocaaGreat
namespace Go.Proofs.YtiimkhepplkocaaGreat
open Go.RowKit Go.Sort
attribute [local go_sem ↓] Go.wp_at_zero Go.wp_at_succ
theorem qxJ(so to:Option Addr)(n sc tn tc:Nat)(ss:List StD)(G:uH ss tn):∀d k:Nat,k<n→n-k=d→∀w,StatesOf w so n ss→
  Calls Tryz.prog 52 #[.agg #[.slice so n sc,.slice to tn tc],.int .i64 k] w λe w'=>∃g cap,e=.returned (.slice (some ⟨g,0,none⟩) (bM ss k).length cap)∧bO w w' (.slice (some ⟨g,0,none⟩) (bM ss k).length cap) (bM ss k)∧Below w.heap.size w w':=by
 intro d
 induction d using Nat.strongRecOn with
 |ind d ih=>
  intro k hk hd w hs;have hl:=hs.1;have hn:n≤200:=by have:=G.n2;omega
  obtain⟨b,off,rfl,hbl,hc⟩:=hs.2 (by omega);have k2:w.cell? ⟨b,off+k*4+1,none⟩=some (.int .i64 (ini ss k)):=(hc k hk).2.1;have k0:(k:Int)<(n:Int):=by omega
  by_cases h0:ini ss k<0
  ·have E:Hid (bM ss k=[]):=hid (qi6 h0)
   rw[E.out];obtain⟨iv,hiv⟩:∃iv,iv=ini ss k:=⟨_,rfl⟩;rw[←hiv]at k2 h0;clear ih hs hc hiv;go_enter Tryz.func52,Tryz.ntmps52;go_wp2;go_ret;refine⟨_,_,rfl,?_,aD _ _ _⟩;have:=World.ownsRow_lit (base:=w.heap.size) (e:=3) (size:=1) (w.alloc (.cells #[.slice (some ⟨b,off,none⟩) n sc,.slice to tn tc] 36)) #[] 0 (by simp) (by unfold maxLen;omega) rfl;simpa[bO,aG]using this
  ·rcases qg7 G (k:=k) (by omega)with e|⟨h1,h2⟩
   ·omega
   obtain⟨p,hp⟩:∃p:Nat,ini ss k=p:=⟨(ini ss k).toNat,by omega⟩;have hlen:=qa6 G (n-p) p (by omega) (by omega);have E:Hid (bM ss k=[p]++bM ss p):=hid (by rw[qi5 G (by omega) h0,hp,Int.toNat_natCast];rfl);have E2:Hid ((bM ss k).length=1+(bM ss p).length∧aG (bM ss k)=[.int .i64 (p:Int)]++aG (bM ss p)):=hid (by rw[E.out];constructor<;>simp[aG];omega);have NL:Hid ((aG (bM ss p)).length=(bM ss p).length*1):=hid (by rw[yZ];omega);have NO:=hid (y6 (bM ss p));have F63:Hid (1+(bM ss p).length≤maxLen∧(1+(bM ss p).length)*8≤140737488355328):=hid (by unfold maxLen;omega);have HS:Hid (∀w',Below w.heap.size w w'→StatesOf w' (some ⟨b,off,none⟩) n ss):=λw' h=>hs.below h;have C:=hid (λw hw=>ih (n-p) (by omega) p (by omega) rfl w hw);have OL:=hid (qdL w (w.alloc (.cells #[.slice (some ⟨b,off,none⟩) n sc,.slice to tn tc] 36)) p (by simp));obtain⟨i0,hi0,hz0,hz1,hz2⟩:=info_parts Tryz.info3;have hnn:¬(p:Int)<0:=by omega
   rw[hp]at k2;clear ih hs hc h0 h1 h2 hp hlen;go_enter Tryz.func52,Tryz.ntmps52;go_wp2_with(first|(go_at_call 52;refine(C.out _ (HS.out _ (aD _ _ _))).mono ?_;rintro e w1 ⟨g,cap,rfl,ho,hb1⟩;have O1:=hid ho;have O9:=hid (aI OL.out hb1);have B1:=hid ((aD _ _ _).trans (hb1.mono (by simp;omega)));clear ho hb1)|(at_builtin;refine wpList_append_own _ rfl (.tmp 16) (.tmp 19) 30 rfl w.heap.size 3 i0 _ 1 8 Tryz.underlying30 hi0 hz0 hz1 hz2 rfl (by decide) (.slice (some ⟨w.heap.size+1,0,none⟩) 1 1) 1 [.int .i64 (p:Int)] rfl (by simpa using O9.out) ⟨g,0,none⟩ (bM ss p).length cap (aG (bM ss p)) rfl NL.out (World.ownsRow.cells O1.out rfl) NO.out F63.out.1 F63.out.2 B1.out.size ?_));intro v' w2 hown hgrow _;obtain⟨gg,cap',rfl,_,_⟩:=World.ownsRow.form hown (by omega);have O2:=hid hown;have B2:=hid (B1.out.grown hgrow B1.out.size (λkk e=>by simp[Value.ownBlock]at e;omega));clear hown hgrow;go_wp2;go_ret;refine⟨gg,cap',by rw[E2.out.1];rfl,?_,B2.out⟩;unfold bO;rw[E2.out.1,E2.out.2];exact O2.out
end Go.Proofs.YtiimkhepplkocaaGreat
namespace Go.Proofs.YtiimkhepplkocaaGreat
open Go.RowKit Go.Sort
attribute [local go_sem ↓] Go.wp_at_zero Go.wp_at_succ
theorem qAK{ss:List StD}{k:Nat}(h0:¬k=0):cY ss k=!(aQ (par ss k) 0 ((k:Int)-1)):=by
 unfold cY aQ;rw[if_neg h0,Bool.eq_iff_iff];simp;omega
def qiS(ss:List StD)(tn:Nat)(lim:Bool):Prop:=1≤ss.length∧ss.length≤200∧tn≤500∧lim=true
theorem qhQ{w wr w1:World}{ob cb:Obj}(HB:Below w.heap.size w wr)(HQ:wr.heap[w.heap.size]? =some cb)(hb1:Below (wr.alloc ob).heap.size (wr.alloc ob) w1):
  Below w.heap.size w w1∧w1.heap[w.heap.size]? =some cb∧w1.heap[wr.heap.size]? =some ob:=
 ⟨(HB.alloc HB.size ob).trans (hb1.mono (by simp;have:=HB.size;omega)),aA ((heap_alloc_old _ _ (lt_of_block HQ)).trans HQ) hb1,aA (heap_alloc_new wr ob) hb1⟩
theorem qAI{ss:List StD}{i:Nat}(h:bK ss ss.length i=[]):gI ss i=!(decide (ini ss i=-1)):=by unfold gI;rw[if_pos h]
theorem qAJ{ss:List StD}{i:Nat}(h:¬bK ss ss.length i=[]):gI ss i=!(decide (0≤ini ss i∧ini ss i<ss.length∧par ss (ini ss i).toNat=i)):=by unfold gI;rw[if_neg h]
theorem qFZ(so to:Option Addr)(n sc tn tc:Nat)(ss:List StD)(o s t v:Int)(w:World)(hn:n≤9223372036854775807)(htn:tn≤9223372036854775807)(hs:StatesOf w so n ss):
  Calls Tryz.prog 106 #[.agg #[.slice so n sc,.slice to tn tc],.agg #[.int .i64 o,.int .i64 s,.int .i64 t,.int .i64 v]] w λe w'=>e=.returned (.tuple #[.int .i64 (bN ss tn (bC ⟨o,s,t,v⟩)).1,.int .i64 (bN ss tn (bC ⟨o,s,t,v⟩)).2])∧Below w.heap.size w w':=by
 have HL:=hid hs.1;have HS:Hid (∀w',Below w.heap.size w w'→StatesOf w' so n ss):=λw' h=>hs.below h;obtain⟨b1,hb1⟩:∃b,b=aQ n 1 200:=⟨_,rfl⟩;obtain⟨b3,hb3⟩:∃b,b=bC ⟨o,s,t,v⟩:=⟨_,rfl⟩;have C1:=hid (sS n 1 200 b1 hb1);have C3:Hid (∀w,Calls Tryz.prog 144 #[.agg #[.int .i64 o,.int .i64 s,.int .i64 t,.int .i64 v]] w λe w'=>e=.returned (.bool b3)∧Below w.heap.size w w'):=hid (by rw[hb3];exact qxH o s t v);rw[←hb3];have H1:Hid (b1=true↔1≤n∧n≤200):=hid (by rw[hb1];unfold aQ;rw[decide_eq_true_iff];omega);clear hb1 hb3;cases b1 with
 |false=>
  have E:Hid (bN ss tn b3=(1,0)):=hid (qhY (by intro h;have:=H1.out.2 (by rw[HL.out]at h;exact⟨h.1,h.2.1⟩);cases this));rw[E.out];clear hs;go_enter Tryz.func106,Tryz.ntmps106;go_wp2_with(go_at_call 55;refine(C1.out _).mono ?_;rintro e w1 ⟨rfl,hw⟩;obtain rfl:=hw.symm);go_ret2;exact⟨rfl,aD _ _ _⟩
 |true=>
  obtain⟨n1,n2⟩:=H1.out.1 rfl;by_cases h500:tn≤500
  case neg=>
   have g5:(500:Int)<(tn:Int):=by omega
   have E:Hid (bN ss tn b3=(1,0)):=hid (qhY (by intro h;omega));rw[E.out];clear hs;go_enter Tryz.func106,Tryz.ntmps106;go_wp2_with(go_at_call 55;refine(C1.out _).mono ?_;rintro e w1 ⟨rfl,hw⟩;obtain rfl:=hw.symm);go_ret2;exact⟨rfl,aD _ _ _⟩
  have g5:¬(500:Int)<(tn:Int):=by omega
  have g5':decide ((500:Int)<(tn:Int))=false:=by simpa using g5
  cases b3 with
  |false=>
   have E:Hid (bN ss tn false=(1,0)):=hid (qhY (by intro h;cases h.2.2.2));rw[E.out];clear hs;go_enter Tryz.func106,Tryz.ntmps106;go_wp2_with(first|(go_at_call 55;refine(C1.out _).mono ?_;rintro e w1 ⟨rfl,hw⟩;obtain rfl:=hw.symm)|(go_at_call 144;refine(C3.out _).mono ?_;rintro e w1 ⟨rfl,hb⟩;have HB:=hid hb;clear hb));go_ret2;exact⟨rfl,(aD _ _ _).trans (HB.out.mono (by simp;omega))⟩
  |true=>
   have HC:Hid (qiS ss tn true):=hid (by unfold qiS;rw[HL.out];exact⟨n1,n2,h500,rfl⟩);obtain⟨b,off,rfl,hbl,hc⟩:=hs.2 (by omega);have HA:=hid hc;clear hs hc;go_enter Tryz.func106,Tryz.ntmps106;go_wp2_with(first|(go_at_call 55;refine(C1.out _).mono ?_;rintro e w1 ⟨rfl,hw⟩;obtain rfl:=hw.symm)|(go_at_call 144;refine(C3.out _).mono ?_;rintro e w1 ⟨rfl,hb⟩;have Q0:=hid (aA (aA (heap_alloc_new w _) (aB _ _)) hb);have B0:=hid ((aD _ _ _).trans (hb.mono (by simp;omega)));obtain⟨q0,q1⟩:=bL Q0.out;clear hb))
   --the parents
   go_loopw [31] (λi wr=>∃k:Nat,k≤n∧i=.int .i64 k∧Hid (∀j,j<k→cY ss j=false)∧wr.heap[w.heap.size]? =some (.cells #[.slice (some ⟨b,off,none⟩) n sc,.slice to tn tc] 36 (0,0))∧Below w.heap.size w wr) (λi _=>n-(intOf i).toNat)
   case atStart=>exact⟨0,Nat.zero_le _,rfl,hid (λj h=>absurd h (by omega)),Q0.out,B0.out⟩
   case round=>
    obtain⟨k,hk,rfl,HP,hq,hb⟩:=hrel;have HB:=hid hb;have HQ:=hid hq;have hz:w.heap.size≤wr.heap.size:=hb.size;have hzl:w.heap.size<wr.heap.size:=lt_of_block hq;obtain⟨r0,r1⟩:=bL hq;clear hq;by_cases hlt:k<n
    ·obtain⟨k1,k2,⟨co,cn,cc,k3,_,_⟩,⟨do_,dn,dc,k4,_,_⟩⟩:=HA.out k hlt
     have k1:wr.cell? ⟨b,off+k*4,none⟩=some (.int .i64 (par ss k)):=(hb.cell (p:=⟨b,off+k*4,none⟩) hbl).trans k1;have k2:=(hb.cell (p:=⟨b,off+k*4+1,none⟩) hbl).trans k2;have k3:=(hb.cell (p:=⟨b,off+k*4+2,none⟩) hbl).trans k3;have k4:=(hb.cell (p:=⟨b,off+k*4+3,none⟩) hbl).trans k4;obtain⟨pv,hpv⟩:∃pv,pv=par ss k:=⟨_,rfl⟩;rw[←hpv]at k1;have kn:(k:Int)<(n:Int):=by omega
     clear hb;by_cases h0:k=0
     ·subst h0
      simp only[Nat.zero_mul,Nat.add_zero]at k1 k2 k3 k4;by_cases hp:pv=-1
      ·have BG:Hid (cY ss 0=false):=hid (by simp[cY,←hpv,hp])
       subst hp;clear hpv;go_wp2_with fail;go_roundw
       case rel=>
        refine⟨0+1,by omega,by go_num,hid (λj hj=>?_),(heap_alloc_old _ _ hzl).trans HQ.out,HB.out.alloc hz _⟩;have:j=0:=by omega
        subst this;exact BG.out
       case measure=>simp[intOf];omega
      ·have BG:Hid (cY ss 0=true):=hid (by simp[cY,←hpv,hp])
       have hp':(pv !=-1)=true:=by simpa using hp
       have E:Hid (bN ss tn true=(2,((0:Nat):Int))):=hid (qi9 HC.out (by rw[HL.out];exact hlt) BG.out (λj h=>absurd h (by omega)));clear hpv;go_wp2_with fail;go_ret2;rw[E.out];exact⟨rfl,HB.out.alloc hz _⟩
     ·have kz:((k:Int)==0)=false:=by simpa using h0
      have kp:(0:Int)<(k:Int):=by omega
      have BE:Hid (cY ss k=!(aQ pv 0 ((k:Int)-1))):=hid (by rw[hpv];exact qAK h0);obtain⟨bb,hbb⟩:∃bb,bb=aQ pv 0 ((k:Int)-1):=⟨_,rfl⟩;have CB:=hid (sS pv 0 ((k:Int)-1) bb hbb);rw[←hbb]at BE;clear hpv hbb;cases bb with
      |true=>
       go_wp2_with(go_at_call 55;refine(CB.out _).mono ?_;rintro e w1 ⟨rfl,hw⟩;obtain rfl:=hw.symm);go_roundw
       case rel=>
        refine⟨k+1,by omega,by go_num,hid (λj hj=>?_),(heap_alloc_old _ _ hzl).trans HQ.out,HB.out.alloc hz _⟩;by_cases e:j=k
        ·subst e;rw[BE.out];rfl
        ·exact HP.out j (by omega)
       case measure=>simp[intOf];omega
      |false=>
       have E:Hid (bN ss tn true=(2,(k:Int))):=hid (qi9 HC.out (by rw[HL.out];exact hlt) (by rw[BE.out];rfl) HP.out);go_wp2_with(go_at_call 55;refine(CB.out _).mono ?_;rintro e w1 ⟨rfl,hw⟩;obtain rfl:=hw.symm);go_ret2;rw[E.out];exact⟨rfl,HB.out.alloc hz _⟩
    ·have e:k=n:=by omega
     subst e;have HP':Hid (∀j,j<ss.length→cY ss j=false):=hid (by rw[HL.out];exact HP.out);have T:cN ss:=qj6 (by rw[HL.out];omega) HP'.out;clear hb HP;go_wp2
     --the depths
     go_loopw [60] (λi wr=>∃q:Nat,q≤k∧i=.int .i64 q∧Hid (∀j,j<q→uE ss j=false)∧wr.heap[w.heap.size]? =some (.cells #[.slice (some ⟨b,off,none⟩) k sc,.slice to tn tc] 36 (0,0))∧Below w.heap.size w wr) (λi _=>k-(intOf i).toNat)
     case atStart=>exact⟨0,Nat.zero_le _,rfl,hid (λj h=>absurd h (by omega)),HQ.out,HB.out⟩
     case round=>
      obtain⟨q,hqk,rfl,HD,hq,hb⟩:=hrel;have HB:=hid hb;have HQ:=hid hq;have hz:w.heap.size≤wr.heap.size:=hb.size;have hzl:w.heap.size<wr.heap.size:=lt_of_block hq;obtain⟨r0,r1⟩:=bL hq;clear hq;by_cases hlt:q<k
      ·have CD:=hid (qFX (some ⟨b,off,none⟩) to k sc tn tc ss T n2 q hlt wr (HS.out _ hb))
       obtain⟨m,hm⟩:∃m,m=((up ss q).length:Int):=⟨_,rfl⟩;have BD:Hid (uE ss q=decide (17≤m)):=hid (by rw[hm,Bool.eq_iff_iff];simp[uE];omega);have hmb:m≤200:=by have:=pS T q (by rw[HL.out];omega);omega
       have hm0:0≤m:=by omega
       rw[←hm]at CD;clear hb hm;by_cases h17:17≤m
       ·have t1:(16:Int)≤m-1:=by omega
        have E:Hid (bN ss tn true=(3,(q:Int))):=hid (qwN HC.out HP'.out (by rw[HL.out];exact hlt) (by rw[BD.out];simpa using h17) HD.out);go_wp2_with(go_at_call 145;refine CD.out.mono ?_;rintro e w1 ⟨rfl,hb1⟩;have B1:=hid hb1;clear hb1);go_ret2;rw[E.out];exact⟨rfl,HB.out.trans (B1.out.mono HB.out.size)⟩
       ·have t1:¬(16:Int)≤m-1:=by omega
        go_wp2_with(go_at_call 145;refine CD.out.mono ?_;rintro e w1 ⟨rfl,hb1⟩;have B1:=hid hb1;clear hb1);go_roundw
        case rel=>
         refine⟨q+1,by omega,by go_num,hid (λj hj=>?_),aA HQ.out B1.out,HB.out.trans (B1.out.mono HB.out.size)⟩;by_cases e:j=q
         ·subst e;rw[BD.out];simpa using h17
         ·exact HD.out j (by omega)
        case measure=>simp[intOf];omega
      ·have e:q=k:=by omega
       subst e;have HD':Hid (∀j,j<ss.length→uE ss j=false):=hid (by rw[HL.out];exact HD.out);clear hb HD;go_wp2
       --the initial states
       go_loopw [72] (λi wr=>∃p:Nat,p≤q∧i=.int .i64 p∧Hid (∀j,j<p→gI ss j=false)∧wr.heap[w.heap.size]? =some (.cells #[.slice (some ⟨b,off,none⟩) q sc,.slice to tn tc] 36 (0,0))∧Below w.heap.size w wr) (λi _=>q-(intOf i).toNat)
       case atStart=>exact⟨0,Nat.zero_le _,rfl,hid (λj h=>absurd h (by omega)),HQ.out,HB.out⟩
       case round=>
        obtain⟨p,hpq,rfl,HI,hq,hb⟩:=hrel;have HB:=hid hb;have HQ:=hid hq;have hz:w.heap.size≤wr.heap.size:=hb.size;have hzl:w.heap.size<wr.heap.size:=lt_of_block hq;obtain⟨r0,r1⟩:=bL hq;clear hq;by_cases hlt:p<q
        ·obtain⟨k1,k2,⟨co,cn,cc,k3,_,_⟩,⟨do_,dn,dc,k4,_,_⟩⟩:=HA.out p hlt
         have k1:=(hb.cell (p:=⟨b,off+p*4,none⟩) hbl).trans k1;have k2:wr.cell? ⟨b,off+p*4+1,none⟩=some (.int .i64 (ini ss p)):=(hb.cell (p:=⟨b,off+p*4+1,none⟩) hbl).trans k2;have k3:=(hb.cell (p:=⟨b,off+p*4+2,none⟩) hbl).trans k3;have k4:=(hb.cell (p:=⟨b,off+p*4+3,none⟩) hbl).trans k4;obtain⟨pv,hpv⟩:∃pv,pv=(ss.getD p st0).parent:=⟨_,rfl⟩;rw[←hpv]at k1;have kn:(p:Int)<(q:Int):=by omega
         obtain⟨ob,hob⟩:∃ob:Obj,ob=.cells #[.int .i64 pv,.int .i64 (ini ss p),.slice co cn cc,.slice do_ dn dc] 65:=⟨_,rfl⟩;have CH:=hid (qo8 (some ⟨b,off,none⟩) to q sc tn tc ss p (wr.alloc ob) (by omega) (HS.out _ (hb.alloc hz _)));rw[hob]at CH;clear hpv hob;by_cases hkd:bK ss ss.length p=[]
         ·have BI:=hid (qAI hkd)
          have ED:Hid (decide (¬bK ss ss.length p=[])=false):=hid (by simp[hkd]);rw[ED.out]at CH;obtain⟨iv,hiv⟩:∃iv,iv=ini ss p:=⟨_,rfl⟩;rw[←hiv]at k2 CH BI;clear hb hkd hiv;by_cases h1:iv=-1
          ·subst h1
           go_wp2_with(go_at_call 49;refine CH.out.mono ?_;rintro e w1 ⟨rfl,hb1⟩;have V1:=hid (qhQ HB.out HQ.out hb1);clear hb1);go_roundw
           case rel=>
            refine⟨p+1,by omega,by go_num,hid (λj hj=>?_),V1.out.2.1,V1.out.1⟩;by_cases e:j=p
            ·subst e;rw[BI.out];rfl
            ·exact HI.out j (by omega)
           case measure=>simp[intOf];omega
          ·have h1':(iv==-1)=false:=by simpa using h1
           have E:Hid (bN ss tn true=(4,(p:Int))):=hid (qi8 HC.out HP'.out HD'.out (by rw[HL.out];exact hlt) (by rw[BI.out];simpa using h1) HI.out);go_wp2_with(go_at_call 49;refine CH.out.mono ?_;rintro e w1 ⟨rfl,hb1⟩;have V1:=hid (qhQ HB.out HQ.out hb1);clear hb1);go_ret2;rw[E.out];exact⟨rfl,V1.out.1⟩
         ·have BI:=hid (qAJ hkd)
          have ED:Hid (decide (¬bK ss ss.length p=[])=true):=hid (by simp[hkd]);rw[ED.out]at CH;obtain⟨iv,hiv⟩:∃iv,iv=ini ss p:=⟨_,rfl⟩;rw[←hiv]at k2 CH BI;obtain⟨bb,hbb⟩:∃bb,bb=aQ iv 0 ((q:Int)-1):=⟨_,rfl⟩;have CB:=hid (sS iv 0 ((q:Int)-1) bb hbb);have HBB:=hid hbb;clear hkd hiv hbb;cases bb with
          |false=>
           have E:Hid (bN ss tn true=(4,(p:Int))):=hid (qi8 HC.out HP'.out HD'.out (by rw[HL.out];exact hlt) (by
            rw[BI.out];have:=HBB.out;unfold aQ at this;have:=of_decide_eq_false this.symm;rw[HL.out];simp only[Bool.not_eq_true',decide_eq_false_iff_not];omega) HI.out)
           clear hb;go_wp2_with(first|(go_at_call 49;refine CH.out.mono ?_;rintro e w1 ⟨rfl,hb1⟩;have V1:=hid (qhQ HB.out HQ.out hb1);obtain⟨x0,x1⟩:=bL V1.out.2.1;obtain⟨y0,y1,y2,y3⟩:=aC V1.out.2.2;clear hb1)|(go_at_call 55;refine(CB.out _).mono ?_;rintro e w2 ⟨rfl,hw⟩;obtain rfl:=hw.symm));go_ret2;rw[E.out];exact⟨rfl,V1.out.1⟩
          |true=>
           obtain⟨hi0,hi1⟩:0≤iv∧iv≤(q:Int)-1:=by have:=HBB.out;unfold aQ at this;exact of_decide_eq_true this.symm
           obtain⟨j,rfl⟩:∃j:Nat,iv=j:=⟨iv.toNat,by omega⟩;have hjq:j<q:=by omega
           have jn:(j:Int)<(q:Int):=by omega
           obtain⟨fv,hfv⟩:∃fv,fv=par ss j:=⟨_,rfl⟩;have c1:w.cell? ⟨b,off+j*4,none⟩=some (.int .i64 fv):=by rw[hfv];exact(HA.out j hjq).1
           have BI2:Hid (gI ss p=!(decide (fv=p))):=hid (by
            rw[BI.out,HL.out,Int.toNat_natCast,←hfv,Bool.eq_iff_iff];simp;omega)
           clear hfv hb;by_cases hf:fv=(p:Int)
           ·subst hf
            go_wp2_with(first|(go_at_call 49;refine CH.out.mono ?_;rintro e w1 ⟨rfl,hb1⟩;have V1:=hid (qhQ HB.out HQ.out hb1);obtain⟨x0,x1⟩:=bL V1.out.2.1;obtain⟨y0,y1,y2,y3⟩:=aC V1.out.2.2;have z1:=(V1.out.1.cell (p:=⟨b,off+j*4,none⟩) hbl).trans c1;clear hb1)|(go_at_call 55;refine(CB.out _).mono ?_;rintro e w2 ⟨rfl,hw⟩;obtain rfl:=hw.symm));go_roundw
            case rel=>
             refine⟨p+1,by omega,by go_num,hid (λj' hj=>?_),V1.out.2.1,V1.out.1⟩;by_cases e:j'=p
             ·subst e;rw[BI2.out];simp
             ·exact HI.out j' (by omega)
            case measure=>simp[intOf];omega
           ·have hf':(fv==(p:Int))=false:=by simpa using hf
            have E:Hid (bN ss tn true=(4,(p:Int))):=hid (qi8 HC.out HP'.out HD'.out (by rw[HL.out];exact hlt) (by rw[BI2.out];simpa using hf) HI.out);go_wp2_with(first|(go_at_call 49;refine CH.out.mono ?_;rintro e w1 ⟨rfl,hb1⟩;have V1:=hid (qhQ HB.out HQ.out hb1);obtain⟨x0,x1⟩:=bL V1.out.2.1;obtain⟨y0,y1,y2,y3⟩:=aC V1.out.2.2;have z1:=(V1.out.1.cell (p:=⟨b,off+j*4,none⟩) hbl).trans c1;clear hb1)|(go_at_call 55;refine(CB.out _).mono ?_;rintro e w2 ⟨rfl,hw⟩;obtain rfl:=hw.symm));go_ret2;rw[E.out];exact⟨rfl,V1.out.1⟩
        ·have e:p=q:=by omega
         subst e;have E:Hid (bN ss tn true=(0,0)):=hid (qwO HC.out HP'.out HD'.out (by rw[HL.out];exact HI.out));clear hb;go_wp2;go_ret2;rw[E.out];exact⟨rfl,HB.out⟩
end Go.Proofs.YtiimkhepplkocaaGreat
namespace Go.Proofs.YtiimkhepplkocaaGreat
open Go.RowKit Go.Sort
attribute [local go_sem ↓] Go.wp_at_zero Go.wp_at_succ
theorem qHL(w w1:World)(h:w.heap.size≤w1.heap.size):bO w (w1.alloc (.cells #[] 3)) (.slice (some ⟨w1.heap.size,0,none⟩) 0 0) []:=
 World.ownsRow_lit w1 #[] 0 h (by unfold maxLen;omega) rfl
theorem qHK{w w0 w':World}{v:Value}{l:List Nat}(h:bO w0 w' v l)(hs:w.heap.size≤w0.heap.size):bO w w' v l:=
 ⟨h.1,h.2.imp id λ⟨g,cap,cur,h1,h2,h3⟩=>⟨g,cap,cur,h1,Nat.le_trans hs h2,h3⟩⟩
end Go.Proofs.YtiimkhepplkocaaGreat
