import Derived.Test.YtiimkhepplkocaaGreatV7
set_option maxRecDepth 100000
set_option maxHeartbeats 16000000
namespace Go.Proofs.YtiimkhepplkocaaGreat
open Go.RowKit Go.Sort
set_option linter.unusedVariables false
attribute [local go_sem ↓] Go.wp_at_zero Go.wp_at_succ
theorem qJ2{l:aE}{s:aH}(h:(aN l s).isSome=true):(s.kind=1∧0≤s.a∧s.a<l.v∧∃t,aV s.code l.v=some t)∨(s.kind≠1∧bX s.kind=true∧∃t,aV s.code l.v=some t)∨(s.kind≠1∧bX s.kind=false∧s.code.length=0):=by
 by_cases h1:s.kind=1
 ·refine .inl ⟨h1,?_⟩
  unfold aN at h;split at h
  ·cases h
  ·rename_i hf
   simp[cF,tK,h1]at hf;rw[if_neg (by omega),if_neg (by omega),if_neg (by omega)]at h;cases ht:aV s.code l.v with
   |none=>rw[ht]at h;cases h
   |some t=>exact⟨by omega,by omega,t,rfl⟩
 ·by_cases h2:bX s.kind=true
  ·refine .inr (.inl ⟨h1,h2,?_⟩)
   simp[bX]at h2;unfold aN at h;split at h
   ·cases h
   ·rw[if_neg h2.1,if_neg h2.2.1,if_neg h2.2.2]at h
    cases ht:aV s.code l.v with
    |none=>rw[ht]at h;cases h
    |some t=>exact⟨t,rfl⟩
  ·refine .inr (.inr ⟨h1,by simpa using h2,?_⟩)
   unfold aN at h;split at h
   ·cases h
   ·rename_i hf
    simp[cF,h2]at hf;simpa using hf.2.2.2.2
theorem qJ5{w:World}{b off n:Nat}{s:aH}{r:List aH}(h:StmsOf w (some ⟨b,off,none⟩) (n+1) (s::r)):StmsOf w (some ⟨b,off+4,none⟩) n r:=by
 obtain⟨hl,hc⟩:=h;refine⟨by simpa using hl,λhn=>?_⟩;obtain⟨b',off',e,hb,hcell⟩:=hc (by omega);simp only[Option.some.injEq,Addr.mk.injEq]at e;obtain⟨rfl,rfl,_⟩:=e;refine⟨b,off+4,rfl,hb,λi hi=>?_⟩;have:=hcell (i+1) (by omega);rw[show off+(i+1)*4=off+4+i*4 by omega]at this;simpa using this
theorem qzO{vs:List Int}{i:Nat}{x:Int}(h:∀j,I64 (vs.getD j 0))(hx:I64 x):∀j,I64 ((vs.set i x).getD j 0):=by
 intro j;have h0:I64 0:=by simp[I64]
 rw[List.getD_eq_getElem?_getD,List.getElem?_set];split
 ·split
  ·simpa using hx
  ·simpa using h0
 ·rw[←List.getD_eq_getElem?_getD];exact h j
theorem qFR(l:aE)(kA:Option Addr)(kn kc:Nat)(ks:List Int)(arg:Int)(ha:I64 arg)(hkn:kn≤32)(hl:l.v=kn)(hks:ks.length=kn)(hkk:∀i,i<ks.length→1≤ks.getD i 0∧ks.getD i 0≤7):∀(ss:List aH) (ad:Addr) (n c:Nat) (vA:Option Addr) (vc:Nat) (vs:List Int) (w:World),n≤1000000→n≤c→(∀s∈ss,(aN l s).isSome=true)→(∀i,I64 (vs.getD i 0))→
  StmsOf w (some ad) n ss→SliceOf w kA kn ks→SliceOf w vA kn vs→
  Calls Tryz.prog 113 #[.slice (some ad) n c,.slice kA kn kc,.slice vA kn vc,.int .i64 arg] w λe w'=>∃lv ev,e=.returned (.tuple #[lv,ev])∧Own w' w.heap.size lv (aL l.v ks arg vs ss).1∧w'.ownsRow w.heap.size 136 4 ev (aL l.v ks arg vs ss).2.length (aT (aL l.v ks arg vs ss).2)∧ev≠.slice none 0 0∧Below w.heap.size w w':=by
 intro ss
 induction ss with
 |nil=>
  intro ad n c vA vc vs w hn hnc hok hi hs hk hv;obtain rfl:n=0:=hs.1.symm;exact qFT _ _ _ _ _ _ _ _ vs arg w (by omega) hv
 |cons s r ih=>
  intro ad n c vA vc vs w hn hnc hok hi hs hk hv;obtain⟨m,rfl⟩:∃m,n=m+1:=⟨r.length,by rw[←hs.1];rfl⟩;obtain⟨b,off,e,hbl,hc⟩:=hs.2 (by omega);simp only[Option.some.injEq]at e;subst e;have h0:=hc 0 (by omega);simp only[List.getD_cons_zero,Nat.zero_mul,Nat.add_zero]at h0;obtain⟨x1,x2,x3,co,cn,cc,x4,hcn,hit⟩:=h0;have ht:=qJ5 hs;have hvl:vs.length=kn:=hv.1;obtain⟨sk,sa,sb,code⟩:=s;simp only at x1 x2 x3 x4 hit;have hcl:code.length=cn:=hit.1;have len2:=qhW l.v ks arg r;have hrl:r.length=m:=by have:=hs.1;simpa using this
  have rest:∀(ad:Addr) (c':Nat),(c=1∧ad=⟨b,off,none⟩∧c'=0)∨(¬c=1∧ad=⟨b,off+4,none⟩∧c'=c-1)→∀(vs':List Int),(∀i,I64 (vs'.getD i 0))→∀(g cap:Nat) (w':World),Below w.heap.size w w'→Own w' w.heap.size (.slice (some ⟨g,0,none⟩) kn cap) vs'→vs'.length=kn→
    Calls Tryz.prog 113 #[.slice (some ad) m c',.slice kA kn kc,.slice (some ⟨g,0,none⟩) kn cap,.int .i64 arg] w' λe w''=>∃lv ev,e=.returned (.tuple #[lv,ev])∧Own w'' w'.heap.size lv (aL l.v ks arg vs' r).1∧w''.ownsRow w'.heap.size 136 4 ev (aL l.v ks arg vs' r).2.length (aT (aL l.v ks arg vs' r).2)∧ev≠.slice none 0 0∧Below w'.heap.size w' w'':=by
   intro ad c' had vs' hi' g cap w' hb ho hl';refine ih ad m c' (some ⟨g,0,none⟩) cap vs' w' (by omega) (by omega) (λs hs=>hok s (List.mem_cons_of_mem _ hs)) hi' ?_ (hk.below hb) (by have:=ho.slice;exact this);rcases had with⟨h1,rfl,_⟩|⟨_,rfl,_⟩
   ·exact⟨hrl,λh=>by omega⟩
   ·exact ht.below hb
  have pick:∃(ad:Addr) (c':Nat),(c=1∧ad=⟨b,off,none⟩∧c'=0)∨(¬c=1∧ad=⟨b,off+4,none⟩∧c'=c-1):=by
   by_cases h1:c=1
   ·exact⟨_,_,.inl ⟨h1,rfl,rfl⟩⟩
   ·exact⟨_,_,.inr ⟨h1,rfl,rfl⟩⟩
  obtain⟨ad',c',had⟩:=pick;have R:=rest ad' c' had;rcases qJ2 (hok _ (List.mem_cons_self ..))with⟨hk1,ha0,ha1,t,hlt⟩|⟨hk1,hhb,t,hlt⟩|⟨hk1,hhb,hc0⟩
  ·simp only at hk1 ha0 ha1 hlt
   subst hk1;obtain⟨i,rfl⟩:∃i:Nat,sa=i:=⟨sa.toNat,by omega⟩;have hva:=qqH (c:=cc) (vc:=vc) hit hv hi ha (t:=t) (by rw[←hl];exact hlt);have hst:cP l.v ks arg vs ⟨1,i,sb,code⟩=(vs.set i (conv (ks.getD i 0) (a8 vs arg t)),[]):=by simp[cP,yX,hlt]
   have hI:=qzO (i:=i) hi (qoD (k:=ks.getD i 0) hva.1);simp only[aL,hst,List.nil_append];refine qFV b off m c kA kn kc vA kn vc ks vs arg i sb co cn cc (a8 vs arg t) w (by omega) (by omega) hkn hkn hk hv hbl x1 x2 x3 x4 (by rw[←hcl];have:=(qh3 hlt).2.1;omega) hva.2 hva.1 (by omega) (by omega) (hkk i (by omega)).1 (hkk i (by omega)).2 _ _ (by have:=(len2 (vs.set i (conv (ks.getD i 0) (a8 vs arg t)))).2;omega) ad' c' had ?_;intro g cap w' hb ho;exact R _ hI g cap w' hb ho (by rw[List.length_set];exact hvl)
  ·simp only at hk1 hhb hlt
   have hva:=qqH (c:=cc) (vc:=vc) hit hv hi ha (t:=t) (by rw[←hl];exact hlt);have hst:cP l.v ks arg vs ⟨sk,sa,sb,code⟩=(vs,[⟨sk,sa,sb,a8 vs arg t⟩]):=by simp[cP,yX,hlt,hk1,hhb]
   simp only[aL,hst,List.singleton_append];refine qFS b off m c kA kn kc vA kn vc ks vs arg sk sa sb co cn cc (a8 vs arg t) w (by omega) (by omega) hkn hkn hk hv hbl x1 x2 x3 x4 (by rw[←hcl];have:=(qh3 hlt).2.1;omega) hva.2 hva.1 hk1 hhb _ _ (by have:=(len2 vs).2;omega) ad' c' had ?_;intro g cap w' hb ho;exact R _ hi g cap w' hb ho hvl
  ·simp only at hk1 hhb hc0
   have hst:cP l.v ks arg vs ⟨sk,sa,sb,code⟩=(vs,[⟨sk,sa,sb,0⟩]):=by simp[cP,hk1,hhb]
   simp only[aL,hst,List.singleton_append];refine qFU b off m c kA kn kc vA kn vc ks vs arg sk sa sb co cn cc 0 w (by omega) (by omega) hkn hkn hk hv hbl x1 x2 x3 x4 (by omega) rfl hk1 hhb _ _ (by have:=(len2 vs).2;omega) ad' c' had ?_;intro g cap w' hb ho;exact R _ hi g cap w' hb ho hvl
end Go.Proofs.YtiimkhepplkocaaGreat
