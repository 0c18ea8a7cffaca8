import Derived.Test.YtiimkhepplkocaaGreatZj
import Derived.Test.YtiimkhepplkocaaGreatDd
import Derived.Test.YtiimkhepplkocaaGreatVd
import Derived.Test.YtiimkhepplkocaaGreatDf
set_option maxRecDepth 100000
set_option maxHeartbeats 16000000
namespace Go.Proofs.YtiimkhepplkocaaGreat
open Go.RowKit Go.Sort
set_option linter.unusedVariables false
theorem qvT(k v:Int)(h1:1≤k)(h7:k≤7):conv k (conv k v)=conv k v:=by
 have hk:k=1∨k=2∨k=3∨k=4∨k=5∨k=6∨k=7:=by omega
 rcases hk with rfl|rfl|rfl|rfl|rfl|rfl|rfl
 ·simp[conv]
 ·simp[conv]
 ·simp[conv]
 ·simp[conv]
 ·simp[conv]
 ·simp[conv]
 ·simp[conv]
theorem qAN{ks vs:List Int}(h:BankD ks vs)(hl:ks.length≤32):bQ ks vs=true:=by
 unfold bQ;refine decide_eq_true ⟨h.1,by rw[←h.1];exact hl,λi hi=>?_⟩;obtain⟨⟨h1,h7⟩,z,_,e⟩:=h.2 i hi;exact⟨by unfold kOk;exact decide_eq_true ⟨h1,h7⟩,by rw[e];exact qvT _ _ h1 h7⟩
theorem qAL{ks vs:List Int}(h:bQ ks vs=true)(a:Nat)(x:Int):bQ ks (vs.set a (conv (ks.getD a 0) x))=true:=by
 unfold bQ at h⊢;obtain⟨h1,h2,h3⟩:=of_decide_eq_true h;refine decide_eq_true ⟨by simpa using h1,by simpa using h2,λi hi=>?_⟩;obtain⟨k1,k2⟩:=h3 i hi;refine⟨k1,?_⟩;by_cases e:i=a
 ·subst e
  have hl:i<vs.length:=by omega
  have hg:(vs.set i (conv (ks.getD i 0) x)).getD i 0=conv (ks.getD i 0) x:=by simp[List.getD_eq_getElem?_getD,hl]
  rw[hg];unfold kOk at k1;obtain⟨a1,a7⟩:=of_decide_eq_true k1;exact qvT _ _ a1 a7
 ·have hg:(vs.set a (conv (ks.getD a 0) x)).getD i 0=vs.getD i 0:=by simp[List.getD_eq_getElem?_getD,List.getElem?_set_ne (Ne.symm e)]
  rw[hg];exact k2
theorem qJL{n:Int}{ks:List Int}{arg:Int}{vs:List Int}(s:aH)(h:bQ ks vs=true):bQ ks (cP n ks arg vs s).1=true:=by
 unfold cP;split
 ·exact qAL h _ _
 ·exact h
theorem qoN{n:Int}{ks:List Int}{arg:Int}:∀(l:List aH) {vs:List Int},bQ ks vs=true→bQ ks (aL n ks arg vs l).1=true
 |[],_,h=>h
 |s::r,_,h=>qoN r (qJL s h)
theorem qJR{ss:List StD}{ts:List TrD}{l:aE}{ks vs:List Int}{arg:Int}{leaf:Nat}{p:Option Nat}(h:bQ ks vs=true):bQ ks (dpX ss ts l ks vs arg leaf p).1=true:=by
 cases p with
 |none=>exact h
 |some q=>exact qoN _ h
theorem qAM{ks vs:List Int}(h:BankD ks vs):∀i,I64 (vs.getD i 0):=λi=>by
 by_cases hi:i<ks.length
 ·obtain⟨_,z,hz,e⟩:=h.2 i hi
  rw[e];exact qoD hz
 ·have e:vs.getD i 0=0:=by rw[List.getD_eq_getElem?_getD,List.getElem?_eq_none (by rw[←h.1];omega)];rfl
  rw[e];simp[I64]
end Go.Proofs.YtiimkhepplkocaaGreat
namespace Go.Proofs.YtiimkhepplkocaaGreat
open Go.RowKit Go.Sort
set_option linter.unusedVariables false
attribute [local go_sem ↓] Go.wp_at_zero Go.wp_at_succ
theorem qjE(ao bo:Option Addr)(n c d:Nat)(xs:List Int)(w:World)(hn:n≤1048576)(hx:SliceOf w ao n xs)(hy:SliceOf w bo n xs):
  Calls Tryz.prog 12 #[.slice ao n c,.slice bo n d] w λe w'=>e=.returned (.bool true)∧Below w.heap.size w w':=by
 have HX:=hid hx;have HY:=hid hy;clear hx hy;go_enter Tryz.func12,Tryz.ntmps12;go_wp2;go_loopw [13] (λi wr=>∃k:Nat,k≤n∧i=.int .i64 k∧∃q,wr=w.drewN q) (λi _=>n-(intOf i).toNat)
 case atStart=>exact⟨0,Nat.zero_le _,rfl,0,rfl⟩
 case round=>
  obtain⟨k,hk,rfl,q,rfl⟩:=hrel;by_cases hlt:k<n
  ·obtain⟨b,off,rfl,hbl,hc⟩:=HX.out.2 (by omega)
   obtain⟨b2,off2,rfl,hbl2,hc2⟩:=HY.out.2 (by omega);have h1:=hc k hlt;have h2:=hc2 k hlt;have hi:(k:Int)<(n:Int):=by omega
   obtain⟨x,ex⟩:∃x,x=xs.getD k 0:=⟨_,rfl⟩;rw[←ex]at h1 h2;clear ex hc hc2;go_wp2;go_quiet(fail);go_wp2;go_roundw
   case rel=>exact⟨k+1,by omega,by go_num,q+nq,by first|rfl|rw[World.drewN_drewN]⟩
   case measure=>simp[intOf];omega
  ·obtain rfl:k=n:=by omega
   go_wp2;go_ret;exact⟨rfl,below_drewN (Below.refl _ _) q⟩
theorem qoT(ao bo ao' bo':Option Addr)(n m c d c' d':Nat)(ks vs:List Int)(w:World)(hn:n≤1048576)(hm:m≤1048576)(hx:SliceOf w ao n ks)(hy:SliceOf w bo m vs)(hx':SliceOf w ao' n ks)(hy':SliceOf w bo' m vs):
  Calls Tryz.prog 16 #[.agg #[.slice ao n c,.slice bo m d],.agg #[.slice ao' n c',.slice bo' m d']] w λe w'=>e=.returned (.bool true)∧Below w.heap.size w w':=by
 have HX:Hid (∀w',Below w.heap.size w w'→SliceOf w' ao n ks∧SliceOf w' bo m vs∧SliceOf w' ao' n ks∧SliceOf w' bo' m vs):=λw' h=>⟨hx.below h,hy.below h,hx'.below h,hy'.below h⟩;have b0:=aD w (.cells #[.slice ao n c,.slice bo m d] 32) (.cells #[.slice ao' n c',.slice bo' m d'] 32);have C1:=hid (qjE ao ao' n c c' ks _ hn (HX.out _ b0).1 (HX.out _ b0).2.2.1);have C2:=hid (λw' (hb:Below w.heap.size w w')=>qjE bo bo' m d d' vs w' hm (HX.out _ hb).2.1 (HX.out _ hb).2.2.2);have B0:=hid b0;have n1:=heap_alloc_new w (.cells #[.slice ao n c,.slice bo m d] 32);have n2:=heap_alloc_new (w.alloc (.cells #[.slice ao n c,.slice bo m d] 32)) (.cells #[.slice ao' n c',.slice bo' m d'] 32);have N1:=hid (aA n1 (aB _ (.cells #[.slice ao' n c',.slice bo' m d'] 32)));have N2:Hid (((w.alloc (.cells #[.slice ao n c,.slice bo m d] 32)).alloc (.cells #[.slice ao' n c',.slice bo' m d'] 32)).heap[w.heap.size+1]? =some (.cells #[.slice ao' n c',.slice bo' m d'] 32 (0,0))):=hid (by simpa using n2);clear hx hy hx' hy' b0 n1 n2;go_enter Tryz.func16,Tryz.ntmps16;go_wp2_with(first
  |(go_at_call 12;have q:=C1.out;with_reducible refine q.mono ?_;clear q;rintro e w1 ⟨rfl,hb⟩;have B1:=hid (B0.out.trans (hb.mono B0.out.size));obtain⟨q0,q1,_,_⟩:=aF (aA N1.out hb);obtain⟨r0,r1,_,_⟩:=aF (aA N2.out hb);have q2:=lt_of_block (aA N1.out hb);have r2:=lt_of_block (aA N2.out hb);clear hb)
  |(go_at_call 12;have q:=C2.out _ B1.out;with_reducible refine q.mono ?_;clear q;rintro e w2 ⟨rfl,hb⟩;have B2:=hid (B1.out.trans (hb.mono B1.out.size));clear hb))
 go_ret;exact⟨rfl,B2.out⟩
theorem qw1(v1 v2:Value)(B1 B2:Nat)(es:List bI)(w:World)(hn:es.length≤1048576)(hx:w.ownsRow B1 136 4 v1 es.length (aT es))(hy:w.ownsRow B2 136 4 v2 es.length (aT es)):
  Calls Tryz.prog 17 #[v1,v2] w λe w'=>e=.returned (.bool true)∧Below w.heap.size w w':=by
 obtain⟨ao,c,rfl⟩:=aO hx;obtain⟨bo,d,rfl⟩:=aO hy;obtain⟨n,hnn⟩:∃n,n=es.length:=⟨_,rfl⟩;rw[←hnn]at hx hy hn⊢;have HX:=hid hx;have HY:=hid hy;have HN:=hid hnn;clear hx hy hnn;go_enter Tryz.func17,Tryz.ntmps17;go_wp2;go_loopw [13] (λi wr=>∃k:Nat,k≤n∧i=.int .i64 k∧∃q,wr=w.drewN q) (λi _=>n-(intOf i).toNat)
 case atStart=>exact⟨0,Nat.zero_le _,rfl,0,rfl⟩
 case round=>
  obtain⟨k,hk,rfl,q,rfl⟩:=hrel;by_cases hlt:k<n
  ·obtain⟨b,cap,e1,_,hbl⟩:=World.ownsRow.form HX.out (by omega)
   obtain⟨b2,cap2,e2,_,hbl2⟩:=World.ownsRow.form HY.out (by omega);simp only[Value.slice.injEq,true_and]at e1 e2;obtain⟨rfl,rfl⟩:=e1;obtain⟨rfl,rfl⟩:=e2;have hi:(k:Int)<(n:Int):=by omega
   obtain⟨x,c1,c2,c3,c4⟩:=qwB es k (by rw[←HN.out];exact hlt);have k1:=(World.ownsRow.cellAt HX.out (k*4) (by omega)).trans c1;have k2:=(World.ownsRow.cellAt HX.out (k*4+1) (by omega)).trans c2;have k3:=(World.ownsRow.cellAt HX.out (k*4+2) (by omega)).trans c3;have k4:=(World.ownsRow.cellAt HX.out (k*4+3) (by omega)).trans c4;have l1:=(World.ownsRow.cellAt HY.out (k*4) (by omega)).trans c1;have l2:=(World.ownsRow.cellAt HY.out (k*4+1) (by omega)).trans c2;have l3:=(World.ownsRow.cellAt HY.out (k*4+2) (by omega)).trans c3;have l4:=(World.ownsRow.cellAt HY.out (k*4+3) (by omega)).trans c4;obtain⟨kd,av,bv,vv⟩:=x;simp only at k1 k2 k3 k4 l1 l2 l3 l4;clear c1 c2 c3 c4;go_wp2;go_quiet(fail);go_wp2;go_roundw
   case rel=>exact⟨k+1,by omega,by go_num,q+nq,by first|rfl|rw[World.drewN_drewN]⟩
   case measure=>simp[intOf];omega
  ·obtain rfl:k=n:=by omega
   go_wp2;go_ret;exact⟨rfl,below_drewN (Below.refl _ _) q⟩
theorem qEM(co:Option Addr)(n cap:Nat)(i m:Nat)(hi:i≤1000000)(hm:m≤1000000)(w:World)(hn:n≤1048576)(h:BytesAt w co n):∃r:Nat,(r=0∨r<m)∧∀w',Below w.heap.size w w'→
  Calls Tryz.prog 13 #[.slice co n cap,.int .i64 (i:Int),.int .i64 (m:Int)] w' λe w''=>e=.returned (.int .i64 (r:Int))∧w''=w':=by
 by_cases h0:n=0
 ·subst h0
  refine⟨0,.inl rfl,λw' _=>?_⟩;go_enter Tryz.func13,Tryz.ntmps13;go_wp2;go_ret;exact⟨rfl,rfl⟩
 ·by_cases h1:m≤1
  ·have n0:¬(n:Int)=0:=by omega
   have m1:(m:Int)≤1:=by omega
   refine⟨0,.inl rfl,λw' _=>?_⟩;clear h;go_enter Tryz.func13,Tryz.ntmps13;go_wp2;go_ret;exact⟨rfl,rfl⟩
  ·have n0:¬(n:Int)=0:=by omega
   have m1:¬(m:Int)≤1:=by omega
   have m0:¬(m:Int)=0:=by omega
   obtain⟨g,off,rfl,hg,hc⟩:=h (by omega);obtain⟨j,hj⟩:∃j:Nat,(i:Int)%(n:Int)=j:=⟨i%n,by simp⟩;have hjn:j<n:=by have:=Int.emod_lt_of_pos (i:Int) (show(0:Int)<n by omega);omega
   have hji:(j:Int)<(n:Int):=by omega
   obtain⟨b,hb,hb0,hb1⟩:=hc j hjn;obtain⟨r,hr⟩:∃r:Nat,b%(m:Int)=r:=⟨(b%(m:Int)).toNat,by have:=Int.emod_nonneg b m0;omega⟩;have hrm:r<m:=by have:=Int.emod_lt_of_pos b (show(0:Int)<m by omega);omega
   refine⟨r,.inr hrm,λw' hw=>?_⟩;have hb':w'.cell? ⟨g,off+j,none⟩=some (.int .u8 b):=(hw.cell (p:=⟨g,off+j,none⟩) hg).trans hb;have hg':g<w'.heap.size:=Nat.lt_of_lt_of_le hg hw.size;clear hc hb hw hg h;go_enter Tryz.func13,Tryz.ntmps13;go_wp2;go_ret;exact⟨rfl,rfl⟩
end Go.Proofs.YtiimkhepplkocaaGreat
