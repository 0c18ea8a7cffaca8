import Derived.Test.YtiimkhepplkocaaGreatZf
import Derived.WideMake
set_option maxRecDepth 100000
set_option maxHeartbeats 16000000
namespace Go.Proofs.YtiimkhepplkocaaGreat
open Go.RowKit Go.Sort
set_option linter.unusedVariables false
attribute [local go_sem ↓] Go.wp_at_zero Go.wp_at_succ
theorem qB3(em:Bool)(n:Nat)(a:Int)(w:World):(Instr.checkKey em (n+1) 3 (.int .i64 a)).run Tryz.prog w=.ok () w:=
 MapKept.run_checkKey (d:=.int .i64) Tryz.underlying3 (by simp[MapKept.IsKey]) em n
theorem qvN(em:Bool)(a b:Int)(w:World):(Instr.checkKey em 10000 243 (.agg #[.int .i64 a,.int .i64 b])).run Tryz.prog w=.ok () w:=by
 have h1:(part 3 #[Value.int .i64 a,.int .i64 b] 0).run Tryz.prog w=.ok (.int .i64 a) w:=by kernel_rfl
 have h2:(part 3 #[Value.int .i64 a,.int .i64 b] 1).run Tryz.prog w=.ok (.int .i64 b) w:=by kernel_rfl
 rw[show(10000:Nat)=9998+1+1 from rfl];unfold Instr.checkKey;simp[run_underlying Tryz.underlying243,qB3,h1,h2,Result.andThen]
theorem qwP(a b:Int)(w:World):(Instr.findKey 243 (.agg #[.int .i64 a,.int .i64 b]) ([]:List MapEntry)).run Tryz.prog w=.ok none w:=by simp[Instr.findKey,run_underlying Tryz.underlying243,Instr.findNow,Result.andThen]
theorem qGQ(r:Nat)(a b:Int)(w:World)(hb:w.heap[r]? =some (.map #[] 0)):(Instr.lookup 107 (.map (some r)) (.agg #[.int .i64 a,.int .i64 b]) true).run Tryz.prog w=.ok (.tuple #[.slice none 0 0,.bool false]) w:=by
 have hz:(zeroValue 189).run Tryz.prog w=.ok (.slice none 0 0) w:=by kernel_rfl
 simp[Instr.lookup,run_underlying Tryz.underlying107,MapKept.run_getObj_map hb,qvN,qwP,hz,Result.andThen]
abbrev qjW(w:World)(r:Nat)(key val:Value):World:={w with heap:=w.heap.setIfInBounds r (.map #[{key:=key,val:=val,born:=0}] 1)}
theorem qH2(r:Nat)(a b:Int)(val:Value)(w:World)(hb:w.heap[r]? =some (.map #[] 0)):(Instr.mapUpdate 107 (.map (some r)) (.agg #[.int .i64 a,.int .i64 b]) val).run Tryz.prog w=.ok () (qjW w r (.agg #[.int .i64 a,.int .i64 b]) val):=by
 simp[Instr.mapUpdate,run_underlying Tryz.underlying107,MapKept.run_getObj_map hb,qvN,qwP,MapKept.run_setObj_map _ hb,Result.andThen]
def exX(ss:List StD)(leaf:Nat)(t:TrD):List Nat:=if t.target=-1 then []else gJ ss leaf t.src.toNat t.target.toNat
def enX(ss:List StD)(t:TrD):List Nat:=if t.target=-1 then []else dQ ss t.src.toNat t.target.toNat
def nxX(ss:List StD)(leaf:Nat)(t:TrD):Nat:=if t.target=-1 then leaf else qdH ss t.src.toNat t.target.toNat
def iE(ss:List StD)(leaf:Nat)(t:TrD):List (List aH):=(exX ss leaf t).map (λi=>(ss.getD i st0).exit)++[t.action]++(enX ss t).map (λi=>(ss.getD i st0).entry)
theorem qvF{ts:List TrD}{l:List Nat}{sg:Int}{q:Nat}(h:q∈aU ts l sg):q<ts.length∧∃s,s∈l∧(ts.getD q tr0).src=(s:Int)∧(ts.getD q tr0).sig=sg:=by
 unfold aU eO qdB at h;simp only[List.mem_flatMap,List.mem_filter,List.mem_range,Bool.and_eq_true,decide_eq_true_eq]at h;obtain⟨s,hs,hq,h1,h2⟩:=h;exact⟨hq,s,hs,h1,h2⟩
structure Way (ss:List StD) (ts:List TrD) (leaf q:Nat):Prop where
 lt:q<ts.length
 src:(ts.getD q tr0).src.toNat∈up ss leaf
 ex:(exX ss leaf (ts.getD q tr0)).length≤400
 en:(enX ss (ts.getD q tr0)).length≤400
 exm:∀x,x∈exX ss leaf (ts.getD q tr0)→x<ss.length
 enm:∀x,x∈enX ss (ts.getD q tr0)→x<ss.length
theorem qc6{ss:List StD}{ts:List TrD}{l:aE}(hC:Chk ss ts l){leaf:Nat}(hl:leaf<ss.length){sg:Int}{q:Nat}(h:q∈aU ts (up ss leaf) sg):Way ss ts leaf q:=by
 obtain⟨hq,s,hs,h1,_⟩:=qvF h;have G:=hC.good;have T:=G.tree;have hsr:(ts.getD q tr0).src.toNat∈up ss leaf:=by rw[h1];simpa using hs
 have n2:=G.n2;refine⟨hq,hsr,?_,?_,?_,?_⟩
 ·unfold exX
  split
  ·simp
  ·unfold gJ
   have:=qgZ T hl (dom ss (ts.getD q tr0).src.toNat (ts.getD q tr0).target.toNat);omega
 ·unfold enX
  split
  ·simp
  ·rename_i hne
   have ht:=hC.tgt q hq;have htl:(ts.getD q tr0).target.toNat<ss.length:=by omega
   unfold dQ;have h3:=qgZ T htl (dom ss (ts.getD q tr0).src.toNat (ts.getD q tr0).target.toNat);have h4:=qa6 G _ _ htl rfl;rw[List.length_append,List.length_reverse];omega
 ·intro x hx
  unfold exX at hx;split at hx
  ·simp at hx
  ·exact qiZ T hl _ x hx
 ·intro x hx
  unfold enX at hx;split at hx
  ·simp at hx
  ·rename_i hne
   have ht:=hC.tgt q hq;have htl:(ts.getD q tr0).target.toNat<ss.length:=by omega
   unfold dQ at hx;rcases List.mem_append.mp hx with h5|h5
   ·exact qiZ T htl _ x (by simpa using h5)
   ·exact qoG G _ _ htl rfl x h5
theorem qw2{ss:List StD}{ts:List TrD}{l:aE}(hC:Chk ss ts l)(N:Nat→Nat){leaf:Nat}(hl:leaf<ss.length){q:Nat}(h:Way ss ts leaf q)(lets act:Nat→Value)(w:World)(hN:NodesI w N ss ss.length)(hNB:NodeB w N ss.length):
  Calls Tryz.prog 47 #[.agg (mvC N ts lets act q).toArray,.pointer (some ⟨N leaf,0,none⟩)] w λe w'=>∃ge ce gn cn,e=.returned (.agg #[.int .i64 (q:Int),.slice (some ⟨ge,0,none⟩) (exX ss leaf (ts.getD q tr0)).length ce,.slice (some ⟨gn,0,none⟩) (enX ss (ts.getD q tr0)).length cn,.int .i64 (nxX ss leaf (ts.getD q tr0):Nat)])∧
   bO w w' (.slice (some ⟨ge,0,none⟩) (exX ss leaf (ts.getD q tr0)).length ce) (exX ss leaf (ts.getD q tr0))∧bO w w' (.slice (some ⟨gn,0,none⟩) (enX ss (ts.getD q tr0)).length cn) (enX ss (ts.getD q tr0))∧ge≠gn∧Below w.heap.size w w':=by
 have hs:=hC.src q h.lt;have ht:=hC.tgt q h.lt;by_cases he:(ts.getD q tr0).target=-1
 ·have k:=qEN N ss leaf hl (q:Int) (ts.getD q tr0).sig (.pointer (some ⟨N (ts.getD q tr0).src.toNat,0,none⟩)) (lets q) (act q) w hN.1
  have e:mvC N ts lets act q=[.int .i64 (q:Int),.int .i64 (ts.getD q tr0).sig,.pointer (some ⟨N (ts.getD q tr0).src.toNat,0,none⟩),.pointer none,lets q,act q]:=by unfold mvC yO;rw[if_pos he]
  rw[e];unfold exX enX nxX;rw[if_pos he,if_pos he,if_pos he];exact k.mono (by
   rintro e w' ⟨ge,gn,rfl,h1,h2,h3,h4⟩;exact⟨ge,0,gn,0,rfl,h1,h2,h3,h4⟩)
 ·have hf:(ts.getD q tr0).src.toNat<ss.length:=by omega
  have htl:(ts.getD q tr0).target.toNat<ss.length:=by omega
  have k:=qEO N ss ts.length hC.good leaf (ts.getD q tr0).src.toNat (ts.getD q tr0).target.toNat hl hf htl h.src (q:Int) (ts.getD q tr0).sig (lets q) (act q) w hN hNB;have e:mvC N ts lets act q=[.int .i64 (q:Int),.int .i64 (ts.getD q tr0).sig,.pointer (some ⟨N (ts.getD q tr0).src.toNat,0,none⟩),.pointer (some ⟨N (ts.getD q tr0).target.toNat,0,none⟩),lets q,act q]:=by unfold mvC yO;rw[if_neg he]
  rw[e];unfold exX enX nxX;rw[if_neg he,if_neg he,if_neg he];exact k
structure ButM (P:Nat) (w w':World):Prop where
 os:w'.os=w.os
 tape:w'.tape=w.tape
 output:w'.output=w.output
 size:w.heap.size≤w'.heap.size
 block:∀k,k<w.heap.size→k≠P→w'.heap[k]? =w.heap[k]?
theorem ButM.below{P C:Nat}{w w':World}(h:ButM P w w')(hP:C≤P)(hC:C≤w.heap.size):Below C w w':=⟨h.os,h.tape,h.output,h.size,λk hk=>h.block k (by omega) (by omega)⟩
theorem ButM.box{P:Nat}{w w':World}(h:ButM P w w')(hm:∃es c,w.heap[P]? =some (.map es c)){H:Nat}{cs:Array Value}{t:TypeId}{fr:Nat×Nat}(hb:w.heap[H]? =some (.cells cs t fr)):w'.heap[H]? =some (.cells cs t fr):=by
 obtain⟨es,c,hm⟩:=hm;exact(h.block H (lt_of_block hb) (λe=>by rw[e,hm]at hb;cases hb)).trans hb
theorem ButM.own{P B:Nat}{w w':World}{e:TypeId}{size:Nat}{v:Value}{n:Nat}{xs:List Value}(h:ButM P w w')(hm:∃es c,w.heap[P]? =some (.map es c))(ho:w.ownsRow B e size v n xs):w'.ownsRow B e size v n xs:=by
 refine⟨ho.1,?_⟩;rcases ho.2 with h0|⟨g,cap,cur,k1,k2,k3,k4⟩
 ·exact .inl h0
 ·exact .inr ⟨g,cap,cur,k1,k2,h.box hm k3,k4⟩
theorem qyI{w X:World}{r:Nat}{key val:Value}(hb:Below w.heap.size w X):ButM r w (qjW X r key val):=by
 refine⟨hb.os,hb.tape,hb.output,Nat.le_trans hb.size (by simp),λk hk hn=>?_⟩;have:(qjW X r key val).heap[k]? =X.heap[k]?:=by simp[show¬r=k fromλe=>hn e.symm]
 rw[this];exact hb.block k hk
theorem qEW:(Tryz.prog.info? 196).map (λi=>(i.zero,i.size,i.bytes))=some (some (.agg #[.int .i64 0,.slice none 0 0,.slice none 0 0,.int .i64 0,.nilFunc,.nilFunc]),6,80):=by kernel_rfl
theorem Lists.of{X Y:World}{l:aE}{P:Nat}{lv:Value}{LS:List Value}{xs:List (List aH)}(h:Lists X l P lv LS xs)(hb:X.heap[P]? =some (.cells #[lv] 105 (0,0))→Y.heap[P]? =some (.cells #[lv] 105 (0,0)))(ho:∀{B:Nat} {e:TypeId} {v:Value} {n:Nat} {xs:List Value},(e=118∨e=212)→X.ownsRow B e 1 v n xs→Y.ownsRow B e 1 v n xs):Lists Y l P lv LS xs:=
 ⟨hb h.box,ho (.inl rfl) h.row,h.len,λi hi=>by
  obtain⟨vs,h1,h2⟩:=h.each i hi;exact⟨vs,h1,ho (.inr rfl) h2⟩⟩
def RowAt(X:World)(ss:List StD)(ts:List TrD)(l:aE)(leaf:Nat)(lets:Nat→Value)(q:Nat)(c:List Value):Prop:=
 ∃ev nv P lv LS,c=[.int .i64 (q:Int),ev,nv,.int .i64 (nxX ss leaf (ts.getD q tr0):Nat),.func (.func 163) #[] #[.pointer (some ⟨P,0,none⟩)],lets q]∧(∃a n c,ev=.slice a n c)∧(∃a n c,nv=.slice a n c)∧LS.length≤1000∧Lists X l P lv LS (iE ss leaf (ts.getD q tr0))
def SG(t:Nat):Prop:=t=196
theorem Lists.turn{B:Nat}{X Y:World}{l:aE}{P:Nat}{lv:Value}{LS:List Value}{xs:List (List aH)}(h:Lists X l P lv LS xs)(ht:Turn SG B X Y):Lists Y l P lv LS xs:=
 h.of (λhb=>ht.box hb (by simp[SG])) (λhe ho=>ht.own ho (by rcases he with rfl|rfl<;>simp[SG]))
theorem RowAt.turn{B:Nat}{X Y:World}{ss:List StD}{ts:List TrD}{l:aE}{leaf:Nat}{lets:Nat→Value}{q:Nat}{c:List Value}(h:RowAt X ss ts l leaf lets q c)(ht:Turn SG B X Y):RowAt Y ss ts l leaf lets q c:=by
 obtain⟨ev,nv,P,lv,LS,h1,h2,h3,h4,h5⟩:=h;exact⟨ev,nv,P,lv,LS,h1,h2,h3,h4,h5.turn ht⟩
theorem RowAt.but{M:Nat}{X Y:World}{ss:List StD}{ts:List TrD}{l:aE}{leaf:Nat}{lets:Nat→Value}{q:Nat}{c:List Value}(h:RowAt X ss ts l leaf lets q c)(ht:ButM M X Y)(hm:∃es c,X.heap[M]? =some (.map es c)):RowAt Y ss ts l leaf lets q c:=by
 obtain⟨ev,nv,P,lv,LS,h1,h2,h3,h4,h5⟩:=h;exact⟨ev,nv,P,lv,LS,h1,h2,h3,h4,h5.of (λhb=>ht.box hm hb) (λ_ ho=>ht.own hm ho)⟩
def Gr(X:World)(B:Nat)(ss:List StD)(ts:List TrD)(l:aE)(leaf:Nat)(lets:Nat→Value)(K:List Nat)(v:Value):Prop:=
 ∃R:List (List Value),R.length=K.length∧X.ownsRow B 196 6 v K.length R.flatten∧∀i,i<K.length→RowAt X ss ts l leaf lets (K.getD i 0) (R.getD i [])
theorem Gr.below{X Y:World}{B:Nat}{ss:List StD}{ts:List TrD}{l:aE}{leaf:Nat}{lets:Nat→Value}{K:List Nat}{v:Value}(h:Gr X B ss ts l leaf lets K v)(hb:Below X.heap.size X Y):Gr Y B ss ts l leaf lets K v:=by
 obtain⟨R,h1,h2,h3⟩:=h;exact⟨R,h1,aI h2 hb,λi hi=>(h3 i hi).turn (B:=0) (Turn.of_below hb)⟩
theorem Gr.but{M:Nat}{X Y:World}{B:Nat}{ss:List StD}{ts:List TrD}{l:aE}{leaf:Nat}{lets:Nat→Value}{K:List Nat}{v:Value}(h:Gr X B ss ts l leaf lets K v)(ht:ButM M X Y)(hm:∃es c,X.heap[M]? =some (.map es c)):Gr Y B ss ts l leaf lets K v:=by
 obtain⟨R,h1,h2,h3⟩:=h;exact⟨R,h1,ht.own hm h2,λi hi=>(h3 i hi).but ht hm⟩
theorem Gr.add{Y Z:World}{B:Nat}{ss:List StD}{ts:List TrD}{l:aE}{leaf:Nat}{lets:Nat→Value}{K:List Nat}{v v':Value}{q:Nat}{c:List Value}{R:List (List Value)}(hR:R.length=K.length)(ho:Y.ownsRow B 196 6 v K.length R.flatten)(hr:∀i,i<K.length→RowAt Y ss ts l leaf lets (K.getD i 0) (R.getD i []))(hc:RowAt Y ss ts l leaf lets q c)
  (hg:Y.grownBy Z v.ownBlock) (ho':Z.ownsRow B 196 6 v' (K.length+1) (R.flatten++c)):Gr Z B ss ts l leaf lets (K++[q]) v':=by
 have T:=Turn.grown ho (S:=SG) rfl hg;refine⟨R++[c],by simp[hR],by simpa using ho',λi hi=>?_⟩;simp only[List.getD_eq_getElem?_getD];by_cases h:i<K.length
 ·rw[List.getElem?_append_left h,List.getElem?_append_left (by omega)]
  simpa only[List.getD_eq_getElem?_getD]using(hr i h).turn T
 ·obtain rfl:i=K.length:=by simp at hi;omega
  rw[List.getElem?_append_right (Nat.le_refl _),List.getElem?_append_right (by omega)];simpa[hR]using hc.turn T
end Go.Proofs.YtiimkhepplkocaaGreat
namespace Go.Proofs.YtiimkhepplkocaaGreat
open Go.RowKit Go.Sort
set_option linter.unusedVariables false
attribute [local go_sem ↓] Go.wp_at_zero Go.wp_at_succ
structure Cw (w:World) (k:Nat) (sg:Int) (N:Nat→Nat) (ts:List TrD) (lets act:Nat→Value) (K:List Nat) (mv:Value) (X:World):Prop where
 bel:Below w.heap.size w X
 cr:X.heap[w.heap.size]? =some (.cells #[.int .i64 (k:Int),.int .i64 sg] 243 (0,0))
 mv:X.ownsRow w.heap.size 120 6 mv K.length (mvs N ts lets act K)
theorem Cw.below{w:World}{k:Nat}{sg:Int}{N:Nat→Nat}{ts:List TrD}{lets act:Nat→Value}{K:List Nat}{mv:Value}{X Y:World}(h:Cw w k sg N ts lets act K mv X)(hb:Below X.heap.size X Y):Cw w k sg N ts lets act K mv Y:=⟨h.bel.trans (hb.mono h.bel.size),aA h.cr hb,aI h.mv hb⟩
theorem Cw.turn{w:World}{k:Nat}{sg:Int}{N:Nat→Nat}{ts:List TrD}{lets act:Nat→Value}{K:List Nat}{mv:Value}{X Y:World}(h:Cw w k sg N ts lets act K mv X)(ht:Turn SG w.heap.size X Y):Cw w k sg N ts lets act K mv Y:=⟨h.bel.trans (ht.below h.bel.size),ht.box h.cr (by simp[SG]),ht.own h.mv (by simp[SG])⟩
theorem qGY{N:Nat→Nat}{ts:List TrD}{lets act:Nat→Value}{q:Nat}{a b c d e f:Value}(h:mvC N ts lets act q=[a,b,c,d,e,f]):lets q=e∧act q=f:=by
 unfold mvC at h;simp at h;exact⟨h.2.2.2.2.1,h.2.2.2.2.2⟩
theorem qp2{K:List Nat}{a:Nat}(h:a<K.length):K.take (a+1)=K.take a++[K.getD a 0]:=by
 rw[List.take_add_one,List.getD_eq_getElem?_getD,List.getElem?_eq_getElem h];rfl
theorem qBX{w0:World}{cx lx:Array Value}{N:Nat→Nat}{tg tcap:Nat}{ss:List StD}{ts:List TrD}{n:Nat}{l:aE}{B P M tn:Nat}{E F:List Value}{ev xv:Value}{L lets act:Nat→Value}(hC:Chk ss ts l)(hn:ss.length=n)(htn:ts.length=tn)(k:Nat)(hk:k<n)(sg:Int)(w:World)(h:L2 w0 cx lx N tg tcap ss ts n l B P M tn E F ev xv L lets act w):
  Calls Tryz.prog 115 #[.pointer (some ⟨M,0,none⟩),.pointer (some ⟨N k,0,none⟩),.int .i64 sg] w λe w'=>∃ao c,e=.returned (.slice ao (aU ts (up ss k) sg).length c)∧Gr w' w.heap.size ss ts l k lets (aU ts (up ss k) sg) (.slice ao (aU ts (up ss k) sg).length c)∧ButM P w w':=by
 subst hn;have G:=hC.good;have HI:Hid (∀w',Below w.heap.size w w'→L2 w0 cx lx N tg tcap ss ts ss.length l B P M tn E F ev xv L lets act w'):=hid (λw' hb=>h.below hb);have CM:=hid (λw' (hb:Below w.heap.size w w')=>qxX G.tree rfl G.n2 htn (by rw[←htn];exact G.tn) k hk sg w' (HI.out w' hb));have WY:=hid (λq (hq:q∈aU ts (up ss k) sg)=>qc6 hC hk hq);obtain⟨K,hK⟩:∃K,K=aU ts (up ss k) sg:=⟨_,rfl⟩;rw[←hK]at CM WY⊢;have LK:Hid (K.length≤100000):=hid (by
  rw[hK];have h1:=qg3 ts sg (up ss k);have h2:=pS G.tree k hk;have h3:=G.n2;have h4:=G.tn;have h5:=Nat.mul_le_mul (show(up ss k).length≤200 by omega) h4;omega)
 obtain⟨m,hm⟩:∃m,m=K.length:=⟨_,rfl⟩;rw[←hm]at CM LK⊢;have EM:=hid hm;have nk:=h.l1.mb.nd.1 k hk;obtain⟨n1,n2,_⟩:=nk;have HT:=hid htn;obtain⟨i1,hi1,hy0,hy1,hy2⟩:=info_parts qEW;obtain⟨W,hW⟩:∃W,W=w.alloc (.cells #[.int .i64 (k:Int),.int .i64 sg] 243):=⟨_,rfl⟩;have bW:Below w.heap.size w W:=by rw[hW];exact aB _ _
 have qW:W.heap[w.heap.size]? =some (.cells #[.int .i64 (k:Int),.int .i64 sg] 243 (0,0)):=by rw[hW];exact heap_alloc_new _ _
 clear h hK hm htn;go_enter Tryz.func115,Tryz.ntmps115;go_upto_region 2 with fail;rw[←hW];have I1:=HI.out _ bW;obtain⟨e0,e1,e2,e3,e4⟩:=cJ I1.l1.mac.box;obtain⟨a0,a1⟩:=dT qW;have hlk:=qGQ P (k:Int) sg W.drew I1.l1.mb.mp;have BW:=hid bW;have QW:=hid qW;clear hW n1 n2 bW qW I1 e0 e1 e2 e3;have D0:Hid (Cw w k sg N ts lets act [] (.slice none 0 0) W.drew):=hid ⟨BW.out.drew,QW.out,by simpa[mvs]using World.ownsRow_nil W.drew w.heap.size 120 6⟩;go_cut [8,9] (λs8 s9 wx=>s8=.slice none 0 0∧s9=.bool false∧wx=W.drew)
 case first=>
  go_region
  all_goals
   go_wp2_with fail;go_meet;exact⟨rfl,rfl,rfl⟩
 case rest=>
  obtain⟨rfl,rfl,rfl⟩:=hcut;clear hlk e4 a0 a1;go_wp2_with(go_at_call 46;refine(CM.out _ D0.out.bel).mono ?_;rintro e w1 ⟨mo,mc,rfl,ho,hb⟩;have C1:Hid (Cw w k sg N ts lets act K (.slice mo m mc) w1):=hid ⟨D0.out.bel.trans (hb.mono D0.out.bel.size),aA D0.out.cr hb,(by rw[←EM.out];exact aM ho D0.out.bel.size)⟩;clear ho hb);go_loopg [8,34] m (λmm rv i X=>∃a:Nat,a≤m∧mm=m-a∧i=.int .i64 a∧Cw w k sg N ts lets act K (.slice mo m mc) X∧Gr X w.heap.size ss ts l k lets (K.take a) rv)
  case atStart=>exact⟨0,by omega,by omega,rfl,C1.out,[],by simp,by simpa using World.ownsRow_nil w1 w.heap.size 196 6,λi hi=>by simp at hi⟩
  case round=>
   obtain⟨a,ha,rfl,rfl,hCw,hGr⟩:=hrel;obtain⟨R,hR,hO,hRw⟩:=hGr;obtain⟨ra,rc,rfl⟩:=cG hO;by_cases hlt:a<m
   ·obtain⟨q,hq⟩:∃q,q=K.getD a 0:=⟨_,rfl⟩
    have hqm:q∈K:=by rw[hq,List.getD_eq_getElem?_getD,List.getElem?_eq_getElem (by have:=EM.out;omega)];simp
    have WQ:=hid (WY.out q hqm);have I1:=HI.out _ hCw.bel;have hgq:=I1.gd q (by rw[←HT.out];exact WQ.out.lt);obtain⟨nf,tp,fn,cp,xo,xn,xc,hmv⟩:=qpG (N:=N) hgq;obtain⟨hle,hac⟩:=qGY hmv;have AC:Hid (∀X,Below w.heap.size w X→StmR X 0 l (.slice xo xn xc) (ts.getD q tr0).action):=hid (λX hb=>by have:=((HI.out _ hb).gd q (by rw[←HT.out];exact WQ.out.lt)).2.base;rw[hac]at this;exact this);obtain⟨gg,gcap,hgg,_,hgl⟩:=World.ownsRow.form hCw.mv (by have:=EM.out;omega);have hgg2:mo=some ⟨gg,0,none⟩∧m=K.length∧mc=gcap:=by simpa using hgg
    have hcell:∀i,i<6→wr.cell? ⟨gg,a*6+i,none⟩=(mvC N ts lets act q)[i]?:=λi hi=>by
     have h1:=hCw.mv;rw[hgg]at h1;rw[World.ownsRow.cellAt h1 (a*6+i) (by have:=EM.out;omega),qpH N ts lets act _ a i (by have:=EM.out;omega) hi,←hq]
    rw[hmv]at hcell;obtain⟨sv,hsv⟩:∃x,x=(ts.getD q tr0).sig:=⟨_,rfl⟩;rw[←hsv]at hmv hcell;have y0:=hcell 0 (by omega);have y1:=hcell 1 (by omega);have y2:=hcell 2 (by omega);have y3:=hcell 3 (by omega);have y4:=hcell 4 (by omega);have y5:=hcell 5 (by omega);simp only[List.getElem?_cons_zero,List.getElem?_cons_succ,Nat.add_zero]at y0 y1 y2 y3 y4 y5;obtain⟨rfl,hmk,rfl⟩:=hgg2;clear hmk;have CH:Hid (∀X,Below w.heap.size w X→Calls Tryz.prog 47 #[.agg #[.int .i64 (q:Int),.int .i64 sv,.pointer (some ⟨nf,0,none⟩),.pointer tp,.func fn #[] cp,.slice xo xn xc],.pointer (some ⟨N k,0,none⟩)] X λe w'=>∃ge ce gn cn,e=.returned (.agg #[.int .i64 (q:Int),.slice (some ⟨ge,0,none⟩) (exX ss k (ts.getD q tr0)).length ce,.slice (some ⟨gn,0,none⟩) (enX ss (ts.getD q tr0)).length cn,.int .i64 (nxX ss k (ts.getD q tr0):Nat)])∧
     bO X w' (.slice (some ⟨ge,0,none⟩) (exX ss k (ts.getD q tr0)).length ce) (exX ss k (ts.getD q tr0))∧bO X w' (.slice (some ⟨gn,0,none⟩) (enX ss (ts.getD q tr0)).length cn) (enX ss (ts.getD q tr0))∧ge≠gn∧Below X.heap.size X w'):=hid (λX hb=>by
      have h1:=qw2 hC N hk WQ.out lets act X (HI.out _ hb).l1.mb.nd (HI.out _ hb).l1.mb.nb;rw[hmv]at h1;exact h1)
    have CR:=hid (λge ce gn cn X (hb:Below w.heap.size w X) o1 o2=>qCZ (q:Int) (nxX ss k (ts.getD q tr0):Nat) ge ce gn cn (exX ss k (ts.getD q tr0)) (enX ss (ts.getD q tr0)) xo xn xc (ts.getD q tr0).action X (HI.out _ hb) WQ.out.ex WQ.out.en WQ.out.exm WQ.out.enm o1 o2 (AC.out X hb));have HLE:Hid (lets q=.func fn #[] cp):=hid hle;have RR:=hid (show R.length=(K.take a).length∧(∀i,i<(K.take a).length→RowAt wr ss ts l k lets ((K.take a).getD i 0) (R.getD i []))from⟨hR,hRw⟩);have OR:=hid hO;have CC:=hid hCw;have TK:Hid (K.take (a+1)=K.take a++[q]):=hid (by rw[hq];exact qp2 (by have:=EM.out;omega));have TL:Hid ((K.take a).length=a):=hid (by rw[List.length_take];have:=EM.out;omega);have GA:Hid (∀(Y Z:World) (c:List Value) (v':Value),Y.ownsRow w.heap.size 196 6 (.slice ra a rc) a R.flatten→(∀i,i<(K.take a).length→RowAt Y ss ts l k lets ((K.take a).getD i 0) (R.getD i []))→RowAt Y ss ts l k lets q c→Y.grownBy Z (Value.slice ra a rc).ownBlock→Z.ownsRow w.heap.size 196 6 v' (a+1) (R.flatten++c)→Gr Z w.heap.size ss ts l k lets (K.take (a+1)) v'):=hid (λY Z c v' h1 h2 h3 h4 h5=>by rw[TK.out];exact Gr.add RR.out.1 (by rw[TL.out];exact h1) h2 h3 h4 (by rw[TL.out];exact h5));have ai:(a:Int)<(m:Int):=by omega
    have a5:a≤100000:=by have:=LK.out;omega
    rw[TL.out]at OR⊢;clear hCw hO hR hRw hq hqm hgq hmv hle hac hgg hcell hsv I1;go_upto_region 8 with fail;obtain⟨V,hV⟩:∃V,V=wr.alloc (.cells #[.int .i64 (q:Int),.int .i64 sv,.pointer (some ⟨nf,0,none⟩),.pointer tp,.func fn #[] cp,.slice xo xn xc] 120):=⟨_,rfl⟩;have bV:Below wr.heap.size wr V:=by rw[hV];exact aB _ _
    have qV:V.heap[wr.heap.size]? =some (.cells #[.int .i64 (q:Int),.int .i64 sv,.pointer (some ⟨nf,0,none⟩),.pointer tp,.func fn #[] cp,.slice xo xn xc] 120 (0,0)):=by rw[hV];exact heap_alloc_new _ _
    rw[←hV];have XB:Hid (∀X:World,X.heap[wr.heap.size]? =some (.cells #[.int .i64 (q:Int),.int .i64 sv,.pointer (some ⟨nf,0,none⟩),.pointer tp,.func fn #[] cp,.slice xo xn xc] 120 (0,0))→X.cell? ⟨wr.heap.size,0,none⟩=some (.int .i64 (q:Int))∧X.cell? ⟨wr.heap.size,1,none⟩=some (.int .i64 sv)∧X.cell? ⟨wr.heap.size,2,none⟩=some (.pointer (some ⟨nf,0,none⟩))∧X.cell? ⟨wr.heap.size,3,none⟩=some (.pointer tp)∧X.cell? ⟨wr.heap.size,4,none⟩=some (.func fn #[] cp)∧X.cell? ⟨wr.heap.size,5,none⟩=some (.slice xo xn xc)):=hid (λX h=>tQ h);have DV:Hid (Cw w k sg N ts lets act K (.slice (some ⟨gg,0,none⟩) m mc) V.drew):=hid ((CC.out.below bV).below ((Below.refl _ _).drew));have BV:Hid (Below wr.heap.size wr V.drew):=hid bV.drew;have QV:Hid (V.drew.heap[wr.heap.size]? =some (.cells #[.int .i64 (q:Int),.int .i64 sv,.pointer (some ⟨nf,0,none⟩),.pointer tp,.func fn #[] cp,.slice xo xn xc] 120 (0,0))):=hid qV;obtain⟨x0,x1,x2,x3,x4,x5⟩:=tQ qV;have F63:Hid (a+1≤maxLen∧(a+1)*80≤140737488355328):=hid (by unfold maxLen;omega);clear hV bV qV y0 y1 y2 y3 y4 y5;go_region_held3(λX=>X.cell? ⟨wr.heap.size,0,none⟩=some (.int .i64 (q:Int))∧X.cell? ⟨wr.heap.size,1,none⟩=some (.int .i64 sv)∧X.cell? ⟨wr.heap.size,2,none⟩=some (.pointer (some ⟨nf,0,none⟩))∧X.cell? ⟨wr.heap.size,3,none⟩=some (.pointer tp)∧X.cell? ⟨wr.heap.size,4,none⟩=some (.func fn #[] cp)∧X.cell? ⟨wr.heap.size,5,none⟩=some (.slice xo xn xc))
     (first|with_reducible exact XB.out _ Q4.out|with_reducible exact XB.out _ (aA Q3.out (aB _ _))|with_reducible exact XB.out _ Q3.out|with_reducible exact XB.out _ Q2.out|with_reducible exact XB.out _ QV.out)
     (first
      |(go_at_call 47;refine(CH.out _ DV.out.bel).mono ?_;rintro e w2 ⟨ge,ce,gn,cn,rfl,o1,o2,_,hb⟩;have D2:=hid (DV.out.below hb);have Q2:=hid (aA QV.out hb);have B2:=hid (BV.out.trans (hb.mono BV.out.size));have O1:=hid o1;have O2:=hid o2;clear o1 o2 hb)
      |(go_at_call 125;refine(CR.out ge ce gn cn _ D2.out.bel (aM O1.out (Nat.zero_le _)) (aM O2.out (Nat.zero_le _))).mono ?_;rintro e w3 ⟨P3,lv,rfl,hL,hb⟩;have D3:=hid (D2.out.below hb);have Q3:=hid (aA Q2.out hb);have B3:=hid (B2.out.trans (hb.mono B2.out.size));have DA:=hid (D3.out.below (aB w3 (.cells #[.int .i64 (q:Int),.slice (some ⟨ge,0,none⟩) (exX ss k (ts.getD q tr0)).length ce,.slice (some ⟨gn,0,none⟩) (enX ss (ts.getD q tr0)).length cn,.int .i64 (nxX ss k (ts.getD q tr0):Nat),.func (.func 163) #[] #[.pointer (some ⟨P3,0,none⟩)],.func fn #[] cp] 196)));have BA:=hid (B3.out.trans ((aB w3 (.cells #[.int .i64 (q:Int),.slice (some ⟨ge,0,none⟩) (exX ss k (ts.getD q tr0)).length ce,.slice (some ⟨gn,0,none⟩) (enX ss (ts.getD q tr0)).length cn,.int .i64 (nxX ss k (ts.getD q tr0):Nat),.func (.func 163) #[] #[.pointer (some ⟨P3,0,none⟩)],.func fn #[] cp] 196)).mono B3.out.size));have OA:=hid (aI OR.out BA.out);have RA:=hid (λi hi=>(RR.out.2 i hi).turn (B:=0) (Turn.of_below BA.out));have RC:Hid (RowAt (w3.alloc (.cells #[.int .i64 (q:Int),.slice (some ⟨ge,0,none⟩) (exX ss k (ts.getD q tr0)).length ce,.slice (some ⟨gn,0,none⟩) (enX ss (ts.getD q tr0)).length cn,.int .i64 (nxX ss k (ts.getD q tr0):Nat),.func (.func 163) #[] #[.pointer (some ⟨P3,0,none⟩)],.func fn #[] cp] 196)) ss ts l k lets q [.int .i64 (q:Int),.slice (some ⟨ge,0,none⟩) (exX ss k (ts.getD q tr0)).length ce,.slice (some ⟨gn,0,none⟩) (enX ss (ts.getD q tr0)).length cn,.int .i64 (nxX ss k (ts.getD q tr0):Nat),.func (.func 163) #[] #[.pointer (some ⟨P3,0,none⟩)],.func fn #[] cp]):=hid ⟨_,_,P3,lv,_,(by rw[HLE.out]),⟨_,_,_,rfl⟩,⟨_,_,_,rfl⟩,(by have:=WQ.out.ex;have:=WQ.out.en;simp only[List.length_append,List.length_map,List.length_cons,List.length_nil];omega),hL.below (aB _ _)⟩;have NW:=hid (World.news_of_block (heap_alloc_new w3 (.cells #[.int .i64 (q:Int),.slice (some ⟨ge,0,none⟩) (exX ss k (ts.getD q tr0)).length ce,.slice (some ⟨gn,0,none⟩) (enX ss (ts.getD q tr0)).length cn,.int .i64 (nxX ss k (ts.getD q tr0):Nat),.func (.func 163) #[] #[.pointer (some ⟨P3,0,none⟩)],.func fn #[] cp] 196)));have SZ:=hid DA.out.bel.size;clear hL hb)
      |(refine step_append_lies _ (by rfl) _ _ _ (by rfl) w.heap.size 196 i1 _ 6 80 Tryz.underlying189 hi1 hy0 hy1 hy2 rfl (by omega) (.slice ra a rc) a R.flatten (by simp[Act.eval]) OA.out ⟨w3.heap.size,0,none⟩ 1 1 [.int .i64 (q:Int),.slice (some ⟨ge,0,none⟩) (exX ss k (ts.getD q tr0)).length ce,.slice (some ⟨gn,0,none⟩) (enX ss (ts.getD q tr0)).length cn,.int .i64 (nxX ss k (ts.getD q tr0):Nat),.func (.func 163) #[] #[.pointer (some ⟨P3,0,none⟩)],.func fn #[] cp] (by simp[Act.eval]) (by simp) NW.out (by intro u hu;simp at hu;rcases hu with rfl|rfl|rfl|rfl|rfl|rfl<;>rfl) (by omega) F63.out.1 F63.out.2 SZ.out (w3.heap.size+1) (by simp) ?_;intro g4 cap4 w4 hown hgrow hat hlt4;have GR:=hid (GA.out _ _ _ _ OA.out RA.out RC.out hgrow hown);have T4:=hid (Turn.grown (S:=SG) OA.out rfl hgrow);have C4:=hid (DA.out.turn T4.out);have Q4:=hid (T4.out.box (aA Q3.out (aB _ _)) (by simp[SG]));clear hown hgrow hat hlt4))
    all_goals
     go_wp2_with fail;go_roundg(m-(a+1))
     case measure=>omega
     case rel=>exact⟨a+1,by omega,rfl,by go_num,C4.out,GR.out⟩
   ·obtain rfl:a=m:=by omega
    have TA:K.take a=K:=List.take_of_length_le (by have:=EM.out;omega);rw[TA]at hO hR hRw;rw[←EM.out]at hO;have I1:=HI.out _ hCw.bel;obtain⟨e0,e1,e2,e3,e4⟩:=cJ I1.l1.mac.box;obtain⟨a0,a1⟩:=dT hCw.cr;have hup:=qH2 P (k:Int) sg (.slice ra a rc) wr.drew I1.l1.mb.mp;have GE:Hid (Gr wr w.heap.size ss ts l k lets K (.slice ra a rc)):=hid ⟨R,hR,by rw[←EM.out];exact hO,hRw⟩;have MP:Hid (∃es c,wr.heap[P]? =some (.map es c)):=hid ⟨_,_,I1.l1.mb.mp⟩;have BE:=hid hCw.bel;rw[TA,←EM.out];clear hCw hO hR hRw I1 e0 e1 e2 e3 TA;go_wp2_with fail;go_cut [] (λwx=>wx=qjW wr.drew P (.agg #[.int .i64 (k:Int),.int .i64 sg]) (.slice ra a rc))
    case first=>
     go_region
     all_goals
      go_wp2_with fail;go_meet;rfl
    case rest=>
     obtain rfl:=hcut;go_wp2_with fail;go_ret;exact⟨ra,rc,rfl,(GE.out.below ((Below.refl _ _).drew)).but (qyI (Below.refl _ _)) MP.out,qyI BE.out.drew⟩
end Go.Proofs.YtiimkhepplkocaaGreat
namespace Go.Proofs.YtiimkhepplkocaaGreat
open Go.RowKit Go.Sort
set_option linter.unusedVariables false
attribute [local go_sem ↓] Go.wp_at_zero Go.wp_at_succ
def sX(v:Int)(its:List (Int×Int))(vs:List Int)(arg:Int):Bool:=match its with
 |[]=>true
 |_=>match aV its v with|some t=>decide (¬a8 vs arg t=0)|none=>false
theorem qpC(v:Int)(vs:List Int)(arg:Int):sX v [] vs arg=true:=rfl
theorem qjJ{v:Int}{its:List (Int×Int)}{vs:List Int}{arg:Int}{t:Tree}(h:its≠[])(ht:aV its v=some t):sX v its vs arg=decide (¬a8 vs arg t=0):=by
 cases its with
 |nil=>exact absurd rfl h
 |cons a r=>simp only[sX,ht]
theorem qzZ(x:Value)(w:World):Calls Tryz.prog 178 #[x] w λe w'=>e=.returned (.bool true)∧w'=w:=by
 go_enter Tryz.func178,Tryz.ntmps178;go_wp2;go_ret;exact⟨rfl,rfl⟩
theorem qw0{l:aE}{its:List (Int×Int)}{t:Tree}(ht:aV its l.v=some t)(P mb B:Nat)(ks vs:List Int)(arg:Int)(es:List bI)(hl:l.v=vs.length)(w:World)(hP:w.heap[P]? =some (.cells #[tv t] 138 (0,0)))(hM:Mom w B mb ks vs arg es):
  Calls Tryz.prog 179 #[.pointer (some ⟨mb,0,none⟩),.pointer (some ⟨P,0,none⟩)] w λe w'=>e=.returned (.bool (decide (¬a8 vs arg t=0)))∧Below w.heap.size w w':=by
 have hwf:=qbB ht;rw[hl]at hwf;have CM:=hid (λmp w=>vK _ t hwf mp w);have VA:=hid (λw' (hb:Below w.heap.size w w')=>qqG mb vs arg t hwf w' (hM.at.below hb));obtain⟨y,x,hy⟩:=cL t;have hx:=vO hy;rw[hy]at CM hP;rw[←hx]at CM VA;have c0:=qh4 hP;obtain⟨z,hz⟩:∃z,z=a8 vs arg t:=⟨_,rfl⟩;rw[←hz]at VA⊢;clear hM hP hwf hy hx ht hz;go_enter Tryz.func179,Tryz.ntmps179;go_wp2_with(refine qqJ _ (by rfl) (.tmp 4) (.tmp 5) cH _ (by rfl) (by rfl) (by rfl) (CM.out _ _) ?_;refine(VA.out _ (Below.refl _ _)).mono ?_;rintro e w5 ⟨rfl,hb5⟩;have B5:=hid hb5;clear hb5;refine⟨_,rfl,?_⟩);go_ret;exact⟨aZ (by by_cases hz:z=0<;>simp[hz]),B5.out⟩
theorem Mom.but{P:Nat}{w w':World}{B mb:Nat}{ks vs:List Int}{arg:Int}{es:List bI}(h:Mom w B mb ks vs arg es)(hb:ButM P w w')(hm:∃es c,w.heap[P]? =some (.map es c)):Mom w' B mb ks vs arg es:=by
 obtain⟨kg,kc,vg,vc,ev,h1,h2,h3,h4,h5,h6,h7⟩:=h;exact⟨kg,kc,vg,vc,ev,hb.box hm h1,⟨hb.own hm h2.1,h2.2⟩,⟨hb.own hm h3.1,h3.2⟩,h4,h5,hb.own hm h6,h7⟩
end Go.Proofs.YtiimkhepplkocaaGreat
namespace Go.Proofs.YtiimkhepplkocaaGreat
open Go.RowKit Go.Sort
set_option linter.unusedVariables false
attribute [local go_sem ↓] Go.wp_at_zero Go.wp_at_succ
def sZ(ss:List StD)(ts:List TrD)(l:aE)(vs:List Int)(arg:Int)(leaf:Nat)(sg:Int):Option Nat:=(aU ts (up ss leaf) sg).find? (λq=>sX l.v (ts.getD q tr0).guard vs arg)
def dpN(ss:List StD)(ts:List TrD)(leaf:Nat)(p:Option Nat):Nat:=match p with
 |none=>leaf
 |some q=>nxX ss leaf (ts.getD q tr0)
def dpX(ss:List StD)(ts:List TrD)(l:aE)(ks vs:List Int)(arg:Int)(leaf:Nat)(p:Option Nat):List Int×List bI:=match p with
 |none=>(vs,[])
 |some q=>aL l.v ks arg vs (iE ss leaf (ts.getD q tr0)).flatten
theorem qjA{f:Nat→Bool}:∀{K:List Nat} {a:Nat},a<K.length→(∀i,i<a→f (K.getD i 0)=false)→f (K.getD a 0)=true→K.find? f=some (K.getD a 0)
 |[],a,ha,_,_=>by simp at ha
 |x::r,0,_,_,h1=>by simp at h1;simp[h1]
 |x::r,a+1,ha,h0,h1=>by
  have hx:f x=false:=by simpa using h0 0 (by omega)
  have:=qjA (K:=r) (a:=a) (by simpa using ha) (λi hi=>by simpa using h0 (i+1) (by omega)) (by simpa using h1);simpa[List.find?_cons,hx]using this
theorem qwQ{f:Nat→Bool}{K:List Nat}(h:∀i,i<K.length→f (K.getD i 0)=false):K.find? f=none:=by
 rw[List.find?_eq_none];intro x hx;obtain⟨i,hi,rfl⟩:=List.getElem_of_mem hx;have:=h i hi;simpa[List.getD_eq_getElem?_getD,List.getElem?_eq_getElem hi]using this
theorem qjZ{ss:List StD}{ts:List TrD}{l:aE}(hC:Chk ss ts l){leaf q:Nat}(h:Way ss ts leaf q):(iE ss leaf (ts.getD q tr0)).flatten.length≤50000:=by
 have h1:=qh0 (K:=exX ss leaf (ts.getD q tr0)) (g:=λi=>(ss.getD i st0).exit) (λx hx=>by obtain⟨vs,hv⟩:=hC.ext x (h.exm x hx);exact qg9 hv);have h2:=qh0 (K:=enX ss (ts.getD q tr0)) (g:=λi=>(ss.getD i st0).entry) (λx hx=>by obtain⟨vs,hv⟩:=hC.ent x (h.enm x hx);exact qg9 hv);obtain⟨vs,hv⟩:=hC.act q h.lt;have h3:=qg9 hv;have h4:=h.ex;have h5:=h.en;unfold iE;rw[List.flatten_append,List.flatten_append,List.length_append,List.length_append];simp only[List.flatten_cons,List.flatten_nil,List.append_nil];omega
theorem ButM.more{P:Nat}{w X Y:World}{C:Nat}(h:ButM P w X)(hb:Below C X Y)(hC:w.heap.size≤C):ButM P w Y:=⟨hb.os.trans h.os,hb.tape.trans h.tape,hb.output.trans h.output,Nat.le_trans h.size hb.size,λk hk hn=>(hb.block k (by omega)).trans (h.block k hk hn)⟩
theorem ButM.refl(P:Nat)(w:World):ButM P w w:=⟨rfl,rfl,rfl,Nat.le_refl _,λ_ _ _=>rfl⟩
theorem ButM.after{P:Nat}{w X Y:World}(h:Below w.heap.size w X)(k:ButM P X Y):ButM P w Y:=⟨k.os.trans h.os,k.tape.trans h.tape,k.output.trans h.output,Nat.le_trans h.size k.size,λi hi hn=>(k.block i (Nat.lt_of_lt_of_le hi h.size) hn).trans (h.block i hi)⟩
structure St (w:World) (P mb B C:Nat) (ss:List StD) (ts:List TrD) (l:aE) (leaf:Nat) (lets:Nat→Value) (ks vs:List Int) (arg:Int) (K:List Nat) (rv:Value) (X:World):Prop where
 but:ButM P w X
 zb:X.heap[w.heap.size+1+1]? =some (.cells #[.slice none 0 0,.slice none 0 0] 32 (0,0))
 mom:Mom X B mb ks vs arg []
 gr:Gr X C ss ts l leaf lets K rv
 gd:∀q,q<ts.length→GuardAt X 0 l.v (ts.getD q tr0).guard (lets q)
theorem St.below{w:World}{P mb B C:Nat}{ss:List StD}{ts:List TrD}{l:aE}{leaf:Nat}{lets:Nat→Value}{ks vs:List Int}{arg:Int}{K:List Nat}{rv:Value}{X Y:World}(h:St w P mb B C ss ts l leaf lets ks vs arg K rv X)(hb:Below X.heap.size X Y):St w P mb B C ss ts l leaf lets ks vs arg K rv Y:=
 ⟨h.but.more hb h.but.size,aA h.zb hb,h.mom.below hb,h.gr.below hb,λq hq=>(h.gd q hq).below hb⟩
theorem qEA{R:List (List Value)}{m:Nat}(hl:∀i,i<R.length→(R.getD i []).length=6):∀{i j:Nat},i<R.length→j<6→R.flatten[i*6+j]? =(R.getD i [])[j]?:=by
 induction R with
 |nil=>intro i j hi;simp at hi
 |cons x r ih=>
  intro i j hi hj;have hx:x.length=6:=by simpa using hl 0 (by simp)
  cases i with
  |zero=>rw[List.flatten_cons];simp only[Nat.zero_mul,Nat.zero_add,List.getD_cons_zero];exact List.getElem?_append_left (by omega)
  |succ i=>
   rw[List.flatten_cons,show(i+1)*6+j=6+(i*6+j) by omega,List.getElem?_append_right (by omega),hx,show 6+(i*6+j)-6=i*6+j by omega];have:=ih (λq hq=>by simpa using hl (q+1) (by simpa using hq)) (i:=i) (j:=j) (by simpa using hi) hj;simpa using this
theorem Gr.cells{X:World}{C:Nat}{ss:List StD}{ts:List TrD}{l:aE}{leaf:Nat}{lets:Nat→Value}{K:List Nat}{ao:Option Addr}{m c:Nat}(h:Gr X C ss ts l leaf lets K (.slice ao m c)){a:Nat}(ha:a<K.length):
  ∃g ev en ec nv nn nc P lv LS,ao=some ⟨g,0,none⟩∧X.cell? ⟨g,a*6,none⟩=some (.int .i64 (K.getD a 0:Nat))∧X.cell? ⟨g,a*6+1,none⟩=some (.slice ev en ec)∧X.cell? ⟨g,a*6+2,none⟩=some (.slice nv nn nc)∧X.cell? ⟨g,a*6+3,none⟩=some (.int .i64 (nxX ss leaf (ts.getD (K.getD a 0) tr0):Nat))∧X.cell? ⟨g,a*6+4,none⟩=some (.func (.func 163) #[] #[.pointer (some ⟨P,0,none⟩)])∧X.cell? ⟨g,a*6+5,none⟩=some (lets (K.getD a 0))∧
   LS.length≤1000∧Lists X l P lv LS (iE ss leaf (ts.getD (K.getD a 0) tr0)):=by
 obtain⟨R,h1,h2,h3⟩:=h;obtain⟨g,cap,hv,_,_⟩:=World.ownsRow.form h2 (by omega);have hao:ao=some ⟨g,0,none⟩∧m=K.length∧c=cap:=by simpa using hv
 obtain⟨rfl,rfl,rfl⟩:=hao;obtain⟨_,_,P,lv,LS,hc,⟨ev,en,ec,rfl⟩,⟨nv,nn,nc,rfl⟩,h5,h6⟩:=h3 a ha;have h6l:∀i,i<R.length→(R.getD i []).length=6:=λi hi=>by
  obtain⟨_,_,_,_,_,e,_⟩:=h3 i (by omega);rw[e];rfl
 have cell:∀j,j<6→X.cell? ⟨g,a*6+j,none⟩=(R.getD a [])[j]?:=λj hj=>by
  rw[World.ownsRow.cellAt h2 (a*6+j) (by omega),qEA (m:=0) h6l (by omega) hj]
 rw[hc]at cell;exact⟨g,ev,en,ec,nv,nn,nc,P,lv,LS,rfl,cell 0 (by omega),cell 1 (by omega),cell 2 (by omega),cell 3 (by omega),cell 4 (by omega),cell 5 (by omega),h5,h6⟩
end Go.Proofs.YtiimkhepplkocaaGreat
