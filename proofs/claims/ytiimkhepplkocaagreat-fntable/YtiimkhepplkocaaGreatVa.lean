import Derived.Test.YtiimkhepplkocaaGreatYa
import Derived.Deep.AppendLies
import Derived.Deep.LoopGhost
import Derived.Deep.DeepCutAuto
import Derived.Deep.RegionHeld3
import Derived.Deep.RegionLaw
set_option maxRecDepth 100000
set_option maxHeartbeats 16000000
namespace Go.Proofs.YtiimkhepplkocaaGreat
open Go.RowKit Go.Sort
structure bI where
 kind:Int
 a:Int
 b:Int
 v:Int
def aT:List bI→List Value
 |[]=>[]
 |e::r=>.int .i64 e.kind::.int .i64 e.a::.int .i64 e.b::.int .i64 e.v::aT r
theorem qwA(a b:List bI):aT (a++b)=aT a++aT b:=by
 induction a with
 |nil=>rfl
 |cons e r ih=>simp[aT,ih]
theorem qoJ(a:List bI):(aT a).length=a.length*4:=by
 induction a with
 |nil=>rfl
 |cons e r ih=>simp[aT,ih];omega
theorem Own.below{w w':World}{base:Nat}{v:Value}{zs:List Int}(h:Own w base v zs)(hb:Below w.heap.size w w'):Own w' base v zs:=⟨aI h.1 hb,h.2⟩
theorem aM{w:World}{b1 b2:Nat}{e:TypeId}{size:Nat}{v:Value}{n:Nat}{xs:List Value}(h:w.ownsRow b1 e size v n xs)(hb:b2≤b1):w.ownsRow b2 e size v n xs:=by
 refine⟨h.1,?_⟩;rcases h.2 with h|⟨g,cap,cur,h1,h2,h3⟩
 ·exact .inl h
 ·exact .inr ⟨g,cap,cur,h1,by omega,h3⟩
theorem Own.base{w:World}{b1 b2:Nat}{v:Value}{zs:List Int}(h:Own w b1 v zs)(hb:b2≤b1):Own w b2 v zs:=⟨aM h.1 hb,h.2⟩
theorem aJ{w:World}{B:Nat}{e:TypeId}{size:Nat}{v:Value}{n:Nat}{xs:List Value}(h:w.ownsRow B e size v n xs){H:Nat}{cs:Array Value}{t:TypeId}(ht:t≠e)(hH:w.heap[H]? =some (.cells cs t (0,0))):v.ownBlock≠some H:=by
 intro e2;rcases h.2 with⟨h0,_⟩|⟨g,cap,cur,h1,h2,h3,h4⟩
 ·rw[h0]at e2;cases e2
 ·rw[h1]at e2
  simp[Value.ownBlock]at e2;subst e2;rw[hH]at h3;simp at h3;exact ht h3.2
theorem qD4{w:World}{H q:Nat}{cs ds:Array Value}{t u:TypeId}(hH:w.heap[H]? =some (.cells cs t (0,0)))(hq:w.heap[q]? =some (.cells ds u (0,0)))(h:t≠u):q≠H:=by
 rintro rfl;rw[hH]at hq;simp at hq;exact h hq.2
theorem qyS{w:World}{B g:Nat}{cap i:Nat}{vs:List Int}{n:Int}(h:Own w B (.slice (some ⟨g,0,none⟩) vs.length cap) vs):Own (w.setCell ⟨g,i,none⟩ (.int .i64 n)) B (.slice (some ⟨g,0,none⟩) (vs.set i n).length cap) (vs.set i n):=by
 refine⟨?_,by simp⟩;have:=World.ownsRow.stored h.1 i (.int .i64 n);rw[List.map_set,List.length_set];exact this.1
theorem qd0{w:World}{B g n m cap size:Nat}{e:TypeId}{xs:List Value}(h:w.ownsRow B e size (.slice (some ⟨g,0,none⟩) n cap) m xs):∃cur,w.heap[g]? =some (.cells cur e (0,0))∧B≤g:=by
 rcases h.2 with⟨h0,_⟩|⟨g',cap',cur,h1,h2,h3,_⟩
 ·cases h0
 ·simp only[Value.slice.injEq,Option.some.injEq,Addr.mk.injEq]at h1
  obtain⟨⟨rfl,_⟩,_⟩:=h1;exact⟨cur,h3,h2⟩
theorem qvJ{w:World}{B g cap i:Nat}{zs:List Int}(h:Own w B (.slice (some ⟨g,0,none⟩) zs.length cap) zs)(hi:i<zs.length):w.cell? ⟨g,i,none⟩=some (.int .i64 (zs.getD i 0)):=by
 have hs:=h.slice;obtain⟨b,off,e,_,hc⟩:=hs.2 (by omega);simp only[Option.some.injEq,Addr.mk.injEq]at e;obtain⟨rfl,rfl,_⟩:=e;simpa using hc i hi
theorem qjX{w:World}{H:Nat}{a b c d:Value}{t:TypeId}(h:w.heap[H]? =some (.cells #[a,b,c,d] t (0,0))):w.frozen? ⟨H,0,none⟩=false∧w.frozen? ⟨H,1,none⟩=false∧w.frozen? ⟨H,2,none⟩=false∧w.frozen? ⟨H,3,none⟩=false:=by
 simp[World.frozen?,h]
def Mom(w:World)(B mb:Nat)(ks vs:List Int)(arg:Int)(es:List bI):Prop:=
 ∃kg kc vg vc ev,w.heap[mb]? =some (.cells #[.slice (some ⟨kg,0,none⟩) ks.length kc,.slice (some ⟨vg,0,none⟩) vs.length vc,.int .i64 arg,ev] 146 (0,0))∧
  Own w B (.slice (some ⟨kg,0,none⟩) ks.length kc) ks∧Own w B (.slice (some ⟨vg,0,none⟩) vs.length vc) vs∧kg≠vg∧B≤mb∧w.ownsRow B 136 4 ev es.length (aT es)∧ev≠.slice none 0 0
structure Stir (B:Nat) (w w':World):Prop where
 os:w'.os=w.os
 tape:w'.tape=w.tape
 output:w'.output=w.output
 size:w.heap.size≤w'.heap.size
 low:∀k,k<B→k<w.heap.size→w'.heap[k]? =w.heap[k]?
 other:∀(k:Nat) (cs:Array Value) (t:TypeId) (fr:Nat×Nat),w.heap[k]? =some (Obj.cells cs t fr)→t≠3→t≠146→t≠136→w'.heap[k]? =w.heap[k]?
theorem Stir.refl(B:Nat)(w:World):Stir B w w:=⟨rfl,rfl,rfl,Nat.le_refl _,λ_ _ _=>rfl,λ_ _ _ _ _ _ _ _=>rfl⟩
theorem Stir.trans{B:Nat}{a b c:World}(h:Stir B a b)(k:Stir B b c):Stir B a c:=
 ⟨k.os.trans h.os,k.tape.trans h.tape,k.output.trans h.output,Nat.le_trans h.size k.size,λi hi hs=>(k.low i hi (Nat.lt_of_lt_of_le hs h.size)).trans (h.low i hi hs),
  λi cs t fr e h1 h2 h3=>(k.other i cs t fr ((h.other i cs t fr e h1 h2 h3).trans e) h1 h2 h3).trans (h.other i cs t fr e h1 h2 h3)⟩
theorem Stir.of_below{B:Nat}{a b:World}(h:Below a.heap.size a b):Stir B a b:=⟨h.os,h.tape,h.output,h.size,λi _ hs=>h.block i hs,λi _ _ _ e _ _ _=>h.block i (lt_of_block e)⟩
theorem Stir.below{B:Nat}{w w':World}(h:Stir B w w')(hB:B≤w.heap.size):Below B w w':=⟨h.os,h.tape,h.output,h.size,λk hk=>h.low k hk (by omega)⟩
theorem Stir.set{B:Nat}{w:World}{H o:Nat}{cs:Array Value}{t:TypeId}(hH:w.heap[H]? =some (.cells cs t (0,0)))(ht:t=3∨t=146∨t=136)(hB:B≤H)(u:Value):Stir B w (w.setCell ⟨H,o,none⟩ u):=by
 refine⟨rfl,rfl,rfl,by simp,λk hk _=>Below.heap_setCell _ _ _ _ (show k≠H by omega),λk cs' t' fr e h1 h2 h3=>Below.heap_setCell _ _ _ _ ?_⟩;show k≠H;rintro rfl;rw[hH]at e;simp at e;obtain⟨_,rfl,_⟩:=e;rcases ht with h|h|h
 ·exact h1 h
 ·exact h2 h
 ·exact h3 h
theorem Stir.box{B:Nat}{w w':World}{H:Nat}{cs:Array Value}{t:TypeId}{fr:Nat×Nat}(h:Stir B w w')(hb:w.heap[H]? =some (.cells cs t fr))(h1:t≠3)(h2:t≠146)(h3:t≠136):w'.heap[H]? =some (.cells cs t fr):=(h.other H cs t fr hb h1 h2 h3).trans hb
theorem Stir.own{B B2:Nat}{w w':World}{e:TypeId}{size:Nat}{v:Value}{n:Nat}{xs:List Value}(h:Stir B w w')(ho:w.ownsRow B2 e size v n xs)(h1:e≠3)(h2:e≠146)(h3:e≠136):w'.ownsRow B2 e size v n xs:=by
 refine⟨ho.1,?_⟩;rcases ho.2 with h0|⟨g,cap,cur,k1,k2,k3,k4⟩
 ·exact .inl h0
 ·exact .inr ⟨g,cap,cur,k1,k2,h.box k3 h1 h2 h3,k4⟩
theorem Mom.below{w w':World}{B mb:Nat}{ks vs:List Int}{arg:Int}{es:List bI}(h:Mom w B mb ks vs arg es)(hb:Below w.heap.size w w'):Mom w' B mb ks vs arg es:=by
 obtain⟨kg,kc,vg,vc,ev,h1,h2,h3,h4,h5,h6,h7⟩:=h;exact⟨kg,kc,vg,vc,ev,aA h1 hb,h2.below hb,h3.below hb,h4,h5,aI h6 hb,h7⟩
theorem Mom.at{w:World}{B mb:Nat}{ks vs:List Int}{arg:Int}{es:List bI}(h:Mom w B mb ks vs arg es):MomAt w mb vs arg:=by
 obtain⟨kg,kc,vg,vc,ev,m1,ok,ov,_,_,_⟩:=h;obtain⟨c0,c1,c2,c3⟩:=aC m1;exact⟨lt_of_block m1,c2,_,_,_,c1,ov.slice⟩
theorem Mom.put{w:World}{B mb i kg kc vg vc:Nat}{ks vs:List Int}{arg:Int}{es:List bI}{ev:Value}{n:Int}
  (m1:w.heap[mb]? =some (.cells #[.slice (some ⟨kg,0,none⟩) ks.length kc,.slice (some ⟨vg,0,none⟩) vs.length vc,.int .i64 arg,ev] 146 (0,0)))
  (ok:Own w B (.slice (some ⟨kg,0,none⟩) ks.length kc) ks) (ov:Own w B (.slice (some ⟨vg,0,none⟩) vs.length vc) vs) (hne:kg≠vg) (hB:B≤mb) (he:w.ownsRow B 136 4 ev es.length (aT es)) (hev:ev≠.slice none 0 0):
  Mom (w.setCell ⟨vg,i,none⟩ (.int .i64 n)) B mb ks (vs.set i n) arg es∧Stir B w (w.setCell ⟨vg,i,none⟩ (.int .i64 n)):=by
 obtain⟨cur,hcur,hvg⟩:=qd0 ov.1;refine⟨⟨kg,kc,vg,vc,ev,?_,⟨ownsRow_setCell_other ok.1 (by simp[Value.ownBlock];exact hne) _,ok.2⟩,qyS (i:=i) (n:=n) ov,hne,hB,ownsRow_setCell_other he (aJ he (by decide) hcur) _,hev⟩,Stir.set hcur (.inl rfl) hvg _⟩;rw[List.length_set];exact(Below.heap_setCell _ _ _ _ (qD4 hcur m1 (by decide))).trans m1
theorem qGV(mb i:Nat)(ks vs:List Int)(arg n:Int)(es:List bI)(B:Nat)(w:World)(hik:i<ks.length)(hiv:i<vs.length)(k1:1≤ks.getD i 0)(k7:ks.getD i 0≤7)(h:Mom w B mb ks vs arg es):
  Calls Tryz.prog 206 #[.pointer (some ⟨mb,0,none⟩),.int .i64 i,.int .i64 n] w λe w'=>e=.returned (.tuple #[])∧Mom w' B mb ks (vs.set i (conv (ks.getD i 0) n)) arg es∧Stir B w w':=by
 obtain⟨kg,kc,vg,vc,ev,m1,ok,ov,hne,hB,he,hev⟩:=h;obtain⟨cur,hcur,hvg⟩:=qd0 ov.1;refine(qIV mb kg ks.length kc vg vs.length vc i (ks.getD i 0) n _ ev _ w k1 k7 m1 (by omega) (by omega) (lt_of_block hcur) (qvJ ok hik) (qvJ ov hiv) (by simp[World.frozen?,hcur])).mono ?_;rintro e w2 ⟨he2,w3,hb3,rfl⟩;obtain⟨p1,p2⟩:=Mom.put (i:=i) (n:=conv (ks.getD i 0) n) (aA m1 hb3) (ok.below hb3) (ov.below hb3) hne hB (aI he hb3) hev;exact⟨he2,p1,(Stir.of_below hb3).trans p2⟩
end Go.Proofs.YtiimkhepplkocaaGreat
namespace Go.Proofs.YtiimkhepplkocaaGreat
open Go.RowKit Go.Sort
set_option linter.unusedVariables false
attribute [local go_sem ↓] Go.wp_at_zero Go.wp_at_succ
theorem Tryz.infoEff:(Tryz.prog.info? 136).map (λi=>(i.zero,i.size,i.bytes))=some (some (.agg #[.int .i64 0,.int .i64 0,.int .i64 0,.int .i64 0]),4,32):=by kernel_rfl
theorem qG8{w X w2:World}{mb:Nat}{ea:Option Addr}{en ec:Nat}{k v a:Value}{cs:Array Value}{row:Option Nat}(hg:X.grownBy w2 row)(hb:Below w.heap.size w X)(h1:w.heap[mb]? =some (.cells #[k,v,a,.slice ea en ec] 146 (0,0)))(h2:X.heap[w.heap.size]? =some (.cells cs 136 (0,0)))
  (hn1:row≠some mb) (hn2:row≠some w.heap.size):w2.heap[mb]? =some (.cells #[k,v,a,.slice ea en ec] 146 (0,0))∧w2.heap[w.heap.size]? =some (.cells cs 136 (0,0)):=
 ⟨(hg.block mb (Nat.lt_of_lt_of_le (lt_of_block h1) hb.size) (λe=>hn1 e.symm)).trans (aA h1 hb),(hg.block _ (lt_of_block h2) (λe=>hn2 e.symm)).trans h2⟩
theorem qHP{w:World}{B:Nat}{e:TypeId}{size:Nat}{v:Value}{n:Nat}{xs:List Value}(h:w.ownsRow B e size v n xs){H:Nat}(hH:w.heap.size≤H):v.ownBlock≠some H:=by
 intro e2;rcases h.2 with⟨h0,_⟩|⟨g,cap,cur,h1,h2,h3,h4⟩
 ·rw[h0]at e2;cases e2
 ·rw[h1]at e2
  simp[Value.ownBlock]at e2;subst e2;have:=lt_of_block h3;omega
theorem qhG{w w':World}{B:Nat}{e:TypeId}{size:Nat}{v:Value}{n:Nat}{xs:List Value}(h:w.ownsRow B e size v n xs)(hb:∀b,b<w.heap.size→v.ownBlock=some b→w'.heap[b]? =w.heap[b]?):w'.ownsRow B e size v n xs:=by
 refine⟨h.1,?_⟩;rcases h.2 with h0|⟨g,cap,cur,h1,h2,h3,h4⟩
 ·exact .inl h0
 ·exact .inr ⟨g,cap,cur,h1,h2,(hb g (lt_of_block h3) (by rw[h1];rfl)).trans h3,h4⟩
theorem Stir.grown{B:Nat}{X w2:World}{v:Value}{n:Nat}{xs:List Value}(ho:X.ownsRow B 136 4 v n xs)(hg:X.grownBy w2 v.ownBlock):Stir B X w2:=by
 refine⟨hg.os,hg.tape,hg.output,hg.size,λk hk hs=>hg.block k hs ?_,λk cs t fr e h1 h2 h3=>hg.block k (lt_of_block e) ?_⟩
 ·intro e
  rcases ho.2 with⟨h0,_⟩|⟨g,cap,cur,k1,k2,k3,k4⟩
  ·rw[h0]at e;cases e
  ·rw[k1]at e;simp[Value.ownBlock]at e;omega
 ·intro e2
  rcases ho.2 with⟨h0,_⟩|⟨g,cap,cur,k1,k2,k3,k4⟩
  ·rw[h0]at e2;cases e2
  ·rw[k1]at e2
   simp[Value.ownBlock]at e2;subst e2;rw[e]at k3;simp at k3;exact h3 k3.2.1
theorem qG9{w X w2:World}{B mb kg kc vg vc gg cap:Nat}{ks vs:List Int}{arg:Int}{es:List bI}{x:bI}{ev:Value}
  (m1:w.heap[mb]? =some (.cells #[.slice (some ⟨kg,0,none⟩) ks.length kc,.slice (some ⟨vg,0,none⟩) vs.length vc,.int .i64 arg,ev] 146 (0,0)))
  (ok:Own w B (.slice (some ⟨kg,0,none⟩) ks.length kc) ks) (ov:Own w B (.slice (some ⟨vg,0,none⟩) vs.length vc) vs) (hne:kg≠vg) (hB:B≤mb) (he:w.ownsRow B 136 4 ev es.length (aT es))
  (hb:Below w.heap.size w X) (hg:X.grownBy w2 ev.ownBlock) (r2:w2.heap[mb]? =some (.cells #[.slice (some ⟨kg,0,none⟩) ks.length kc,.slice (some ⟨vg,0,none⟩) vs.length vc,.int .i64 arg,ev] 146 (0,0)))
  (o2:w2.ownsRow B 136 4 (.slice (some ⟨gg,0,none⟩) (es.length+1) cap) (es.length+1) (aT es++[.int .i64 x.kind,.int .i64 x.a,.int .i64 x.b,.int .i64 x.v])):
  Mom (w2.setCell ⟨mb,3,none⟩ (.slice (some ⟨gg,0,none⟩) (es.length+1) cap)) B mb ks vs arg (es++[x])∧Stir B w (w2.setCell ⟨mb,3,none⟩ (.slice (some ⟨gg,0,none⟩) (es.length+1) cap)):=by
 have heX:=aI he hb;have keep:∀{g n c:Nat} {zs:List Int},Own w B (.slice (some ⟨g,0,none⟩) n c) zs→Own (w2.setCell ⟨mb,3,none⟩ (.slice (some ⟨gg,0,none⟩) (es.length+1) cap)) B (.slice (some ⟨g,0,none⟩) n c) zs:=by
  intro g n c zs h;have hX:=h.below hb;obtain⟨cur,hcur,_⟩:=qd0 hX.1;have hw2:w2.ownsRow B 3 1 (.slice (some ⟨g,0,none⟩) n c) zs.length (zs.map (Value.int .i64)):=qhG hX.1 (λb hbl e=>hg.block b hbl (λe3=>aJ heX (show(3:Nat)≠136 by decide) hcur (by rw[←e3,←e];rfl)));exact⟨ownsRow_setCell_other hw2 (aJ hw2 (by decide) r2) _,h.2⟩
 refine⟨⟨kg,kc,vg,vc,.slice (some ⟨gg,0,none⟩) (es.length+1) cap,?_,keep ok,keep ov,hne,hB,?_,by simp⟩,((Stir.of_below hb).trans (Stir.grown heX hg)).trans (Stir.set r2 (.inr (.inl rfl)) hB _)⟩
 ·rw[heap_setCell_same w2 mb 3 _ _ _ r2];simp
 ·rw[List.length_append,qwA]
  exact ownsRow_setCell_other o2 (aJ o2 (by decide) r2) _
theorem qdI(mb:Nat)(ks vs:List Int)(arg:Int)(es:List bI)(x:bI)(B:Nat)(w:World)(hl:es.length≤1000000)(hBw:B≤w.heap.size)(h:Mom w B mb ks vs arg es):
  Calls Tryz.prog 216 #[.pointer (some ⟨mb,0,none⟩),.agg #[.int .i64 x.kind,.int .i64 x.a,.int .i64 x.b,.int .i64 x.v]] w λe w'=>e=.returned (.tuple #[])∧Mom w' B mb ks vs arg (es++[x])∧Stir B w w':=by
 obtain⟨i0,hi,hz0,hz1,hz2⟩:=info_parts Tryz.infoEff;obtain⟨kg,kc,vg,vc,ev,m1,ok,ov,hne,hB,he,hev⟩:=h;obtain⟨c0,c1,c2,c3⟩:=aC m1;obtain⟨f0,f1,f2,f3⟩:=qjX m1;obtain⟨ea,en,ec,rfl⟩:∃ea en ec,ev=.slice ea en ec:=by
  rcases he.2 with⟨h,_⟩|⟨g,cap,cur,h,_⟩<;>exact⟨_,_,_,h⟩
 have M1:=hid m1;have OK:=hid ok;have OV:=hid ov;have HE:=hid he;clear m1 ok ov he;obtain⟨W,hW⟩:∃W,W=w.alloc (.cells #[.int .i64 x.kind,.int .i64 x.a,.int .i64 x.b,.int .i64 x.v] 136):=⟨_,rfl⟩;obtain⟨U,hU⟩:∃U,U=W.alloc (.cells #[.int .i64 x.kind,.int .i64 x.a,.int .i64 x.b,.int .i64 x.v] 136):=⟨_,rfl⟩;have ml:=lt_of_block M1.out;have bU:Below w.heap.size w U:=by rw[hU,hW];exact aD _ _ _
 have qU:U.heap[w.heap.size+1]? =some (.cells #[.int .i64 x.kind,.int .i64 x.a,.int .i64 x.b,.int .i64 x.v] 136 (0,0)):=by rw[hU,hW];simpa using heap_alloc_new (w.alloc (.cells #[.int .i64 x.kind,.int .i64 x.a,.int .i64 x.b,.int .i64 x.v] 136)) (.cells #[.int .i64 x.kind,.int .i64 x.a,.int .i64 x.b,.int .i64 x.v] 136)
 have BU:=hid bU;have QU:=hid qU;have HEU:=hid (aI HE.out bU);have q0:U.heap[w.heap.size]? =some (.cells #[.int .i64 x.kind,.int .i64 x.a,.int .i64 x.b,.int .i64 x.v] 136 (0,0)):=by rw[hU,hW];exact aA (heap_alloc_new w _) (aB _ _)
 have Q0:=hid q0;have N1:=hid (aJ HE.out (by decide) M1.out);have N2:=hid (qHP HE.out (Nat.le_refl _));have NW:=hid (World.news_of_block qU);have SU:Hid (B≤U.heap.size):=hid (Nat.le_trans hBw bU.size);have F63:Hid (es.length+1≤maxLen∧(es.length+1)*32≤140737488355328):=hid (by unfold maxLen;omega);subst hU;subst hW;clear hev bU qU q0;go_enter Tryz.func216,Tryz.ntmps216;go_wp2_with fail;go_region_law
  (first
   |(refine step_append_lies _ (by rfl) _ _ _ (by rfl) B 136 i0 _ 4 32 Tryz.underlying52 hi hz0 hz1 hz2 rfl (by omega) (.slice ea en ec) es.length (aT es) (by simp[Act.eval]) HEU.out ⟨w.heap.size+1,0,none⟩ 1 1 [.int .i64 x.kind,.int .i64 x.a,.int .i64 x.b,.int .i64 x.v] (by simp[Act.eval]) (by simp) NW.out (by intro u hu;simp at hu;rcases hu with rfl|rfl|rfl|rfl<;>rfl) (by omega) F63.out.1 F63.out.2 SU.out _ rfl ?_;intro gg cap' w2 hown1 hgrow hat hlt;have NA:=qG8 hgrow (by first|exact BU.out|exact BU.out.drew) M1.out Q0.out N1.out N2.out;obtain⟨r0,r1,r2,r3⟩:=aC NA.1;obtain⟨s0,s1,s2,s3⟩:=qjX NA.1;have O2:=hid hown1;have G2:=hid hgrow;have R2:=hid NA.1;clear NA hown1 hgrow hat))
 all_goals
  go_end0;obtain⟨d1,d2⟩:=qG9 M1.out OK.out OV.out hne hB HE.out (by first|exact BU.out|exact BU.out.drew) G2.out R2.out O2.out;exact⟨rfl,d1,d2⟩
end Go.Proofs.YtiimkhepplkocaaGreat
namespace Go.Proofs.YtiimkhepplkocaaGreat
open Go.RowKit Go.Sort
set_option linter.unusedVariables false
attribute [local go_sem ↓] Go.wp_at_zero Go.wp_at_succ
theorem qiX(mb:Nat)(k v a e:Value)(w:World)(hk:∃x n c,k=.slice x n c)(hv:∃x n c,v=.slice x n c)(m1:w.heap[mb]? =some (.cells #[k,v,a,e] 146 (0,0))):
  Calls Tryz.prog 69 #[.pointer (some ⟨mb,0,none⟩)] w λr w'=>r=.returned (.agg #[k,v])∧Below w.heap.size w w':=by
 obtain⟨c0,c1,c2,c3⟩:=aC m1;obtain⟨kx,kn,kc,rfl⟩:=hk;obtain⟨vx,vn,vc,rfl⟩:=hv;have ml:=lt_of_block m1;clear m1;go_enter Tryz.func69,Tryz.ntmps69;go_wp2;go_region;go_wp2
 all_goals
  refine bodyPost_ret (v:=.agg #[.slice kx kn kc,.slice vx vn vc]) (by simp[results,Tryz.results69,go_sem]) rfl ?_;exact⟨rfl,(aB _ _).drew⟩
theorem dT{w:World}{H:Nat}{a b:Value}{t:TypeId}(h:w.heap[H]? =some (.cells #[a,b] t (0,0))):w.cell? ⟨H,0,none⟩=some a∧w.cell? ⟨H,1,none⟩=some b:=by simp[World.cell?,h]
abbrev OE:Obj:=.cells #[] 136
theorem qdW{w:World}{B E:Nat}(h:w.heap[E]? =some OE)(hB:B≤E):w.ownsRow B 136 4 (.slice (some ⟨E,0,none⟩) 0 0) 0 []:=
 ⟨rfl,.inr ⟨E,0,#[],rfl,hB,h,Nat.le_refl _,by decide,rfl,rfl⟩⟩
theorem qxV{X:World}{B kg kc vg vc E:Nat}{ks vs:List Int}{arg:Int}(ok:Own X B (.slice (some ⟨kg,0,none⟩) ks.length kc) ks)(ov:Own X B (.slice (some ⟨vg,0,none⟩) vs.length vc) vs)(hne:kg≠vg)(hB:B≤X.heap.size)(he:X.heap[E]? =some OE)(hE:B≤E):
  Mom (X.alloc (.cells #[.slice (some ⟨kg,0,none⟩) ks.length kc,.slice (some ⟨vg,0,none⟩) vs.length vc,.int .i64 arg,.slice (some ⟨E,0,none⟩) 0 0] 146)) B X.heap.size ks vs arg []:=
 ⟨kg,kc,vg,vc,_,heap_alloc_new _ _,ok.below (aB _ _),ov.below (aB _ _),hne,hB,aI (qdW he hE) (aB _ _),by simp⟩
theorem uM(w:World)(a:Obj):(w.alloc a).heap[w.heap.size]? =some a:=heap_alloc_new w a
theorem qjO(w:World)(a b:Obj):((w.alloc a).alloc b).heap[w.heap.size+1]? =some b:=by simpa using heap_alloc_new (w.alloc a) b
theorem qx1(w:World)(a b:Obj):((w.alloc a).alloc b).heap[w.heap.size]? =some a:=aA (heap_alloc_new w a) (aB _ _)
structure Two (w w5:World) (ks vs:List Int) (kg kc vg vc:Nat):Prop where
 k:Own w5 w.heap.size (.slice (some ⟨kg,0,none⟩) ks.length kc) ks
 v:Own w5 w.heap.size (.slice (some ⟨vg,0,none⟩) vs.length vc) vs
 ne:kg≠vg
 bel:Below w.heap.size w w5
theorem Two.below{w w5 w6:World}{ks vs:List Int}{kg kc vg vc:Nat}(h:Two w w5 ks vs kg kc vg vc)(hb:Below w5.heap.size w5 w6):Two w w6 ks vs kg kc vg vc:=⟨h.k.below hb,h.v.below hb,h.ne,h.bel.trans (hb.mono h.bel.size)⟩
theorem qxC{w X w4:World}{q:Nat}{o:Obj}(hX:Below w.heap.size w X)(hq:X.heap[q]? =some o)(hb:Below X.heap.size X w4):Below w.heap.size w w4∧w4.heap[q]? =some o:=⟨hX.trans (hb.mono hX.size),aA hq hb⟩
structure One (w w4:World) (ks:List Int) (kg kc:Nat):Prop where
 k:Own w4 w.heap.size (.slice (some ⟨kg,0,none⟩) ks.length kc) ks
 bel:Below w.heap.size w w4
theorem qyH{w X w4:World}{ks:List Int}{kg kc:Nat}(hX:Below w.heap.size w X)(h4:Below X.heap.size X w4)(o4:Own w4 X.heap.size (.slice (some ⟨kg,0,none⟩) ks.length kc) ks):One w w4 ks kg kc:=⟨o4.base hX.size,hX.trans (h4.mono hX.size)⟩
theorem qy8{w w4 Y w5:World}{ks vs:List Int}{kg kc vg vc:Nat}(h4:One w w4 ks kg kc)(hY:Below w4.heap.size w4 Y)(h5:Below Y.heap.size Y w5)(o5:Own w5 Y.heap.size (.slice (some ⟨vg,0,none⟩) vs.length vc) vs):Two w w5 ks vs kg kc vg vc:=by
 have a4:=h4.bel;have a5:Below w4.heap.size w4 w5:=hY.trans (h5.mono hY.size);have g4:kg<w4.heap.size:=by
  obtain⟨cur,h,_⟩:=qd0 h4.k.1;exact lt_of_block h
 have g5:Y.heap.size≤vg:=by
  obtain⟨cur,h,hb⟩:=qd0 o5.1;exact hb
 have:=hY.size;exact⟨h4.k.below a5,o5.base (Nat.le_trans a4.size hY.size),by omega,a4.trans (a5.mono a4.size)⟩
theorem qxW(kA vA:Option Addr)(kn kc vn vc:Nat)(ks vs:List Int)(arg:Int)(w:World)(hkn:kn≤1048576)(hvn:vn≤1048576)(hk:SliceOf w kA kn ks)(hv:SliceOf w vA vn vs):
  Calls Tryz.prog 67 #[.agg #[.slice kA kn kc,.slice vA vn vc],.int .i64 arg] w λe w'=>∃mb,e=.returned (.pointer (some ⟨mb,0,none⟩))∧Mom w' w.heap.size mb ks vs arg []∧Below w.heap.size w w':=by
 have HS:Hid (∀w',Below w.heap.size w w'→SliceOf w' kA kn ks∧SliceOf w' vA vn vs):=λw' h=>⟨hk.below h,hv.below h⟩;have EK:=hid hk.1;have EV:=hid hv.1;clear hk hv;obtain⟨W,hW⟩:∃W,W=w.alloc (.cells #[.slice kA kn kc,.slice vA vn vc] 32):=⟨_,rfl⟩;have bW:Below w.heap.size w W:=by rw[hW];exact aB _ _
 have r1:W.heap[w.heap.size]? =some (.cells #[.slice kA kn kc,.slice vA vn vc] 32 (0,0)):=by rw[hW];exact heap_alloc_new _ _
 obtain⟨y0,y1,_,_⟩:=aF r1;have HW:=hid hW;have BW:=hid bW;have R1:=hid r1;have wl:=lt_of_block r1;have X1:=hid (And.intro bW.drew (show W.drew.heap[w.heap.size]? =_ from r1));have X2:=hid (And.intro (bW.alloc bW.size OE).drew (And.intro (show(W.alloc OE).drew.heap[w.heap.size]? =_ from aA r1 (aB W OE).drew) (show(W.alloc OE).drew.heap[W.heap.size]? =some OE from uM W OE)));go_enter Tryz.func67,Tryz.ntmps67;go_wp2_with fail;rw[←hW];clear hW bW r1;go_region_held3(λw'=>w'.cell? ⟨w.heap.size,0,none⟩=some (.slice kA kn kc)∧w'.cell? ⟨w.heap.size,1,none⟩=some (.slice vA vn vc)) (first|exact SY.out|exact SX.out|go_keep)
  (first
   |(go_at_call_of 124 (Value.slice kA kn kc);refine(qi4 kA kn kc ks _ hkn (HS.out _ X1.out.1).1).mono ?_;rintro e w4 ⟨v4,rfl,ho,hb⟩;obtain⟨g4,p4,hv4,_,_⟩:=ho.form;subst hv4;have A4:=hid (qxC X1.out.1 X1.out.2 hb);have SX:=hid (dT A4.out.2);have wl4:=lt_of_block A4.out.2;have P4:=hid (qyH X1.out.1 hb ho);clear ho hb)
   |(go_at_call_of 124 (Value.slice kA kn kc);refine(qi4 kA kn kc ks _ hkn (HS.out _ X2.out.1).1).mono ?_;rintro e w4 ⟨v4,rfl,ho,hb⟩;obtain⟨g4,p4,hv4,_,_⟩:=ho.form;subst hv4;have A4:=hid (qxC X2.out.1 X2.out.2.1 hb);have SX:=hid (dT A4.out.2);have wl4:=lt_of_block A4.out.2;have P4:=hid (qyH X2.out.1 hb ho);have E4:=hid (aA X2.out.2.2 hb);clear ho hb)
   |(go_at_call_of 124 (Value.slice vA vn vc);refine(qi4 vA vn vc vs _ hvn (HS.out _ A4.out.1).2).mono ?_;rintro e w5 ⟨v5,rfl,ho,hb⟩;obtain⟨g5,p5,hv5,_,_⟩:=ho.form;subst hv5;have SY:=hid (dT (aA A4.out.2 hb));have P5:=hid (qy8 P4.out (Below.refl _ _) hb ho);(try(have E5:=hid (aA E4.out hb)));clear ho hb)
   |(go_at_call_of 124 (Value.slice vA vn vc);refine(qi4 vA vn vc vs _ hvn (HS.out _ (A4.out.1.alloc A4.out.1.size _)).2).mono ?_;rintro e w5 ⟨v5,rfl,ho,hb⟩;obtain⟨g5,p5,hv5,_,_⟩:=ho.form;subst hv5;have SY:=hid (dT (aA (aA A4.out.2 (aB _ _)) hb));have P5:=hid (qy8 P4.out (aB _ _) hb ho);have E5:=hid (aA (uM w4 OE) hb);clear ho hb))
 all_goals
  go_wp2;go_ret
  first
   |exact⟨_,rfl,by simpa using qxV (P5.out.below (aB _ _)).k (P5.out.below (aB _ _)).v P5.out.ne (P5.out.below (aB _ _)).bel.size (uM w5 OE) P5.out.bel.size,(P5.out.below (aD _ _ _)).bel⟩
   |exact⟨_,rfl,qxV P5.out.k P5.out.v P5.out.ne P5.out.bel.size E5.out (by first|exact BW.out.size|exact A4.out.1.size),(P5.out.below (aB _ _)).bel⟩
end Go.Proofs.YtiimkhepplkocaaGreat
