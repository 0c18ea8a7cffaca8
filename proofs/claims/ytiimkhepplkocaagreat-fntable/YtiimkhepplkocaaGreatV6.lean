import Derived.Test.YtiimkhepplkocaaGreatVb
import Derived.Test.YtiimkhepplkocaaGreatYa
set_option maxRecDepth 100000
set_option maxHeartbeats 16000000
namespace Go.Proofs.YtiimkhepplkocaaGreat
open Go.RowKit Go.Sort
set_option linter.unusedVariables false
attribute [local go_sem ↓] Go.wp_at_zero Go.wp_at_succ
theorem qD1(ao:Option Addr)(n c:Nat)(ss:List aH)(o s t v:Int)(tb h0 h1:Nat)(V:World)(hn:n≤9223372036854775807)(hs:StmsOf V ao n ss)
  (d0:V.heap[h0]? =some (.cells #[.slice ao n c] 58 (0,0))) (d1:V.heap[h1]? =some (.cells #[.int .i64 o,.int .i64 s,.int .i64 t,.int .i64 v] 40 (0,0))) (hl:dJ ⟨o,s,t,v⟩ ss=none):
  Calls Tryz.prog 65 #[.pointer (some ⟨h0,0,none⟩),.pointer (some ⟨h1,0,none⟩),.pointer (some ⟨tb,0,none⟩)] V λe w'=>Pan e∧Below V.heap.size V w':=by
 have c0:=cell_of_one d0;obtain⟨e0,e1,e2,e3⟩:=aC d1;have H:=hid (qjK ao n c ss o s t v V hn hs);rw[hl]at H;unfold qc8 at H;simp only at H;clear hs hl d0 d1;go_enter Tryz.func65,Tryz.ntmps65;go_wp2_with(go_at_call 66;refine H.out.mono ?_;rintro e w1 ⟨⟨sx,rfl⟩,hb⟩;have HB:=hid hb;clear hb);exact⟨rfl,⟨_,rfl⟩,HB.out⟩
def okE(ks vs:List Int)(ss:List aH):Bool:=bQ ks vs&&cK ⟨64,64,200,vs.length⟩ ss
def yU(ks vs:List Int)(ss:List aH):List Int:=if okE ks vs ss then ks else []
def yV(ks vs:List Int)(ss:List aH)(arg:Int):List Int:=if okE ks vs ss then(aL vs.length ks arg vs ss).1 else []
def yT(ks vs:List Int)(ss:List aH)(arg:Int):List bI:=if okE ks vs ss then(aL vs.length ks arg vs ss).2 else []
structure OutE (B:Nat) (w:World) (kv vv ev:Value) (ks vs:List Int) (es:List bI):Prop where
 k:w.ownsRow B 3 1 kv ks.length (ks.map (Value.int .i64))
 v:w.ownsRow B 3 1 vv vs.length (vs.map (Value.int .i64))
 e:w.ownsRow B 136 4 ev es.length (aT es)
 ne:∀b,kv.ownBlock=some b→vv.ownBlock≠some b
theorem OutE.below{B:Nat}{w w':World}{kv vv ev:Value}{ks vs:List Int}{es:List bI}(h:OutE B w kv vv ev ks vs es)(hb:Below w.heap.size w w'):OutE B w' kv vv ev ks vs es:=⟨aI h.k hb,aI h.v hb,aI h.e hb,h.ne⟩
theorem qbC{B E:Nat}{w:World}(h:w.heap[E]? =some OE)(hB:B≤E):OutE B w (.slice none 0 0) (.slice none 0 0) (.slice (some ⟨E,0,none⟩) 0 0) [] [] []:=
 ⟨World.ownsRow_nil _ _ _ _,World.ownsRow_nil _ _ _ _,qdW h hB,λb e=>by cases e⟩
theorem dn0{a b:World}(h:Below a.drew.heap.size a.drew b):Below a.heap.size a b:=⟨h.os,h.tape,h.output,h.size,h.block⟩
theorem tN{wr:World}{b:Nat}{t:TypeId}{u1 u2 x y:Value}(hb:wr.heap[b]? =some (.cells #[x,y] t (0,0))):((wr.setCell ⟨b,0,none⟩ u1).setCell ⟨b,1,none⟩ u2).heap[b]? =some (.cells #[u1,u2] t (0,0)):=by
 have m1:=heap_setCell_same wr b 0 _ _ u1 hb;have m2:=heap_setCell_same _ b 1 _ _ u2 m1;rw[m2];simp
theorem uT{w wr:World}{b o1 o2:Nat}{u1 u2:Value}(h:Below w.heap.size w wr)(hb:w.heap.size≤b):Below w.heap.size w ((wr.setCell ⟨b,o1,none⟩ u1).setCell ⟨b,o2,none⟩ u2):=(h.setCell hb _).setCell hb _
theorem OutE.set2{B:Nat}{w:World}{kv vv ev:Value}{ks vs:List Int}{es:List bI}{b:Nat}{cs:Array Value}{t:TypeId}(h:OutE B w kv vv ev ks vs es)(hb:w.heap[b]? =some (.cells cs t (0,0)))(h1:t≠3)(h2:t≠136)(o1 o2:Nat)(u1 u2:Value):OutE B ((w.setCell ⟨b,o1,none⟩ u1).setCell ⟨b,o2,none⟩ u2) kv vv ev ks vs es:=by
 have m1:=heap_setCell_same w b o1 _ _ u1 hb;have f1:=ownsRow_setCell_other (a:=⟨b,o1,none⟩) h.k (aJ h.k h1 hb) u1;have f2:=ownsRow_setCell_other (a:=⟨b,o1,none⟩) h.v (aJ h.v h1 hb) u1;have f3:=ownsRow_setCell_other (a:=⟨b,o1,none⟩) h.e (aJ h.e h2 hb) u1;exact⟨ownsRow_setCell_other f1 (aJ f1 h1 m1) u2,ownsRow_setCell_other f2 (aJ f2 h1 m1) u2,ownsRow_setCell_other f3 (aJ f3 h2 m1) u2,h.ne⟩
theorem qiW{ks vs:List Int}(h:bQ ks vs=true):ks.length=vs.length∧vs.length≤32∧∀i,i<ks.length→1≤ks.getD i 0∧ks.getD i 0≤7:=by
 unfold bQ at h;obtain⟨h1,h2,h3⟩:=of_decide_eq_true h;refine⟨h1,h2,λi hi=>?_⟩;have:=(h3 i hi).1;simpa[kOk]using this
theorem qoW(ao:Option Addr)(n c:Nat)(ss:List aH)(kA vA:Option Addr)(kn kc vn vc:Nat)(ks vs:List Int)(arg:Int)(w:World)(hn:n≤9223372036854775807)(hkn:kn≤1048576)(hvn:vn≤1048576)
  (hs:StmsOf w ao n ss) (hk:SliceOf w kA kn ks) (hv:SliceOf w vA vn vs):
  Calls Tryz.prog 19 #[.slice ao n c,.agg #[.slice kA kn kc,.slice vA vn vc],.int .i64 arg] w λe w'=>∃kv vv ev,e=.returned (.tuple #[.agg #[kv,vv],ev])∧OutE w.heap.size w' kv vv ev (yU ks vs ss) (yV ks vs ss arg) (yT ks vs ss arg)∧Below w.heap.size w w':=by
 have hmf:∀(fn:Fn) (first cap:Array Value) (w:World),(Instr.makeFunc fn first cap).run Tryz.prog w=.ok (.func fn first cap) w:=λ_ _ _ _=>rfl;have HS:Hid (∀w',Below w.heap.size w w'→StmsOf w' ao n ss∧SliceOf w' kA kn ks∧SliceOf w' vA vn vs):=λw' h=>⟨hs.below h,hk.below h,hv.below h⟩;have EV:Hid (vs.length=vn):=hv.1;have EK:Hid (ks.length=kn):=hk.1;obtain⟨bb,hbb⟩:∃b,b=bQ ks vs:=⟨_,rfl⟩;have CB:Hid (∀w',Below w.heap.size w w'→Calls Tryz.prog 61 #[.agg #[.slice kA kn kc,.slice vA vn vc]] w' λe w''=>e=.returned (.bool bb)∧Below w'.heap.size w' w''):=λw' h=>by rw[hbb];exact qoV _ _ kn vn kc vc ks vs w' (by omega) (by omega) (hk.below h) (hv.below h)
 obtain⟨W,hW⟩:∃W,W=((w.alloc (.cells #[.slice ao n c] 58)).alloc (.cells #[.slice kA kn kc,.slice vA vn vc] 32)).alloc (.cells #[.slice none 0 0,.slice none 0 0] 32):=⟨_,rfl⟩;have sW:W.heap.size=w.heap.size+3:=by rw[hW];simp
 have bW:Below w.heap.size w W:=by rw[hW];exact(aD _ _ _).alloc (by simp;omega) _
 have q0:W.heap[w.heap.size]? =some (.cells #[.slice ao n c] 58 (0,0)):=by rw[hW];exact aA (aA (heap_alloc_new w _) (aB _ _)) (aB _ _)
 have q1:W.heap[w.heap.size+1]? =some (.cells #[.slice kA kn kc,.slice vA vn vc] 32 (0,0)):=by
  rw[hW];exact aA (by simpa using heap_alloc_new (w.alloc (.cells #[.slice ao n c] 58)) (.cells #[.slice kA kn kc,.slice vA vn vc] 32)) (aB _ _)
 have q2:W.heap[w.heap.size+1+1]? =some (.cells #[.slice none 0 0,.slice none 0 0] 32 (0,0)):=by
  rw[hW];simpa using heap_alloc_new ((w.alloc (.cells #[.slice ao n c] 58)).alloc (.cells #[.slice kA kn kc,.slice vA vn vc] 32)) (.cells #[.slice none 0 0,.slice none 0 0] 32)
 have Q0:=hid q0;have Q1:=hid q1;have Q2:=hid q2;have HW:=hid hW;have BW:=hid bW;have CW:=hid (CB.out _ bW);obtain⟨k0,k1,_,_⟩:=aF q1;rw[hW]at CW;clear hs hk hv q0 q1 q2 hW bW;cases bb with
 |false=>
  have A1:Hid (okE ks vs ss=false):=hid (by simp[okE,←hbb]);clear hbb;go_enter Tryz.func19,Tryz.ntmps19;go_wp2_with(go_at_call 61;refine CW.out.mono ?_;rintro e w1 ⟨rfl,hb⟩;rw[←HW.out]at hb;have HB:=hid hb;have HB1:=hid (BW.out.trans (hb.mono (by omega)));have Z2:=hid (aA Q2.out hb);obtain⟨z0,z1,z2,z3⟩:=aF Z2.out;have zl:=lt_of_block Z2.out;clear hb);obtain⟨y0,y1⟩:=dT (aA (tN (u1:=.slice none 0 0) (u2:=.slice none 0 0) Z2.out) (aB _ OE));refine bodyPost_ret (v:=.tuple #[.agg #[.slice none 0 0,.slice none 0 0],.slice (some ⟨w1.heap.size,0,none⟩) 0 0]) (by simp[results,Tryz.results19,go_sem,y0,y1]) rfl ?_;refine⟨_,_,_,rfl,?_,(uT HB1.out (by omega)).alloc (by have:=HB1.out.size;simp;omega) _⟩;simp only[yU,yV,yT,A1.out];exact qbC (by simpa using uM ((w1.setCell ⟨w.heap.size+1+1,0,none⟩ (.slice none 0 0)).setCell ⟨w.heap.size+1+1,1,none⟩ (.slice none 0 0)) OE) HB1.out.size
 |true=>
  cases hl:dJ ⟨64,64,200,vn⟩ ss with
  |none=>
   have A1:Hid (okE ks vs ss=false):=hid (by simp[okE,←qh2,EV.out,hl]);have HL:=hid hl;have hq:=qwJ;clear hbb hl;go_enter Tryz.func19,Tryz.ntmps19;go_upto_region 5 with(go_at_call 61;refine CW.out.mono ?_;rintro e w1 ⟨rfl,hb⟩;rw[←HW.out]at hb;have HB:=hid hb;have HB1:=hid (BW.out.trans (hb.mono (by omega)));have x1:=(aF (aA Q1.out hb)).2.1;clear hb);have s1:=HB.out.size;obtain⟨U,hU⟩:∃U,U=(w1.alloc (.cells #[.int .i64 64,.int .i64 64,.int .i64 200,.int .i64 vn] 40)).alloc (.cells #[.slice none 0 0] 118):=⟨_,rfl⟩;obtain⟨V,hV⟩:∃V,V=U.alloc (.cells #[.nilIface] 140):=⟨_,rfl⟩;have sU:U.heap.size=w1.heap.size+2:=by rw[hU];simp
   have sV:V.heap.size=w1.heap.size+3:=by rw[hV];simp[sU]
   have bU:Below w1.heap.size w1 U:=by rw[hU];exact aD _ _ _
   have bV:Below w1.heap.size w1 V:=by rw[hV];exact bU.alloc (by omega) _
   have BV:Hid (Below w.heap.size w V):=HB1.out.trans (bV.mono HB1.out.size);have v0:V.heap[w.heap.size]? =some (.cells #[.slice ao n c] 58 (0,0)):=aA (aA Q0.out HB.out) bV;have v1:V.heap[w.heap.size+1]? =some (.cells #[.slice kA kn kc,.slice vA vn vc] 32 (0,0)):=aA (aA Q1.out HB.out) bV;have v2:V.heap[w.heap.size+1+1]? =some (.cells #[.slice none 0 0,.slice none 0 0] 32 (0,0)):=aA (aA Q2.out HB.out) bV;have v3:V.heap[w1.heap.size]? =some (.cells #[.int .i64 64,.int .i64 64,.int .i64 200,.int .i64 vn] 40 (0,0)):=by rw[hV,hU];exact aA (aA (heap_alloc_new w1 _) (aB _ _)) (aB _ _)
   have v4:V.heap[w1.heap.size+1]? =some (.cells #[.slice none 0 0] 118 (0,0)):=by rw[hV,hU];exact aA (by simpa using heap_alloc_new (w1.alloc (.cells #[.int .i64 64,.int .i64 64,.int .i64 200,.int .i64 vn] 40)) (.cells #[.slice none 0 0] 118)) (aB _ _)
   have v5:V.heap[w1.heap.size+2]? =some (.cells #[.nilIface] 140 (0,0)):=by rw[hV];simpa[sU]using heap_alloc_new U (.cells #[.nilIface] 140)
   have u2:U.heap[w.heap.size+1+1]? =some (.cells #[.slice none 0 0,.slice none 0 0] 32 (0,0)):=aA (aA Q2.out HB.out) bU;have BU:Hid (Below w.heap.size w U):=HB1.out.trans (bU.mono HB1.out.size);have A:=hid (qiV 65 #[.pointer (some ⟨w.heap.size,0,none⟩),.pointer (some ⟨w1.heap.size,0,none⟩),.pointer (some ⟨w1.heap.size+1,0,none⟩)] U qwE
    (by rw[←hV,sU,←sV];exact qD1 ao n c ss 64 64 200 vn (w1.heap.size+1) w.heap.size w1.heap.size V hn (HS.out _ BV.out).1 v0 v3 HL.out))
   have U2:=hid u2;rw[hU]at A;clear v0 v1 v2 v3 v4 v5 u2 bU bV sV hV k0 k1 x1;go_wp2_with(go_at_call 62;refine A.out.mono ?_;rintro e w2 ⟨⟨sx,rfl⟩,hb2⟩;rw[←hU]at hb2;have HB2:=hid (BU.out.trans (hb2.mono BU.out.size));have Z2:=hid (aA U2.out hb2);obtain⟨z0,z1,z2,z3⟩:=aF Z2.out;have zl:=lt_of_block Z2.out;clear hb2);obtain⟨y0,y1⟩:=dT (aA (tN (u1:=.slice none 0 0) (u2:=.slice none 0 0) Z2.out) (aB _ OE));refine bodyPost_ret (v:=.tuple #[.agg #[.slice none 0 0,.slice none 0 0],.slice (some ⟨w2.heap.size,0,none⟩) 0 0]) (by simp[results,Tryz.results19,go_sem,y0,y1]) rfl ?_;refine⟨_,_,_,rfl,?_,(uT HB2.out (by omega)).alloc (by have:=HB2.out.size;simp;omega) _⟩;simp only[yU,yV,yT,A1.out];exact qbC (by simpa using uM ((w2.setCell ⟨w.heap.size+1+1,0,none⟩ (.slice none 0 0)).setCell ⟨w.heap.size+1+1,1,none⟩ (.slice none 0 0)) OE) HB2.out.size
  |some nodes=>
   have hbP:=qiW hbb.symm;have OKE:Hid (okE ks vs ss=true):=hid (by simp[okE,←hbb,←qh2,EV.out,hl]);have HL:=hid hl;have BP:=hid hbP;have hq:=qx3;clear hbb hl hbP;go_enter Tryz.func19,Tryz.ntmps19;go_upto_region 5 with(go_at_call 61;refine CW.out.mono ?_;rintro e w1 ⟨rfl,hb⟩;rw[←HW.out]at hb;have HB:=hid hb;have HB1:=hid (BW.out.trans (hb.mono (by omega)));have x1:=(aF (aA Q1.out hb)).2.1;clear hb);have s1:=HB.out.size;obtain⟨U,hU⟩:∃U,U=(w1.alloc (.cells #[.int .i64 64,.int .i64 64,.int .i64 200,.int .i64 vn] 40)).alloc (.cells #[.slice none 0 0] 118):=⟨_,rfl⟩;obtain⟨V,hV⟩:∃V,V=U.alloc (.cells #[.nilIface] 140):=⟨_,rfl⟩;have sU:U.heap.size=w1.heap.size+2:=by rw[hU];simp
   have sV:V.heap.size=w1.heap.size+3:=by rw[hV];simp[sU]
   have bU:Below w1.heap.size w1 U:=by rw[hU];exact aD _ _ _
   have bV:Below w1.heap.size w1 V:=by rw[hV];exact bU.alloc (by omega) _
   have BV:Hid (Below w.heap.size w V):=HB1.out.trans (bV.mono HB1.out.size);have v0:V.heap[w.heap.size]? =some (.cells #[.slice ao n c] 58 (0,0)):=aA (aA Q0.out HB.out) bV;have v1:V.heap[w.heap.size+1]? =some (.cells #[.slice kA kn kc,.slice vA vn vc] 32 (0,0)):=aA (aA Q1.out HB.out) bV;have v2:V.heap[w.heap.size+1+1]? =some (.cells #[.slice none 0 0,.slice none 0 0] 32 (0,0)):=aA (aA Q2.out HB.out) bV;have v3:V.heap[w1.heap.size]? =some (.cells #[.int .i64 64,.int .i64 64,.int .i64 200,.int .i64 vn] 40 (0,0)):=by rw[hV,hU];exact aA (aA (heap_alloc_new w1 _) (aB _ _)) (aB _ _)
   have v4:V.heap[w1.heap.size+1]? =some (.cells #[.slice none 0 0] 118 (0,0)):=by rw[hV,hU];exact aA (by simpa using heap_alloc_new (w1.alloc (.cells #[.int .i64 64,.int .i64 64,.int .i64 200,.int .i64 vn] 40)) (.cells #[.slice none 0 0] 118)) (aB _ _)
   have v5:V.heap[w1.heap.size+2]? =some (.cells #[.nilIface] 140 (0,0)):=by rw[hV];simpa[sU]using heap_alloc_new U (.cells #[.nilIface] 140)
   have A:=hid (quX 65 #[.pointer (some ⟨w.heap.size,0,none⟩),.pointer (some ⟨w1.heap.size,0,none⟩),.pointer (some ⟨w1.heap.size+1,0,none⟩)] U
    (λw'=>(∃val,w'.heap[w1.heap.size+1]? =some (.cells #[val] 118 (0,0))∧w'.ownsRow (V.heap.size+1) 212 1 val nodes.length nodes)∧Away (w1.heap.size+1) V w') qwE
    (λw' h=>by rw[sU];exact(h.2.block _ (by omega) (by omega)).trans v5)
    (by rw[←hV];exact qD2 ao n c ss 64 64 200 vn nodes (w1.heap.size+1) w.heap.size w1.heap.size V hn (HS.out _ BV.out).1 v0 v3 v4 HL.out))
   rw[hU]at A;have V1:=hid v1;have V2:=hid v2;have SU:=hid sU;have SV:=hid sV;have S1:=hid s1;have SW:=hid sW;clear v0 v1 v2 v3 v4 v5 bU bV sV s1 sW hV k0 k1 x1;go_upto_region 7 with(go_at_call 62;refine A.out.mono ?_;rintro e w2 ⟨rfl,w3,⟨⟨val,hw3,ho3⟩,ha3⟩,hw2⟩;rw[←hU,SU.out]at hw2;have HW2:=hid hw2;have H3:=hid hw3;have O3:=hid ho3;have A3:=hid ha3;clear hw3 ho3 ha3 hw2);have b2:Below w.heap.size w w2:=by rw[HW2.out];exact(BV.out.trans (A3.out.belowAt (by have:=HB1.out.size;omega) BV.out.size)).setCell (show w.heap.size≤w1.heap.size+2 by have:=HB1.out.size;omega) _
   have r1:w2.heap[w.heap.size+1]? =some (.cells #[.slice kA kn kc,.slice vA vn vc] 32 (0,0)):=by
    have s1:=S1.out;have sW:=SW.out;have sV:=SV.out;rw[HW2.out];exact(Below.heap_setCell _ _ _ _ (show w.heap.size+1≠w1.heap.size+2 by omega)).trans ((A3.out.block _ (by omega) (by omega)).trans V1.out)
   have r2:w2.heap[w.heap.size+1+1]? =some (.cells #[.slice none 0 0,.slice none 0 0] 32 (0,0)):=by
    have s1:=S1.out;have sW:=SW.out;have sV:=SV.out;rw[HW2.out];exact(Below.heap_setCell _ _ _ _ (show w.heap.size+1+1≠w1.heap.size+2 by omega)).trans ((A3.out.block _ (by omega) (by omega)).trans V2.out)
   have r3:w2.heap[w1.heap.size+1]? =some (.cells #[val] 118 (0,0)):=by rw[HW2.out];exact(Below.heap_setCell _ _ _ _ (show w1.heap.size+1≠w1.heap.size+2 by omega)).trans H3.out
   have r4:w2.ownsRow 0 212 1 val nodes.length nodes:=by
    have s1:=S1.out;have sW:=SW.out;have sV:=SV.out;rw[HW2.out];exact aM (ownsRow_setCell_below O3.out (show w1.heap.size+2<V.heap.size+1 by omega) _) (by omega)
   obtain⟨va,vm,vq,rfl⟩:∃va vm vq,val=.slice va vm vq:=by
    rcases r4.2 with⟨h,_⟩|⟨g,cap,cur,h,_⟩<;>exact⟨_,_,_,h⟩
   obtain⟨y0,y1,_,_⟩:=aF r1;have hno:cT ⟨64,64,200,vn⟩ ss=some nodes∧ss.length≤50:=by
    have:=HL.out;unfold dJ at this;split at this
    ·rename_i h;exact⟨this,h.2⟩
    ·cases this
   have R2:=hid r2;have R3:=hid r3;have R4:=hid r4;have B2:=hid b2;have NO:=hid hno;have CM:=hid (qxW kA vA kn kc vn vc ks vs arg w2 hkn hvn (HS.out _ b2).2.1 (HS.out _ b2).2.2);clear b2 r1 r2 r3 r4 hno A HL CW CB hmf hq O3 A3 H3 HW2 V1 V2;go_wp2_with(first
    |(go_at_call 67;refine CM.out.mono ?_;rintro e w4 ⟨mb,rfl,hm,hb⟩;have M4:=hid hm;have B4:=hid hb;have n0:=cell_of_one (aA R3.out hb);clear hm hb)
    |(go_at_call 68;refine(qvH ⟨64,64,200,vn⟩ ss nodes (.slice va vm vq) mb w2.heap.size ks vs arg [] _ NO.out.1 (by simp[EV.out]) BP.out.1 BP.out.2.2 (by have:=NO.out.2;simp;omega) B4.out.size (aI R4.out B4.out) M4.out).mono ?_;rintro e w5 ⟨rfl,hm,hst⟩;have S5:=hid hst;have Z5:=hid ((hst.below B4.out.size).trans (Below.refl _ _));obtain⟨kg,kc',vg,vc',ev,m1,ok,ov,hne,hmb,hev,hev0⟩:=hm;obtain⟨ea,en,ec,rfl⟩:∃ea en ec,ev=.slice ea en ec:=(by rcases hev.2 with⟨h,_⟩|⟨g,cap,cur,h,_⟩<;>exact⟨_,_,_,h⟩);have M5:=hid m1;have OK5:=hid ok;have OV5:=hid ov;have OE5:=hid hev;obtain⟨t0,t1,t2,t3⟩:=aC m1;clear hst m1 ok ov hev hev0))
   have z2:w5.heap[w.heap.size+1+1]? =some (.cells #[.slice none 0 0,.slice none 0 0] 32 (0,0)):=S5.out.box (aA R2.out B4.out) (by decide) (by decide) (by decide);have lz:=lt_of_block R2.out;have nmb:¬(mb=w.heap.size+1+1):=by omega
   have nmb2:¬(w.heap.size+1+1=mb):=by omega
   have Z2:=hid z2;have CBk:=hid (qiX mb _ _ _ _ w5.drew ⟨_,_,_,rfl⟩ ⟨_,_,_,rfl⟩ M5.out);have B5:Hid (Below w.heap.size w w5):=B2.out.trans ((B4.out.mono B2.out.size).trans ((S5.out.below B4.out.size).mono B2.out.size));clear z2 y0 y1 lz t0 t1 t2 n0;go_region_held3(λw'=>w'.cell? ⟨mb,3,none⟩=some (.slice ea en ec)) (first|go_keep|exact SX.out)
    (first
     |(go_at_call 69;refine CBk.out.mono ?_;rintro e w6 ⟨rfl,hb⟩;have B6:Hid (Below w5.heap.size w5 w6):=hid (dn0 hb);have SX:=hid ((dn0 hb).cell (p:=⟨mb,3,none⟩) (lt_of_block M5.out)|>.trans t3);have Z6:=hid (aA Z2.out (dn0 hb));obtain⟨p0,p1,p2,p3⟩:=aF Z6.out;clear hb))
   all_goals
    go_wp2;obtain⟨y0,y1⟩:=dT (tN (u1:=.slice (some ⟨kg,0,none⟩) ks.length kc') (u2:=.slice (some ⟨vg,0,none⟩) (aL vn ks arg vs ss).1.length vc') Z6.out);refine bodyPost_ret (v:=.tuple #[.agg #[.slice (some ⟨kg,0,none⟩) ks.length kc',.slice (some ⟨vg,0,none⟩) (aL vn ks arg vs ss).1.length vc'],.slice ea en ec]) (by simp[results,Tryz.results19,go_sem,y0,y1]) rfl ?_;refine⟨_,_,_,rfl,?_,uT (B5.out.trans (B6.out.mono B5.out.size)) (by omega)⟩;have h5:OutE w.heap.size w6 (.slice (some ⟨kg,0,none⟩) ks.length kc') (.slice (some ⟨vg,0,none⟩) (aL vn ks arg vs ss).1.length vc') (.slice ea en ec) ks (aL vn ks arg vs ss).1 (aL vn ks arg vs ss).2:=
     (OutE.mk (aM OK5.out.1 B2.out.size) (aM OV5.out.1 B2.out.size) (by simpa using aM OE5.out B2.out.size) (λb e=>by simp[Value.ownBlock]at e⊢;omega):OutE w.heap.size w5 _ _ _ _ _ _).below B6.out
    simp only[yU,yV,yT,OKE.out,if_true,EV.out];exact h5.set2 Z6.out (by decide) (by decide) 0 1 _ _
end Go.Proofs.YtiimkhepplkocaaGreat
