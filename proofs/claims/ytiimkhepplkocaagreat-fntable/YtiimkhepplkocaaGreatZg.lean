import Derived.Test.YtiimkhepplkocaaGreatZc
set_option maxRecDepth 100000
set_option maxHeartbeats 16000000
namespace Go.Proofs.YtiimkhepplkocaaGreat
open Go.RowKit Go.Sort
set_option linter.unusedVariables false
attribute [local go_sem ↓] Go.wp_at_zero Go.wp_at_succ
theorem qpI{l:aE}:∀{ss:List aH} {vs:List Value},cT l ss=some vs→∀s∈ss,(aN l s).isSome=true:=by
 intro ss
 induction ss with
 |nil=>intro vs _ s hs;simp at hs
 |cons x r ih=>
  intro vs h s hs;simp only[cT]at h;cases h1:aN l x with
  |none=>simp[h1]at h
  |some v=>
   cases h2:cT l r with
   |none=>simp[h1,h2]at h
   |some vs2=>
    rcases List.mem_cons.1 hs with e|e
    ·subst e;rw[h1];rfl
    ·exact ih h2 s e
theorem qIQ{ss:List StD}{ts:List TrD}{l:aE}(hC:Chk ss ts l){ex en:List Nat}{acts:List aH}(hex:∀x,x∈ex→x<ss.length)(hen:∀x,x∈en→x<ss.length)(ha:∀s∈acts,(aN l s).isSome=true):∀s∈uO ss ex acts en,(aN l s).isSome=true:=by
 intro s hs;unfold uO at hs;rcases List.mem_append.1 hs with h|h
 ·rcases List.mem_append.1 h with h|h
  ·obtain⟨L,hL,hm⟩:=List.mem_flatten.1 h
   obtain⟨x,hx,rfl⟩:=List.mem_map.1 hL;obtain⟨vs,hv⟩:=hC.ext x (hex x hx);exact qpI (qhA hv) s hm
  ·exact ha s h
 ·obtain⟨L,hL,hm⟩:=List.mem_flatten.1 h
  obtain⟨x,hx,rfl⟩:=List.mem_map.1 hL;obtain⟨vs,hv⟩:=hC.ent x (hen x hx);exact qpI (qhA hv) s hm
end Go.Proofs.YtiimkhepplkocaaGreat
namespace Go.Proofs.YtiimkhepplkocaaGreat
open Go.RowKit Go.Sort
set_option linter.unusedVariables false
attribute [local go_sem ↓] Go.wp_at_zero Go.wp_at_succ
structure By (w:World) (cx lx bx:Array Value) (X:World):Prop where
 bel:Below w.heap.size w X
 c:X.heap[w.heap.size]? =some (.cells cx 36 (0,0))
 l:X.heap[w.heap.size+1]? =some (.cells lx 40 (0,0))
 b:X.heap[w.heap.size+1+1]? =some (.cells bx 32 (0,0))
theorem By.below{w:World}{cx lx bx:Array Value}{X Y:World}(h:By w cx lx bx X)(hb:Below X.heap.size X Y):By w cx lx bx Y:=⟨h.bel.trans (hb.mono h.bel.size),aA h.c hb,aA h.l hb,aA h.b hb⟩
theorem qBL(w:World)(cx lx bx:Array Value):By w cx lx bx (((w.alloc (.cells cx 36)).alloc (.cells lx 40)).alloc (.cells bx 32)):=by
 have h2:=heap_alloc_new (w.alloc (.cells cx 36)) (.cells lx 40);have h3:=heap_alloc_new ((w.alloc (.cells cx 36)).alloc (.cells lx 40)) (.cells bx 32);simp only[World.size_alloc]at h2 h3;exact⟨yW _ _ _ _,aA (aA (heap_alloc_new w _) (aB _ _)) (aB _ _),aA h2 (aB _ _),h3⟩
theorem qF2(so tq:Option Addr)(n sc tn tc:Nat)(ss:List StD)(ts:List TrD)(o s t v:Int)(kA vA:Option Addr)(kn kc vn vc:Nat)(ks vs:List Int)(w:World)(hn:n≤9223372036854775807)(htn:tn≤9223372036854775807)(hkn:kn≤1048576)(hvn:vn≤1048576)(hs:StatesOf w so n ss)(ht:TransOf w tq tn ts)(hk:SliceOf w kA kn ks)(hv:SliceOf w vA vn vs):
  Calls Tryz.prog 53 #[.agg #[.slice so n sc,.slice tq tn tc],.agg #[.int .i64 o,.int .i64 s,.int .i64 t,.int .i64 v],.agg #[.slice kA kn kc,.slice vA vn vc]] w λe w'=>e=.returned (.bool (vC ss ts ⟨o,s,t,v⟩ ks vs))∧Below w.heap.size w w':=by
 have EV:Hid (vs.length=vn):=hid hv.1;have HS:Hid (∀w',Below w.heap.size w w'→SliceOf w' kA kn ks∧SliceOf w' vA vn vs):=λw' h=>⟨hk.below h,hv.below h⟩;have EN:=hid (qBL w #[.slice so n sc,.slice tq tn tc] #[.int .i64 o,.int .i64 s,.int .i64 t,.int .i64 v] #[.slice kA kn kc,.slice vA vn vc]);have C:=hid (qpX so tq n sc tn tc ss ts o s t v _ hn htn (hs.below EN.out.bel) (ht.below EN.out.bel));obtain⟨fc,hfc⟩:∃f,f=(bJ ss ts ⟨o,s,t,v⟩).1:=⟨_,rfl⟩;obtain⟨fp,hfp⟩:∃f,f=(bJ ss ts ⟨o,s,t,v⟩).2:=⟨_,rfl⟩;rw[←hfc,←hfp]at C;obtain⟨bb,hbb⟩:∃b,b=bQ ks vs:=⟨_,rfl⟩;have CB:=hid (λw' (hb:Below w.heap.size w w')=>qI3 _ _ kn vn kc vc ks vs w' (by omega) (by omega) (HS.out w' hb).1 (HS.out w' hb).2);rw[←hbb]at CB;have EQ:Hid (vC ss ts ⟨o,s,t,v⟩ ks vs=(decide (fc=0)&&(bb&&decide ((vn:Int)=v)))):=hid (by unfold vC qa7;rw[←hfc,←hbb,EV.out]);rw[EQ.out];clear hs ht hk hv hfc hfp hbb;by_cases h0:fc=0
 ·subst h0
  by_cases hv2:(vn:Int)=v
  ·have hd:decide ((vn:Int)=v)=true:=by simpa using hv2
   have hd2:((vn:Int)==v)=true:=by simpa using hv2
   rw[hd];clear hd hv2;cases bb
   all_goals
    go_enter Tryz.func53,Tryz.ntmps53;go_wp2_with(first
     |(go_at_call 48;refine C.out.mono ?_;rintro e w1 ⟨rfl,hb⟩;have B1:=hid (EN.out.below hb);obtain⟨p0,p1,_,_⟩:=aF B1.out.b;obtain⟨l0,l1,l2,l3⟩:=aC B1.out.l;clear hb)
     |(go_at_call 23;refine(CB.out _ B1.out.bel).mono ?_;rintro e w2 ⟨rfl,hb⟩;have B2:=hid (B1.out.below hb);obtain⟨p0,p1,_,_⟩:=aF B2.out.b;obtain⟨l0,l1,l2,l3⟩:=aC B2.out.l;clear hb))
    go_ret;exact⟨aZ (by simp),B2.out.bel⟩
  ·have hd:decide ((vn:Int)=v)=false:=by simpa using hv2
   have hd2:((vn:Int)==v)=false:=by simpa using hv2
   rw[hd];clear hd;cases bb
   all_goals
    go_enter Tryz.func53,Tryz.ntmps53;go_wp2_with(first
     |(go_at_call 48;refine C.out.mono ?_;rintro e w1 ⟨rfl,hb⟩;have B1:=hid (EN.out.below hb);obtain⟨p0,p1,_,_⟩:=aF B1.out.b;obtain⟨l0,l1,l2,l3⟩:=aC B1.out.l;clear hb)
     |(go_at_call 23;refine(CB.out _ B1.out.bel).mono ?_;rintro e w2 ⟨rfl,hb⟩;have B2:=hid (B1.out.below hb);obtain⟨p0,p1,_,_⟩:=aF B2.out.b;obtain⟨l0,l1,l2,l3⟩:=aC B2.out.l;clear hb))
    go_ret;exact⟨aZ (by simp),B2.out.bel⟩
 ·have h0':(fc==0)=false:=by simpa using h0
  have H0:=hid h0;go_enter Tryz.func53,Tryz.ntmps53;go_wp2_with(go_at_call 48;refine C.out.mono ?_;rintro e w1 ⟨rfl,hb⟩;have B1:=hid (EN.out.below hb);clear hb);go_ret;exact⟨aZ (by simp[H0.out]),B1.out.bel⟩
end Go.Proofs.YtiimkhepplkocaaGreat
namespace Go.Proofs.YtiimkhepplkocaaGreat
open Go.RowKit Go.Sort
set_option linter.unusedVariables false
attribute [local go_sem ↓] Go.wp_at_zero Go.wp_at_succ
end Go.Proofs.YtiimkhepplkocaaGreat
