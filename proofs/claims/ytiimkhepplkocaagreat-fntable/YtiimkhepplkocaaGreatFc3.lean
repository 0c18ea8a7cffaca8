import Derived.Test.YtiimkhepplkocaaGreatDg
import Derived.Test.YtiimkhepplkocaaGreatFa
import Derived.Test.YtiimkhepplkocaaGreatZg
import Derived.Test.YtiimkhepplkocaaGreatZ18
import Derived.Test.YtiimkhepplkocaaGreatZh
namespace Go.Proofs.YtiimkhepplkocaaGreat
open Go.RowKit Go.Sort
set_option linter.unusedVariables false
attribute [local go_sem ↓] Go.wp_at_zero Go.wp_at_succ
theorem qHE{ss:List StD}{ts:List TrD}{l:aE}{ks vs:List Int}(hc:(bJ ss ts l).1=0)(hb:bQ ks vs=true)(hv:(vs.length:Int)=l.v):vC ss ts l ks vs=true:=by
 unfold vC qa7;rw[decide_eq_true hc,hb,decide_eq_true hv];rfl
theorem qHF{ss:List StD}{ts:List TrD}{l:aE}{ks vs:List Int}{lf:Nat}{sg:Int}(hc:(bJ ss ts l).1=0)(hb:bQ ks vs=true)(hv:(vs.length:Int)=l.v)(hf:sT ss (lf:Int)=true)(hs:0≤sg∧sg<l.s):dM ss ts l ks vs lf sg=true:=by
 unfold dM;rw[qHE hc hb hv,hf,decide_eq_true hs];rfl
structure Bk (W:World) (X:World) (kv vv:Value) (ks vs:List Int):Prop where
 k:X.ownsRow W.heap.size 3 1 kv ks.length (cV ks)
 v:X.ownsRow W.heap.size 3 1 vv vs.length (cV vs)
theorem Bk.below{W X Y:World}{kv vv:Value}{ks vs:List Int}(h:Bk W X kv vv ks vs)(hb:Below X.heap.size X Y):Bk W Y kv vv ks vs:=⟨aI h.k hb,aI h.v hb⟩
theorem qx7{X:World}{H K o:Nat}{u:Value}{cs:Array Value}{t:TypeId}(hne:K≠H)(h:X.heap[K]? =some (.cells cs t (0,0))):(X.setCell ⟨H,o,none⟩ u).heap[K]? =some (.cells cs t (0,0)):=(Below.heap_setCell _ _ _ _ hne).trans h
theorem qdN{X:World}{B c:Nat}{ao:Option Addr}{zs:List Int}(h:X.ownsRow B 3 1 (.slice ao zs.length c) zs.length (cV zs)):SliceOf X ao zs.length zs:=by
 obtain⟨ao',c',e,_,_,h2⟩:=qiE h;simp only[Value.slice.injEq]at e;rw[e.1];exact h2
theorem qEK{W W' X:World}{ka va ka2 va2:Option Addr}{kc vc kc2 vc2:Nat}{ks vs:List Int}(h1:Bk W X (.slice ka ks.length kc) (.slice va vs.length vc) ks vs)(h2:Bk W' X (.slice ka2 ks.length kc2) (.slice va2 vs.length vc2) ks vs)(hk:ks.length≤32)(hv:vs.length≤32):
  Calls Tryz.prog 16 #[.agg #[.slice ka ks.length kc,.slice va vs.length vc],.agg #[.slice ka2 ks.length kc2,.slice va2 vs.length vc2]] X λe w'=>e=.returned (.bool true)∧Below X.heap.size X w':=
 qoT ka va ka2 va2 ks.length vs.length kc vc kc2 vc2 ks vs X (by omega) (by omega) (qdN h1.k) (qdN h1.v) (qdN h2.k) (qdN h2.v)
theorem OutE.bk{W X w':World}{kv vv ev:Value}{ks vs:List Int}{es:List bI}(h:OutE X.heap.size w' kv vv ev ks vs es)(hb:W.heap.size≤X.heap.size):Bk W w' kv vv ks vs:=⟨aM h.k hb,aM h.v hb⟩
structure Aft (U:World) (X:World) (H:Nat) (kv vv ev:Value) (ks vs:List Int) (es:List bI):Prop where
 b:X.heap[H]? =some (.cells #[kv,vv] 32 (0,0))
 k:Bk U X kv vv ks vs
 e:X.ownsRow U.heap.size 136 4 ev es.length (aT es)
theorem Aft.below{U X Y:World}{H:Nat}{kv vv ev:Value}{ks vs:List Int}{es:List bI}(h:Aft U X H kv vv ev ks vs es)(hb:Below X.heap.size X Y):Aft U Y H kv vv ev ks vs es:=⟨aA h.b hb,h.k.below hb,aI h.e hb⟩
theorem quU{U Y w8:World}{kv vv ev:Value}{ks vs:List Int}{es:List bI}(hb:Below U.heap.size U Y)(hO:OutE Y.heap.size w8 kv vv ev ks vs es):Aft U (w8.alloc (.cells #[kv,vv] 32)) w8.heap.size kv vv ev ks vs es:=
 ⟨heap_alloc_new _ _,(hO.bk hb.size).below (aB _ _),aI (aM hO.e hb.size) (aB _ _)⟩
end Go.Proofs.YtiimkhepplkocaaGreat
