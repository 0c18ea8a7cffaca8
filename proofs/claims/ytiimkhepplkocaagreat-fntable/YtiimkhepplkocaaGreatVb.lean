import Derived.Test.YtiimkhepplkocaaGreatVa
set_option maxRecDepth 100000
set_option maxHeartbeats 16000000
namespace Go.Proofs.YtiimkhepplkocaaGreat
open Go.RowKit Go.Sort
attribute [local go_sem ↓] Go.wp_at_zero Go.wp_at_succ
theorem qbH{w:World}{H:Nat}{a b c:Value}{t:TypeId}(h:w.heap[H]? =some (.cells #[a,b,c] t (0,0))):w.cell? ⟨H,0,none⟩=some a∧w.cell? ⟨H,1,none⟩=some b∧w.cell? ⟨H,2,none⟩=some c:=by simp[World.cell?,h]
theorem qDX(y f:Nat)(x:Value)(mb:Nat)(q:Int)(w:World)(B0:Nat)(R:World→World→Prop)
  (hm:∀(w:World),(callMethod (.iface y x) cH #[.pointer (some ⟨mb,0,none⟩)]).run Tryz.prog w=.ok (.enter f #[x,.pointer (some ⟨mb,0,none⟩)]) w)
  (hv:Val w f x (.pointer (some ⟨mb,0,none⟩)) q)
  (hr:∀w',Below w.heap.size w w'→Calls Tryz.prog 216 #[.pointer (some ⟨mb,0,none⟩),.agg #[.int .i64 2,.int .i64 0,.int .i64 0,.int .i64 q]] w' λe w''=>e=.returned (.tuple #[])∧R w' w''∧Stir B0 w' w''):
  Calls Tryz.prog 220 #[.agg #[.iface y x],.pointer (some ⟨mb,0,none⟩)] w λe w'=>e=.returned (.tuple #[])∧∃w1,Below w.heap.size w w1∧R w1 w':=by
 have M:=hid hm;have V:=hid hv;have HR:=hid hr;clear hm hv hr;obtain⟨W,hW⟩:∃W,W=w.alloc (.cells #[.iface y x] 270):=⟨_,rfl⟩;have bW:Below w.heap.size w W:=by rw[hW];exact aB _ _
 have hQ:W.heap[w.heap.size]? =some (.cells #[.iface y x] 270 (0,0)):=by rw[hW];exact heap_alloc_new w _
 have q0:=cell_of_one hQ;have hl:=lt_of_block hQ;have D:Hid (Below w.heap.size w W.drew):=bW.drew;have D0:Hid (Below w.heap.size w W):=bW;have HW:=hid hW;have HQ:Hid (W.drew.heap[w.heap.size]? =some (.cells #[.iface y x] 270 (0,0))):=hQ
 have M2 : ∀ w : World, ((Sem.run Tryz.prog (method 434 y x "loop.example/s0063/impl.value") w).andThen fun a w' => Sem.run Tryz.prog (callFunc a.fst #[a.snd, Value.pointer (some ⟨mb, 0, none⟩)]) w') = .ok (.enter f #[x, .pointer (some ⟨mb, 0, none⟩)]) w := fun w => by
  have:=M.out w;simpa[callMethod,cH,go_sem]using this
 clear hQ bW hW;go_enter Tryz.func220,Tryz.ntmps220;go_wp2_with(first
  |(rw[←HW.out];refine(V.out _ D0.out).mono ?_;rintro e w1 ⟨rfl,hb⟩;have B:=hid (D0.out.trans (hb.mono D0.out.size));clear hb)
  |(go_at_call 216;refine(HR.out _ (by first|exact B.out|exact B.out.alloc B.out.size _)).mono ?_;rintro e w3 ⟨rfl,hb,_⟩;have B3:=hid hb;clear hb))
 go_end0;exact⟨rfl,_,B.out,B3.out⟩
theorem qHZ(y f:Nat)(x:Value)(a b:Int)(mb:Nat)(q:Int)(w:World)(B0:Nat)(R:World→World→Prop)
  (hm:∀(w:World),(callMethod (.iface y x) cH #[.pointer (some ⟨mb,0,none⟩)]).run Tryz.prog w=.ok (.enter f #[x,.pointer (some ⟨mb,0,none⟩)]) w)
  (hv:Val w f x (.pointer (some ⟨mb,0,none⟩)) q)
  (hr:∀w',Below w.heap.size w w'→Calls Tryz.prog 216 #[.pointer (some ⟨mb,0,none⟩),.agg #[.int .i64 3,.int .i64 a,.int .i64 b,.int .i64 q]] w' λe w''=>e=.returned (.tuple #[])∧R w' w''∧Stir B0 w' w''):
  Calls Tryz.prog 221 #[.agg #[.int .i64 a,.int .i64 b,.iface y x],.pointer (some ⟨mb,0,none⟩)] w λe w'=>e=.returned (.tuple #[])∧∃w1,Below w.heap.size w w1∧R w1 w':=by
 have M:=hid hm;have V:=hid hv;have HR:=hid hr;clear hm hv hr;obtain⟨W,hW⟩:∃W,W=w.alloc (.cells #[.int .i64 a,.int .i64 b,.iface y x] 272):=⟨_,rfl⟩;have bW:Below w.heap.size w W:=by rw[hW];exact aB _ _
 have hQ:W.heap[w.heap.size]? =some (.cells #[.int .i64 a,.int .i64 b,.iface y x] 272 (0,0)):=by rw[hW];exact heap_alloc_new w _
 obtain⟨q0,q1,q2⟩:=qbH hQ;have hl:=lt_of_block hQ;have D:Hid (Below w.heap.size w W.drew):=bW.drew;have D0:Hid (Below w.heap.size w W):=bW;have HW:=hid hW;have HQ:Hid (W.drew.heap[w.heap.size]? =some (.cells #[.int .i64 a,.int .i64 b,.iface y x] 272 (0,0))):=hQ
 have M2 : ∀ w : World, ((Sem.run Tryz.prog (method 434 y x "loop.example/s0063/impl.value") w).andThen fun a w' => Sem.run Tryz.prog (callFunc a.fst #[a.snd, Value.pointer (some ⟨mb, 0, none⟩)]) w') = .ok (.enter f #[x, .pointer (some ⟨mb, 0, none⟩)]) w := fun w => by
  have:=M.out w;simpa[callMethod,cH,go_sem]using this
 clear hQ bW hW;go_enter Tryz.func221,Tryz.ntmps221;go_wp2_with fail;rw[←HW.out];go_region_held3(λw'=>w'.cell? ⟨w.heap.size,0,none⟩=some (.int .i64 a)∧w'.cell? ⟨w.heap.size,1,none⟩=some (.int .i64 b)∧w'.cell? ⟨w.heap.size,2,none⟩=some (.iface y x)) (first|go_keep|exact SX.out|exact SZ.out)
  (first
  |(refine(V.out _ D.out).mono ?_;rintro e w1 ⟨rfl,hb⟩;have B:=hid (D.out.trans (hb.mono D.out.size));have Q1:=hid (aA HQ.out hb);have SX:=hid (qbH Q1.out);clear hb)
  |(go_at_call 216;refine(HR.out _ B.out).mono ?_;rintro e w3 ⟨rfl,hb,hst⟩;have B3:=hid hb;have SZ:=hid (qbH (hst.box Q1.out (by decide) (by decide) (by decide)));clear hb hst))
 all_goals
  go_wp2;go_end0;exact⟨rfl,_,B.out,B3.out⟩
theorem qEH(y f:Nat)(x:Value)(a b:Int)(mb:Nat)(q:Int)(w:World)(B0:Nat)(R:World→World→Prop)
  (hm:∀(w:World),(callMethod (.iface y x) cH #[.pointer (some ⟨mb,0,none⟩)]).run Tryz.prog w=.ok (.enter f #[x,.pointer (some ⟨mb,0,none⟩)]) w)
  (hv:Val w f x (.pointer (some ⟨mb,0,none⟩)) q)
  (hr:∀w',Below w.heap.size w w'→Calls Tryz.prog 216 #[.pointer (some ⟨mb,0,none⟩),.agg #[.int .i64 4,.int .i64 a,.int .i64 b,.int .i64 q]] w' λe w''=>e=.returned (.tuple #[])∧R w' w''∧Stir B0 w' w''):
  Calls Tryz.prog 222 #[.agg #[.int .i64 a,.int .i64 b,.iface y x],.pointer (some ⟨mb,0,none⟩)] w λe w'=>e=.returned (.tuple #[])∧∃w1,Below w.heap.size w w1∧R w1 w':=by
 have M:=hid hm;have V:=hid hv;have HR:=hid hr;clear hm hv hr;obtain⟨W,hW⟩:∃W,W=w.alloc (.cells #[.int .i64 a,.int .i64 b,.iface y x] 273):=⟨_,rfl⟩;have bW:Below w.heap.size w W:=by rw[hW];exact aB _ _
 have hQ:W.heap[w.heap.size]? =some (.cells #[.int .i64 a,.int .i64 b,.iface y x] 273 (0,0)):=by rw[hW];exact heap_alloc_new w _
 obtain⟨q0,q1,q2⟩:=qbH hQ;have hl:=lt_of_block hQ;have D:Hid (Below w.heap.size w W.drew):=bW.drew;have D0:Hid (Below w.heap.size w W):=bW;have HW:=hid hW;have HQ:Hid (W.drew.heap[w.heap.size]? =some (.cells #[.int .i64 a,.int .i64 b,.iface y x] 273 (0,0))):=hQ
 have M2 : ∀ w : World, ((Sem.run Tryz.prog (method 434 y x "loop.example/s0063/impl.value") w).andThen fun a w' => Sem.run Tryz.prog (callFunc a.fst #[a.snd, Value.pointer (some ⟨mb, 0, none⟩)]) w') = .ok (.enter f #[x, .pointer (some ⟨mb, 0, none⟩)]) w := fun w => by
  have:=M.out w;simpa[callMethod,cH,go_sem]using this
 clear hQ bW hW;go_enter Tryz.func222,Tryz.ntmps222;go_wp2_with fail;rw[←HW.out];go_region_held3(λw'=>w'.cell? ⟨w.heap.size,0,none⟩=some (.int .i64 a)∧w'.cell? ⟨w.heap.size,1,none⟩=some (.int .i64 b)∧w'.cell? ⟨w.heap.size,2,none⟩=some (.iface y x)) (first|go_keep|exact SX.out|exact SZ.out)
  (first
  |(refine(V.out _ D.out).mono ?_;rintro e w1 ⟨rfl,hb⟩;have B:=hid (D.out.trans (hb.mono D.out.size));have Q1:=hid (aA HQ.out hb);have SX:=hid (qbH Q1.out);clear hb)
  |(go_at_call 216;refine(HR.out _ B.out).mono ?_;rintro e w3 ⟨rfl,hb,hst⟩;have B3:=hid hb;have SZ:=hid (qbH (hst.box Q1.out (by decide) (by decide) (by decide)));clear hb hst))
 all_goals
  go_wp2;go_end0;exact⟨rfl,_,B.out,B3.out⟩
theorem qH0(y f:Nat)(x:Value)(b:Int)(mb:Nat)(q:Int)(w:World)(B0:Nat)(R:World→World→Prop)
  (hm:∀(w:World),(callMethod (.iface y x) cH #[.pointer (some ⟨mb,0,none⟩)]).run Tryz.prog w=.ok (.enter f #[x,.pointer (some ⟨mb,0,none⟩)]) w)
  (hv:Val w f x (.pointer (some ⟨mb,0,none⟩)) q)
  (hr:∀w',Below w.heap.size w w'→Calls Tryz.prog 216 #[.pointer (some ⟨mb,0,none⟩),.agg #[.int .i64 5,.int .i64 0,.int .i64 b,.int .i64 q]] w' λe w''=>e=.returned (.tuple #[])∧R w' w''∧Stir B0 w' w''):
  Calls Tryz.prog 223 #[.agg #[.int .i64 b,.iface y x],.pointer (some ⟨mb,0,none⟩)] w λe w'=>e=.returned (.tuple #[])∧∃w1,Below w.heap.size w w1∧R w1 w':=by
 have M:=hid hm;have V:=hid hv;have HR:=hid hr;clear hm hv hr;obtain⟨W,hW⟩:∃W,W=w.alloc (.cells #[.int .i64 b,.iface y x] 275):=⟨_,rfl⟩;have bW:Below w.heap.size w W:=by rw[hW];exact aB _ _
 have hQ:W.heap[w.heap.size]? =some (.cells #[.int .i64 b,.iface y x] 275 (0,0)):=by rw[hW];exact heap_alloc_new w _
 obtain⟨q0,q1,_,_⟩:=aF hQ;have hl:=lt_of_block hQ;have D:Hid (Below w.heap.size w W.drew):=bW.drew;have D0:Hid (Below w.heap.size w W):=bW;have HW:=hid hW;have HQ:Hid (W.drew.heap[w.heap.size]? =some (.cells #[.int .i64 b,.iface y x] 275 (0,0))):=hQ
 have M2 : ∀ w : World, ((Sem.run Tryz.prog (method 434 y x "loop.example/s0063/impl.value") w).andThen fun a w' => Sem.run Tryz.prog (callFunc a.fst #[a.snd, Value.pointer (some ⟨mb, 0, none⟩)]) w') = .ok (.enter f #[x, .pointer (some ⟨mb, 0, none⟩)]) w := fun w => by
  have:=M.out w;simpa[callMethod,cH,go_sem]using this
 clear hQ bW hW;go_enter Tryz.func223,Tryz.ntmps223;go_wp2_with fail;rw[←HW.out];go_region_held3(λw'=>w'.cell? ⟨w.heap.size,0,none⟩=some (.int .i64 b)∧w'.cell? ⟨w.heap.size,1,none⟩=some (.iface y x)) (first|go_keep|exact SX.out|exact SZ.out)
  (first
  |(refine(V.out _ D.out).mono ?_;rintro e w1 ⟨rfl,hb⟩;have B:=hid (D.out.trans (hb.mono D.out.size));have Q1:=hid (aA HQ.out hb);have SX:=hid (dT Q1.out);clear hb)
  |(go_at_call 216;refine(HR.out _ B.out).mono ?_;rintro e w3 ⟨rfl,hb,hst⟩;have B3:=hid hb;have SZ:=hid (dT (hst.box Q1.out (by decide) (by decide) (by decide)));clear hb hst))
 all_goals
  go_wp2;go_end0;exact⟨rfl,_,B.out,B3.out⟩
theorem qAG(y f:Nat)(x:Value)(a b:Int)(mb:Nat)(q:Int)(w:World)(B0:Nat)(R:World→World→Prop)
  (hm:∀(w:World),(callMethod (.iface y x) cH #[.pointer (some ⟨mb,0,none⟩)]).run Tryz.prog w=.ok (.enter f #[x,.pointer (some ⟨mb,0,none⟩)]) w)
  (hv:Val w f x (.pointer (some ⟨mb,0,none⟩)) q)
  (hr:∀w',Below w.heap.size w w'→Calls Tryz.prog 216 #[.pointer (some ⟨mb,0,none⟩),.agg #[.int .i64 8,.int .i64 a,.int .i64 b,.int .i64 q]] w' λe w''=>e=.returned (.tuple #[])∧R w' w''∧Stir B0 w' w''):
  Calls Tryz.prog 224 #[.agg #[.int .i64 a,.int .i64 b,.iface y x],.pointer (some ⟨mb,0,none⟩)] w λe w'=>e=.returned (.tuple #[])∧∃w1,Below w.heap.size w w1∧R w1 w':=by
 have M:=hid hm;have V:=hid hv;have HR:=hid hr;clear hm hv hr;obtain⟨W,hW⟩:∃W,W=w.alloc (.cells #[.int .i64 a,.int .i64 b,.iface y x] 277):=⟨_,rfl⟩;have bW:Below w.heap.size w W:=by rw[hW];exact aB _ _
 have hQ:W.heap[w.heap.size]? =some (.cells #[.int .i64 a,.int .i64 b,.iface y x] 277 (0,0)):=by rw[hW];exact heap_alloc_new w _
 obtain⟨q0,q1,q2⟩:=qbH hQ;have hl:=lt_of_block hQ;have D:Hid (Below w.heap.size w W.drew):=bW.drew;have D0:Hid (Below w.heap.size w W):=bW;have HW:=hid hW;have HQ:Hid (W.drew.heap[w.heap.size]? =some (.cells #[.int .i64 a,.int .i64 b,.iface y x] 277 (0,0))):=hQ
 have M2 : ∀ w : World, ((Sem.run Tryz.prog (method 434 y x "loop.example/s0063/impl.value") w).andThen fun a w' => Sem.run Tryz.prog (callFunc a.fst #[a.snd, Value.pointer (some ⟨mb, 0, none⟩)]) w') = .ok (.enter f #[x, .pointer (some ⟨mb, 0, none⟩)]) w := fun w => by
  have:=M.out w;simpa[callMethod,cH,go_sem]using this
 clear hQ bW hW;go_enter Tryz.func224,Tryz.ntmps224;go_wp2_with fail;rw[←HW.out];go_region_held3(λw'=>w'.cell? ⟨w.heap.size,0,none⟩=some (.int .i64 a)∧w'.cell? ⟨w.heap.size,1,none⟩=some (.int .i64 b)∧w'.cell? ⟨w.heap.size,2,none⟩=some (.iface y x)) (first|go_keep|exact SX.out|exact SZ.out)
  (first
  |(refine(V.out _ D.out).mono ?_;rintro e w1 ⟨rfl,hb⟩;have B:=hid (D.out.trans (hb.mono D.out.size));have Q1:=hid (aA HQ.out hb);have SX:=hid (qbH Q1.out);clear hb)
  |(go_at_call 216;refine(HR.out _ B.out).mono ?_;rintro e w3 ⟨rfl,hb,hst⟩;have B3:=hid hb;have SZ:=hid (qbH (hst.box Q1.out (by decide) (by decide) (by decide)));clear hb hst))
 all_goals
  go_wp2;go_end0;exact⟨rfl,_,B.out,B3.out⟩
theorem qC4(mb:Nat)(w:World)(B:Nat)(ks vs:List Int)(arg:Int)(es:List bI)(he:es.length≤1000000)(hB:B≤w.heap.size)(hM:Mom w B mb ks vs arg es):
  Calls Tryz.prog 215 #[.agg #[],.pointer (some ⟨mb,0,none⟩)] w λe w'=>e=.returned (.tuple #[])∧Mom w' B mb ks vs arg (es++[⟨6,0,0,0⟩])∧Stir B w w':=by
 have N:Hid (∀w',Below w.heap.size w w'→Calls Tryz.prog 216 #[.pointer (some ⟨mb,0,none⟩),.agg #[.int .i64 6,.int .i64 0,.int .i64 0,.int .i64 0]] w' λe w''=>e=.returned (.tuple #[])∧Mom w'' B mb ks vs arg (es++[⟨6,0,0,0⟩])∧Stir B w w''):=
  λw' hb=>(qdI mb ks vs arg es ⟨6,0,0,0⟩ B w' he (Nat.le_trans hB hb.size) (hM.below hb)).mono λe w'' ⟨h1,h2,h3⟩=>⟨h1,h2,(Stir.of_below hb).trans h3⟩
 clear hM;go_enter Tryz.func215,Tryz.ntmps215;go_wp2_with(go_at_call 216;refine(N.out _ (by first|exact Below.refl _ _|exact aB _ _|exact aD _ _ _)).mono ?_;rintro e w3 ⟨rfl,hb⟩;have B3:=hid hb;clear hb);go_end0;exact⟨rfl,B3.out.1,B3.out.2⟩
theorem qH6(mb:Nat)(w:World)(B:Nat)(ks vs:List Int)(arg:Int)(es:List bI)(he:es.length≤1000000)(hB:B≤w.heap.size)(hM:Mom w B mb ks vs arg es):
  Calls Tryz.prog 217 #[.agg #[],.pointer (some ⟨mb,0,none⟩)] w λe w'=>e=.returned (.tuple #[])∧Mom w' B mb ks vs arg (es++[⟨7,0,0,0⟩])∧Stir B w w':=by
 have N:Hid (∀w',Below w.heap.size w w'→Calls Tryz.prog 216 #[.pointer (some ⟨mb,0,none⟩),.agg #[.int .i64 7,.int .i64 0,.int .i64 0,.int .i64 0]] w' λe w''=>e=.returned (.tuple #[])∧Mom w'' B mb ks vs arg (es++[⟨7,0,0,0⟩])∧Stir B w w''):=
  λw' hb=>(qdI mb ks vs arg es ⟨7,0,0,0⟩ B w' he (Nat.le_trans hB hb.size) (hM.below hb)).mono λe w'' ⟨h1,h2,h3⟩=>⟨h1,h2,(Stir.of_below hb).trans h3⟩
 clear hM;go_enter Tryz.func217,Tryz.ntmps217;go_wp2_with(go_at_call 216;refine(N.out _ (by first|exact Below.refl _ _|exact aB _ _|exact aD _ _ _)).mono ?_;rintro e w3 ⟨rfl,hb⟩;have B3:=hid hb;clear hb);go_end0;exact⟨rfl,B3.out.1,B3.out.2⟩
theorem qDF(a:Int)(mb:Nat)(w:World)(B:Nat)(ks vs:List Int)(arg:Int)(es:List bI)(he:es.length≤1000000)(hB:B≤w.heap.size)(hM:Mom w B mb ks vs arg es):
  Calls Tryz.prog 218 #[.agg #[.int .i64 a],.pointer (some ⟨mb,0,none⟩)] w λe w'=>e=.returned (.tuple #[])∧Mom w' B mb ks vs arg (es++[⟨9,a,0,0⟩])∧Stir B w w':=by
 have N:Hid (∀w',Below w.heap.size w w'→Calls Tryz.prog 216 #[.pointer (some ⟨mb,0,none⟩),.agg #[.int .i64 9,.int .i64 a,.int .i64 0,.int .i64 0]] w' λe w''=>e=.returned (.tuple #[])∧Mom w'' B mb ks vs arg (es++[⟨9,a,0,0⟩])∧Stir B w w''):=
  λw' hb=>(qdI mb ks vs arg es ⟨9,a,0,0⟩ B w' he (Nat.le_trans hB hb.size) (hM.below hb)).mono λe w'' ⟨h1,h2,h3⟩=>⟨h1,h2,(Stir.of_below hb).trans h3⟩
 clear hM;go_enter Tryz.func218,Tryz.ntmps218;go_wp2_with(go_at_call 216;refine(N.out _ (by first|exact Below.refl _ _|exact aB _ _|exact aD _ _ _)).mono ?_;rintro e w3 ⟨rfl,hb⟩;have B3:=hid hb;clear hb);go_end0;exact⟨rfl,B3.out.1,B3.out.2⟩
end Go.Proofs.YtiimkhepplkocaaGreat
namespace Go.Proofs.YtiimkhepplkocaaGreat
open Go.RowKit Go.Sort
attribute [local go_sem ↓] Go.wp_at_zero Go.wp_at_succ
def yX(n:Int)(vs:List Int)(arg:Int)(code:List (Int×Int)):Int:=match aV code n with|some t=>a8 vs arg t|none=>0
def cP(n:Int)(ks:List Int)(arg:Int)(vs:List Int)(s:aH):List Int×List bI:=
 if s.kind=1 then(vs.set s.a.toNat (conv (ks.getD s.a.toNat 0) (yX n vs arg s.code)),[])
 else(vs,[⟨s.kind,s.a,s.b,if bX s.kind then yX n vs arg s.code else 0⟩])
def aL(n:Int)(ks:List Int)(arg:Int):List Int→List aH→List Int×List bI
 |vs,[]=>(vs,[])
 |vs,s::r=>((aL n ks arg (cP n ks arg vs s).1 r).1,(cP n ks arg vs s).2++(aL n ks arg (cP n ks arg vs s).1 r).2)
theorem qoM(n:Int)(ks:List Int)(arg:Int)(b:List aH):∀(a:List aH) (vs:List Int),aL n ks arg vs (a++b)=((aL n ks arg (aL n ks arg vs a).1 b).1,(aL n ks arg vs a).2++(aL n ks arg (aL n ks arg vs a).1 b).2):=by
 intro a
 induction a with
 |nil=>intro vs;simp[aL]
 |cons s r ih=>intro vs;simp[aL,ih]
theorem qJM(n:Int)(ks:List Int)(arg:Int)(vs:List Int)(s:aH):(cP n ks arg vs s).1.length=vs.length∧(cP n ks arg vs s).2.length≤1:=by
 unfold cP;split<;>simp
theorem qhW(n:Int)(ks:List Int)(arg:Int):∀(a:List aH) (vs:List Int),(aL n ks arg vs a).1.length=vs.length∧(aL n ks arg vs a).2.length≤a.length:=by
 intro a
 induction a with
 |nil=>intro vs;simp[aL]
 |cons s r ih=>
  intro vs;have h1:=qJM n ks arg vs s;have h2:=ih (cP n ks arg vs s).1;simp only[aL,List.length_append,List.length_cons];omega
def yJ : String := "loop.example/s0063/impl.carryOut"
theorem qCV(a b:Value)(mb:Nat)(w:World):(callMethod (.iface 268 (.agg #[a,b])) yJ #[.pointer (some ⟨mb,0,none⟩)]).run Tryz.prog w=.ok (.enter 219 #[.agg #[a,b],.pointer (some ⟨mb,0,none⟩)]) w:=by kernel_rfl
theorem qCO(a:Value)(mb:Nat)(w:World):(callMethod (.iface 270 (.agg #[a])) yJ #[.pointer (some ⟨mb,0,none⟩)]).run Tryz.prog w=.ok (.enter 220 #[.agg #[a],.pointer (some ⟨mb,0,none⟩)]) w:=by kernel_rfl
theorem qCS(a b c:Value)(mb:Nat)(w:World):(callMethod (.iface 272 (.agg #[a,b,c])) yJ #[.pointer (some ⟨mb,0,none⟩)]).run Tryz.prog w=.ok (.enter 221 #[.agg #[a,b,c],.pointer (some ⟨mb,0,none⟩)]) w:=by kernel_rfl
theorem qCP(a b c:Value)(mb:Nat)(w:World):(callMethod (.iface 273 (.agg #[a,b,c])) yJ #[.pointer (some ⟨mb,0,none⟩)]).run Tryz.prog w=.ok (.enter 222 #[.agg #[a,b,c],.pointer (some ⟨mb,0,none⟩)]) w:=by kernel_rfl
theorem qCT(a b:Value)(mb:Nat)(w:World):(callMethod (.iface 275 (.agg #[a,b])) yJ #[.pointer (some ⟨mb,0,none⟩)]).run Tryz.prog w=.ok (.enter 223 #[.agg #[a,b],.pointer (some ⟨mb,0,none⟩)]) w:=by kernel_rfl
theorem qCM(mb:Nat)(w:World):(callMethod (.iface 263 (.agg #[])) yJ #[.pointer (some ⟨mb,0,none⟩)]).run Tryz.prog w=.ok (.enter 215 #[.agg #[],.pointer (some ⟨mb,0,none⟩)]) w:=by kernel_rfl
theorem qCU(mb:Nat)(w:World):(callMethod (.iface 264 (.agg #[])) yJ #[.pointer (some ⟨mb,0,none⟩)]).run Tryz.prog w=.ok (.enter 217 #[.agg #[],.pointer (some ⟨mb,0,none⟩)]) w:=by kernel_rfl
theorem qB5(a b c:Value)(mb:Nat)(w:World):(callMethod (.iface 277 (.agg #[a,b,c])) yJ #[.pointer (some ⟨mb,0,none⟩)]).run Tryz.prog w=.ok (.enter 224 #[.agg #[a,b,c],.pointer (some ⟨mb,0,none⟩)]) w:=by kernel_rfl
theorem qCN(a:Value)(mb:Nat)(w:World):(callMethod (.iface 266 (.agg #[a])) yJ #[.pointer (some ⟨mb,0,none⟩)]).run Tryz.prog w=.ok (.enter 218 #[.agg #[a],.pointer (some ⟨mb,0,none⟩)]) w:=by kernel_rfl
def yS(l:aE)(s:aH)(v:Value):Prop:=∀(mb:Nat),∃y x f,v=.iface y x∧(∀w:World,(callMethod (.iface y x) yJ #[.pointer (some ⟨mb,0,none⟩)]).run Tryz.prog w=.ok (.enter f #[x,.pointer (some ⟨mb,0,none⟩)]) w)∧
 ∀(B:Nat) (ks vs:List Int) (arg:Int) (es:List bI) (w:World),l.v=vs.length→ks.length=vs.length→(∀i,i<ks.length→1≤ks.getD i 0∧ks.getD i 0≤7)→es.length≤1000000→B≤w.heap.size→Mom w B mb ks vs arg es→
  Calls Tryz.prog f #[x,.pointer (some ⟨mb,0,none⟩)] w λe w'=>e=.returned (.tuple #[])∧Mom w' B mb ks (cP l.v ks arg vs s).1 arg (es++(cP l.v ks arg vs s).2)∧Stir B w w'
theorem qhN{l:aE}{code:List (Int×Int)}{t:Tree}{mb B:Nat}{ks vs:List Int}{arg:Int}{es:List bI}{w:World}(ht:aV code l.v=some t)(hl:l.v=vs.length)(hM:Mom w B mb ks vs arg es):Val w (vG t) (pl t) (.pointer (some ⟨mb,0,none⟩)) (a8 vs arg t):=λw' hb=>by
 have hwf:=qbB ht;rw[hl]at hwf;exact qqG mb vs arg t hwf w' (hM.at.below hb)
theorem qBQ{l:aE}{s:aH}{t:Tree}(hk0:s.kind=2)(ht:aV s.code l.v=some t)(ha:s.a=0)(hb0:s.b=0):yS l s (.iface 270 (.agg #[tv t])):=by
 intro mb;refine⟨_,_,220,rfl,λw=>qCO  _ mb w,λB ks vs arg es w hl hkv hk he hB hM=>?_⟩;obtain⟨y,x,hy⟩:=cL t;have hx:=vO hy;have hwf:=qbB ht;have hst:cP l.v ks arg vs s=(vs,[⟨2,0,0,a8 vs arg t⟩]):=by
  simp[cP,hk0,bX,yX,ht,ha,hb0]
 rw[hst,hy];refine(qDX y (vG t) x mb (a8 vs arg t) w B (λw' w''=>Mom w' B mb ks vs arg es→B≤w'.heap.size→Mom w'' B mb ks vs arg (es++[⟨2,0,0,a8 vs arg t⟩])∧Stir B w' w'') (λw=>?_) ?_ (λw' hb=>?_)).mono ?_
 ·rw[←hy,hx];exact vK _ t hwf _ w
 ·rw[hx];exact qhN ht hl hM
 ·exact(qdI mb ks vs arg es ⟨2,0,0,a8 vs arg t⟩ B w' he (Nat.le_trans hB hb.size) (hM.below hb)).mono λe w'' ⟨h1,h2,h3⟩=>⟨h1,λ_ _=>⟨h2,h3⟩,h3⟩
 ·rintro e w2 ⟨he,w3,hb3,hR⟩
  obtain⟨r1,r2⟩:=hR (hM.below hb3) (Nat.le_trans hB hb3.size);exact⟨he,r1,(Stir.of_below hb3).trans r2⟩
theorem qBS{l:aE}{s:aH}{t:Tree}(hk0:s.kind=3)(ht:aV s.code l.v=some t):yS l s (.iface 272 (.agg #[.int .i64 s.a,.int .i64 s.b,tv t])):=by
 intro mb;refine⟨_,_,221,rfl,λw=>qCS _ _ _ mb w,λB ks vs arg es w hl hkv hk he hB hM=>?_⟩;obtain⟨y,x,hy⟩:=cL t;have hx:=vO hy;have hwf:=qbB ht;have hst:cP l.v ks arg vs s=(vs,[⟨3,s.a,s.b,a8 vs arg t⟩]):=by
  simp[cP,hk0,bX,yX,ht]
 rw[hst,hy];refine(qHZ y (vG t) x s.a s.b mb (a8 vs arg t) w B (λw' w''=>Mom w' B mb ks vs arg es→B≤w'.heap.size→Mom w'' B mb ks vs arg (es++[⟨3,s.a,s.b,a8 vs arg t⟩])∧Stir B w' w'') (λw=>?_) ?_ (λw' hb=>?_)).mono ?_
 ·rw[←hy,hx];exact vK _ t hwf _ w
 ·rw[hx];exact qhN ht hl hM
 ·exact(qdI mb ks vs arg es ⟨3,s.a,s.b,a8 vs arg t⟩ B w' he (Nat.le_trans hB hb.size) (hM.below hb)).mono λe w'' ⟨h1,h2,h3⟩=>⟨h1,λ_ _=>⟨h2,h3⟩,h3⟩
 ·rintro e w2 ⟨he,w3,hb3,hR⟩
  obtain⟨r1,r2⟩:=hR (hM.below hb3) (Nat.le_trans hB hb3.size);exact⟨he,r1,(Stir.of_below hb3).trans r2⟩
theorem qBR{l:aE}{s:aH}{t:Tree}(hk0:s.kind=4)(ht:aV s.code l.v=some t):yS l s (.iface 273 (.agg #[.int .i64 s.a,.int .i64 s.b,tv t])):=by
 intro mb;refine⟨_,_,222,rfl,λw=>qCP _ _ _ mb w,λB ks vs arg es w hl hkv hk he hB hM=>?_⟩;obtain⟨y,x,hy⟩:=cL t;have hx:=vO hy;have hwf:=qbB ht;have hst:cP l.v ks arg vs s=(vs,[⟨4,s.a,s.b,a8 vs arg t⟩]):=by
  simp[cP,hk0,bX,yX,ht]
 rw[hst,hy];refine(qEH y (vG t) x s.a s.b mb (a8 vs arg t) w B (λw' w''=>Mom w' B mb ks vs arg es→B≤w'.heap.size→Mom w'' B mb ks vs arg (es++[⟨4,s.a,s.b,a8 vs arg t⟩])∧Stir B w' w'') (λw=>?_) ?_ (λw' hb=>?_)).mono ?_
 ·rw[←hy,hx];exact vK _ t hwf _ w
 ·rw[hx];exact qhN ht hl hM
 ·exact(qdI mb ks vs arg es ⟨4,s.a,s.b,a8 vs arg t⟩ B w' he (Nat.le_trans hB hb.size) (hM.below hb)).mono λe w'' ⟨h1,h2,h3⟩=>⟨h1,λ_ _=>⟨h2,h3⟩,h3⟩
 ·rintro e w2 ⟨he,w3,hb3,hR⟩
  obtain⟨r1,r2⟩:=hR (hM.below hb3) (Nat.le_trans hB hb3.size);exact⟨he,r1,(Stir.of_below hb3).trans r2⟩
theorem qBT{l:aE}{s:aH}{t:Tree}(hk0:s.kind=5)(ht:aV s.code l.v=some t)(ha:s.a=0):yS l s (.iface 275 (.agg #[.int .i64 s.b,tv t])):=by
 intro mb;refine⟨_,_,223,rfl,λw=>qCT _ _ mb w,λB ks vs arg es w hl hkv hk he hB hM=>?_⟩;obtain⟨y,x,hy⟩:=cL t;have hx:=vO hy;have hwf:=qbB ht;have hst:cP l.v ks arg vs s=(vs,[⟨5,0,s.b,a8 vs arg t⟩]):=by
  simp[cP,hk0,bX,yX,ht,ha]
 rw[hst,hy];refine(qH0 y (vG t) x s.b mb (a8 vs arg t) w B (λw' w''=>Mom w' B mb ks vs arg es→B≤w'.heap.size→Mom w'' B mb ks vs arg (es++[⟨5,0,s.b,a8 vs arg t⟩])∧Stir B w' w'') (λw=>?_) ?_ (λw' hb=>?_)).mono ?_
 ·rw[←hy,hx];exact vK _ t hwf _ w
 ·rw[hx];exact qhN ht hl hM
 ·exact(qdI mb ks vs arg es ⟨5,0,s.b,a8 vs arg t⟩ B w' he (Nat.le_trans hB hb.size) (hM.below hb)).mono λe w'' ⟨h1,h2,h3⟩=>⟨h1,λ_ _=>⟨h2,h3⟩,h3⟩
 ·rintro e w2 ⟨he,w3,hb3,hR⟩
  obtain⟨r1,r2⟩:=hR (hM.below hb3) (Nat.le_trans hB hb3.size);exact⟨he,r1,(Stir.of_below hb3).trans r2⟩
theorem qBN{l:aE}{s:aH}{t:Tree}(hk0:s.kind=8)(ht:aV s.code l.v=some t):yS l s (.iface 277 (.agg #[.int .i64 s.a,.int .i64 s.b,tv t])):=by
 intro mb;refine⟨_,_,224,rfl,λw=>qB5 _ _ _ mb w,λB ks vs arg es w hl hkv hk he hB hM=>?_⟩;obtain⟨y,x,hy⟩:=cL t;have hx:=vO hy;have hwf:=qbB ht;have hst:cP l.v ks arg vs s=(vs,[⟨8,s.a,s.b,a8 vs arg t⟩]):=by
  simp[cP,hk0,bX,yX,ht]
 rw[hst,hy];refine(qAG y (vG t) x s.a s.b mb (a8 vs arg t) w B (λw' w''=>Mom w' B mb ks vs arg es→B≤w'.heap.size→Mom w'' B mb ks vs arg (es++[⟨8,s.a,s.b,a8 vs arg t⟩])∧Stir B w' w'') (λw=>?_) ?_ (λw' hb=>?_)).mono ?_
 ·rw[←hy,hx];exact vK _ t hwf _ w
 ·rw[hx];exact qhN ht hl hM
 ·exact(qdI mb ks vs arg es ⟨8,s.a,s.b,a8 vs arg t⟩ B w' he (Nat.le_trans hB hb.size) (hM.below hb)).mono λe w'' ⟨h1,h2,h3⟩=>⟨h1,λ_ _=>⟨h2,h3⟩,h3⟩
 ·rintro e w2 ⟨he,w3,hb3,hR⟩
  obtain⟨r1,r2⟩:=hR (hM.below hb3) (Nat.le_trans hB hb3.size);exact⟨he,r1,(Stir.of_below hb3).trans r2⟩
theorem qBO{l:aE}{s:aH}(hk0:s.kind=6)(ha:s.a=0)(hb0:s.b=0):yS l s (.iface 263 (.agg #[])):=by
 intro mb;refine⟨_,_,215,rfl,λw=>qCM mb w,λB ks vs arg es w hl hkv hk he hB hM=>?_⟩;have hst:cP l.v ks arg vs s=(vs,[⟨6,0,0,0⟩]):=by
  simp[cP,hk0,bX,ha,hb0]
 rw[hst];exact(qC4 mb w B ks vs arg es he hB hM).mono λe w' h=>h
theorem qBU{l:aE}{s:aH}(hk0:s.kind=7)(ha:s.a=0)(hb0:s.b=0):yS l s (.iface 264 (.agg #[])):=by
 intro mb;refine⟨_,_,217,rfl,λw=>qCU mb w,λB ks vs arg es w hl hkv hk he hB hM=>?_⟩;have hst:cP l.v ks arg vs s=(vs,[⟨7,0,0,0⟩]):=by
  simp[cP,hk0,bX,ha,hb0]
 rw[hst];exact(qH6 mb w B ks vs arg es he hB hM).mono λe w' h=>h
theorem qBP{l:aE}{s:aH}(hk0:s.kind=9)(hb0:s.b=0):yS l s (.iface 266 (.agg #[.int .i64 s.a])):=by
 intro mb;refine⟨_,_,218,rfl,λw=>qCN _ mb w,λB ks vs arg es w hl hkv hk he hB hM=>?_⟩;have hst:cP l.v ks arg vs s=(vs,[⟨9,s.a,0,0⟩]):=by
  simp[cP,hk0,bX,hb0]
 rw[hst];exact(qDF s.a mb w B ks vs arg es he hB hM).mono λe w' h=>h
theorem qBV{l:aE}{s:aH}{t:Tree}(hk0:s.kind=1)(ht:aV s.code l.v=some t)(ha0:0≤s.a)(ha1:s.a<l.v):yS l s (.iface 268 (.agg #[.int .i64 s.a,tv t])):=by
 intro mb;refine⟨_,_,219,rfl,λw=>qCV _ _ mb w,λB ks vs arg es w hl hkv hk he hB hM=>?_⟩;obtain⟨y,x,hy⟩:=cL t;have hx:=vO hy;have hwf:=qbB ht;obtain⟨i,hi⟩:∃i:Nat,s.a=i:=⟨s.a.toNat,by omega⟩;have hst:cP l.v ks arg vs s=(vs.set i (conv (ks.getD i 0) (a8 vs arg t)),[]):=by
  simp[cP,hk0,yX,ht,hi]
 have hik:i<ks.length:=by omega
 rw[hst,hy,hi];simp only[List.append_nil];refine(qIU y (vG t) x mb i (a8 vs arg t) w (λw' w''=>Mom w' B mb ks vs arg es→Mom w'' B mb ks (vs.set i (conv (ks.getD i 0) (a8 vs arg t))) arg es∧Stir B w' w'') (λw=>?_) ?_ (λw' hb=>?_)).mono ?_
 ·rw[←hy,hx];exact vK _ t hwf _ w
 ·rw[hx];exact qhN ht hl hM
 ·exact(qGV mb i ks vs arg (a8 vs arg t) es B w' hik (by omega) (hk i hik).1 (hk i hik).2 (hM.below hb)).mono λe w'' ⟨h1,h2,h3⟩=>⟨h1,λ_=>⟨h2,h3⟩⟩
 ·rintro e w2 ⟨he,w3,hb3,hR⟩
  obtain⟨r1,r2⟩:=hR (hM.below hb3);exact⟨he,r1,(Stir.of_below hb3).trans r2⟩
theorem qBM{l:aE}{s:aH}{v:Value}(h:aN l s=some v):yS l s v:=by
 unfold aN at h;split at h
 ·cases h
 ·rename_i hf
  simp only[cF,Bool.not_eq_false,Bool.and_eq_true,decide_eq_true_eq]at hf;obtain⟨⟨hfa,hfb⟩,hfc⟩:=hf;split at h
  ·rename_i hk0;simp[tK,hk0]at hfa;simp[uK,hk0]at hfb;cases h;exact qBO hk0 (by omega) (by omega)
  ·split at h
   ·rename_i hk0;simp[tK,hk0]at hfa;simp[uK,hk0]at hfb;cases h;exact qBU hk0 (by omega) (by omega)
   ·split at h
    ·rename_i hk0;simp[uK,hk0]at hfb;cases h;exact qBP hk0 (by omega)
    ·cases ht:aV s.code l.v with
     |none=>rw[ht]at h;cases h
     |some t=>
      rw[ht]at h;simp only[Option.bind_some]at h;split at h
      ·rename_i hk0;simp[tK,hk0]at hfa;cases h;exact qBV hk0 ht (by omega) (by omega)
      ·split at h
       ·rename_i hk0;simp[tK,hk0]at hfa;simp[uK,hk0]at hfb;cases h;exact qBQ hk0 ht (by omega) (by omega)
       ·split at h
        ·rename_i hk0;cases h;exact qBS hk0 ht
        ·split at h
         ·rename_i hk0;cases h;exact qBR hk0 ht
         ·split at h
          ·rename_i hk0;simp[tK,hk0]at hfa;cases h;exact qBT hk0 ht (by omega)
          ·split at h
           ·rename_i hk0;cases h;exact qBN hk0 ht
           ·cases h
end Go.Proofs.YtiimkhepplkocaaGreat
namespace Go.Proofs.YtiimkhepplkocaaGreat
open Go.RowKit Go.Sort
attribute [local go_sem ↓] Go.wp_at_zero Go.wp_at_succ
theorem qG6(l:aE):∀(ss:List aH) (nodes:List Value),cT l ss=some nodes→nodes.length=ss.length:=by
 intro ss
 induction ss with
 |nil=>intro nodes h;simp[cT]at h;subst h;rfl
 |cons s r ih=>
  intro nodes h;simp only[cT]at h;cases h1:aN l s with
  |none=>simp[h1]at h
  |some v=>
   cases h2:cT l r with
   |none=>simp[h1,h2]at h
   |some vs=>simp[h1,h2]at h;subst h;simp[ih vs h2]
theorem qG5(l:aE):∀(ss:List aH) (nodes:List Value) (k:Nat),cT l ss=some nodes→k<ss.length→∃v,aN l (ss.getD k dC)=some v∧nodes[k]? =some v:=by
 intro ss
 induction ss with
 |nil=>intro nodes k _ hk;simp at hk
 |cons s r ih=>
  intro nodes k h hk;simp only[cT]at h;cases h1:aN l s with
  |none=>simp[h1]at h
  |some v=>
   cases h2:cT l r with
   |none=>simp[h1,h2]at h
   |some vs=>
    simp[h1,h2]at h;subst h;cases k with
    |zero=>exact⟨v,by simpa using h1,rfl⟩
    |succ k=>simpa using ih vs k h2 (by simpa using hk)
theorem qD3(n:Int)(ks:List Int)(arg:Int)(vs:List Int)(ss:List aH)(k:Nat)(hk:k<ss.length):aL n ks arg vs (ss.take (k+1))=((cP n ks arg (aL n ks arg vs (ss.take k)).1 (ss.getD k dC)).1,(aL n ks arg vs (ss.take k)).2++(cP n ks arg (aL n ks arg vs (ss.take k)).1 (ss.getD k dC)).2):=by
 rw[qy2 hk,qoM];simp[aL]
theorem qvH(l:aE)(ss:List aH)(nodes:List Value)(val:Value)(mb B:Nat)(ks vs:List Int)(arg:Int)(es:List bI)(w:World)(hno:cT l ss=some nodes)(hl:l.v=vs.length)(hkv:ks.length=vs.length)(hk:∀i,i<ks.length→1≤ks.getD i 0∧ks.getD i 0≤7)
  (he:es.length+ss.length≤1000000) (hB:B≤w.heap.size) (hrow:w.ownsRow 0 212 1 val nodes.length nodes) (h:Mom w B mb ks vs arg es):
  Calls Tryz.prog 68 #[.pointer (some ⟨mb,0,none⟩),val] w λe w'=>e=.returned (.tuple #[])∧Mom w' B mb ks (aL l.v ks arg vs ss).1 arg (es++(aL l.v ks arg vs ss).2)∧Stir B w w':=by
 have hnl:=qG6 l ss nodes hno;obtain⟨n,hn⟩:∃n,n=ss.length:=⟨_,rfl⟩;obtain⟨ao,c,rfl⟩:∃ao c,val=.slice ao n c:=by
  rcases hrow.2 with⟨e,e0⟩|⟨g,cap,cur,e,_⟩
  ·exact⟨none,0,by rw[e,hn,←hnl,e0]⟩
  ·exact⟨_,cap,by rw[e,hn,←hnl]⟩
 have NO:=hid hno;have NL:=hid hnl;have N:=hid hn;have ROW:=hid hrow;have HM:=hid h;have KV:=hid hkv;have HK:=hid hk;have HLV:=hid hl;have hn1:n≤1000000:=by omega
 clear hno hnl hrow h hkv hk hl hn;go_enter Tryz.func68,Tryz.ntmps68;go_wp2_with fail;go_loopg [8] n (λmm i wr=>∃k:Nat,k≤n∧mm=n-k∧i=.int .i64 k∧Mom wr B mb ks (aL l.v ks arg vs (ss.take k)).1 arg (es++(aL l.v ks arg vs (ss.take k)).2)∧Stir B w wr)
 case atStart=>exact⟨0,Nat.zero_le _,by omega,rfl,by simpa[aL]using HM.out,Stir.refl _ _⟩
 case round=>
  obtain⟨k,hk,rfl,rfl,hm,hst⟩:=hrel;have MM:=hid hm;have ST:=hid hst;by_cases hlt:k<n
  ·obtain⟨v,hv,hvk⟩:=qG5 l ss nodes k NO.out (by rw[←N.out];exact hlt)
   obtain⟨y,x,f,rfl,hcm,hcall⟩:=qBM hv mb;have hr2:=hst.own ROW.out (by decide) (by decide) (by decide);rw[NL.out,←N.out]at hr2;obtain⟨g,cap,e,_,_⟩:=World.ownsRow.form hr2 (by omega);simp only[Value.slice.injEq]at e;obtain⟨rfl,_,rfl⟩:=e;have cn:=World.ownsRow.cellAt hr2 k (by omega);rw[hvk]at cn;have l2:=qhW l.v ks arg (ss.take k) vs;have e2:(es++(aL l.v ks arg vs (ss.take k)).2).length≤1000000:=by
    have h1:=l2.2;have h2:=N.out;simp only[List.length_append,List.length_take]at h1⊢;omega
   have C:=hid (hcall B ks (aL l.v ks arg vs (ss.take k)).1 arg (es++(aL l.v ks arg vs (ss.take k)).2) wr (by rw[l2.1];exact HLV.out) (by rw[l2.1];exact KV.out) HK.out e2 (Nat.le_trans hB hst.size) hm);have ET:=hid (qD3 l.v ks arg vs ss k (by rw[←N.out];exact hlt))
   have M2 : ∀ w : World, ((Sem.run Tryz.prog (method 434 y x "loop.example/s0063/impl.carryOut") w).andThen fun a w' => Sem.run Tryz.prog (callFunc a.fst #[a.snd, Value.pointer (some ⟨mb, 0, none⟩)]) w') = .ok (.enter f #[x, .pointer (some ⟨mb, 0, none⟩)]) w := fun w => by
    have:=hcm w;simpa[callMethod,yJ,go_sem]using this
   have an:(k:Int)<(n:Int):=by omega
   clear hm hst hv hvk hcm hcall hr2 l2 e2;go_wp2_with(refine C.out.mono ?_;rintro e w6 ⟨rfl,hm6,hs6⟩;have M6:=hid hm6;have S6:=hid hs6;clear hm6 hs6);go_roundg(n-(k+1))
   case measure=>omega
   case rel=>
    refine⟨k+1,by omega,rfl,by go_num,?_,ST.out.trans S6.out⟩;rw[ET.out,←List.append_assoc];exact M6.out
  ·have e:k=n:=by omega
   subst e;clear hm hst;go_wp2;go_end0;have:=N.out;rw[show ss.take k=ss by rw[this];exact List.take_length]at MM;exact⟨rfl,MM.out,ST.out⟩
end Go.Proofs.YtiimkhepplkocaaGreat
