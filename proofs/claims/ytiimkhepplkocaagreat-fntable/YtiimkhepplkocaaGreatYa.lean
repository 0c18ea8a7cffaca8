import Derived.Test.YtiimkhepplkocaaGreatXa
import Derived.Test.YtiimkhepplkocaaGreatAo
import Derived.Laws.OwnMore
set_option maxRecDepth 100000
set_option maxHeartbeats 16000000
namespace Go.Proofs.YtiimkhepplkocaaGreat
open Go.RowKit Go.Sort
def Own(w:World)(base:Nat)(v:Value)(zs:List Int):Prop:=w.ownsRow base 3 1 v zs.length (zs.map (Value.int .i64))∧v≠.slice none 0 0
theorem Own.form{w:World}{base:Nat}{v:Value}{zs:List Int}(h:Own w base v zs):∃g cap,v=.slice (some ⟨g,0,none⟩) zs.length cap∧base≤g∧g<w.heap.size:=by
 rcases h.1.2 with⟨e,_⟩|⟨g,cap,cur,e,hb,hh,_⟩
 ·exact absurd e h.2
 ·exact⟨g,cap,e,hb,lt_of_block hh⟩
theorem Own.slice{w:World}{base:Nat}{zs:List Int}{ao:Option Addr}{n cap:Nat}(h:Own w base (.slice ao n cap) zs):SliceOf w ao n zs:=by
 obtain⟨g,cap',e,hb,hg⟩:=h.form;simp only[Value.slice.injEq]at e;obtain⟨rfl,rfl,rfl⟩:=e;refine⟨rfl,λ_=>⟨g,0,rfl,hg,λi hi=>?_⟩⟩;have:=h.1.cellAt i (by omega);rw[Nat.zero_add,this];simp[hi,List.getD]
theorem qi4(ao:Option Addr)(n c:Nat)(zs:List Int)(w:World)(hn:n≤1048576)(hs:SliceOf w ao n zs):
  Calls Tryz.prog 124 #[.slice ao n c] w λe w'=>∃v,e=.returned v∧Own w' w.heap.size v zs∧Below w.heap.size w w':=by
 obtain⟨i0,hi,hz0,hz1,hz2⟩:=info_parts Tryz.infoInt0;have HS:=hid hs;have HL:=hid hs.1;clear hs;go_enter Tryz.func124,Tryz.ntmps124;go_wp2_with(at_builtin;refine yQ _ rfl (.tmp 3) (.tmp 4) 30 rfl w.heap.size 3 i0 (.int .i64 0) 1 8 Tryz.underlying30 hi hz0 hz1 hz2 rfl (by decide) _ 0 [] rfl ?c0 ao n c (zs.map (Value.int .i64)) rfl ?c6 ?c1 ?c2 ?c3 ?c4 ?c5 ?_)
 case c0=>exact World.ownsRow_lit w #[] 0 (Nat.le_refl _) (by decide) rfl
 case c6=>simp[HL.out]
 case c1=>exact qdY HS.out (aB _ _)
 case c2=>intro u hu;simp at hu;obtain⟨z,_,rfl⟩:=hu;rfl
 case c3=>unfold maxLen;omega
 case c4=>omega
 case c5=>simp
 ·intro v' w1 hown' hgrow hnil
  have O:=hid hown';have G:=hid hgrow;have N:=hid hnil;clear hown' hgrow hnil;go_wp2;go_ret;exact⟨_,rfl,⟨by rw[HL.out];simpa using O.out,by simpa using N.out⟩,(aB _ _).grown G.out (by simp) (λk hk=>by simp[Value.ownBlock]at hk;omega)⟩
end Go.Proofs.YtiimkhepplkocaaGreat
namespace Go.Proofs.YtiimkhepplkocaaGreat
open Go.RowKit Go.Sort
attribute [local go_sem ↓] Go.wp_at_zero Go.wp_at_succ
theorem qIV(mb kg kn kc vg vn vc i:Nat)(k n:Int)(arg ev x:Value)(w:World)(h1:1≤k)(h7:k≤7)
  (hm:w.heap[mb]? =some (.cells #[.slice (some ⟨kg,0,none⟩) kn kc,.slice (some ⟨vg,0,none⟩) vn vc,arg,ev] 146 (0,0)))
  (ki:(i:Int)<kn) (vi:(i:Int)<vn) (vl:vg<w.heap.size)
  (hk:w.cell? ⟨kg,i,none⟩=some (.int .i64 k)) (hv:w.cell? ⟨vg,i,none⟩=some x) (hf:w.frozen? ⟨vg,i,none⟩=false):
  Calls Tryz.prog 206 #[.pointer (some ⟨mb,0,none⟩),.int .i64 i,.int .i64 n] w λe w'=>e=.returned (.tuple #[])∧∃w1,Below w.heap.size w w1∧w'=w1.setCell ⟨vg,i,none⟩ (.int .i64 (conv k n)):=by
 obtain⟨c0,c1,_,_⟩:=aC hm;have HM:=hid hm;have ml:=lt_of_block hm;have HV:=hid hv;have HF:=hid hf;have hent:=qoL k h1 h7;have D:Hid (Below w.heap.size w w.drew):=(Below.refl _ _).drew;clear hm;go_enter Tryz.func206,Tryz.ntmps206;go_wp2;go_region_with(first
  |(go_at_call 117;refine(qoE k _ h1 h7).mono ?_;rintro e w1 ⟨rfl,hb⟩;have B:=hid (D.out.trans hb);have c1':=(hb.cell (p:=⟨mb,1,none⟩) ml).trans c1;have hv':=(hb.cell (p:=⟨vg,i,none⟩) vl).trans HV.out;have hf':=(hb.frozen (p:=⟨vg,i,none⟩) vl).trans HF.out;clear hb)
  |(refine(qp5 k n _ h1 h7).mono ?_;rintro e w2 ⟨rfl,hw⟩;obtain rfl:=hw.symm))
 all_goals
  go_wp2;go_end0;exact⟨rfl,_,B.out,rfl⟩
end Go.Proofs.YtiimkhepplkocaaGreat
namespace Go.Proofs.YtiimkhepplkocaaGreat
open Go.RowKit Go.Sort
attribute [local go_sem ↓] Go.wp_at_zero Go.wp_at_succ
theorem qIU(y f:Nat)(x:Value)(mb:Nat)(i:Nat)(q:Int)(w:World)(R:World→World→Prop)
  (hm:∀(w:World),(callMethod (.iface y x) cH #[.pointer (some ⟨mb,0,none⟩)]).run Tryz.prog w=.ok (.enter f #[x,.pointer (some ⟨mb,0,none⟩)]) w)
  (hv:Val w f x (.pointer (some ⟨mb,0,none⟩)) q)
  (hr:∀w',Below w.heap.size w w'→Calls Tryz.prog 206 #[.pointer (some ⟨mb,0,none⟩),.int .i64 i,.int .i64 q] w' λe w''=>e=.returned (.tuple #[])∧R w' w''):
  Calls Tryz.prog 219 #[.agg #[.int .i64 i,.iface y x],.pointer (some ⟨mb,0,none⟩)] w λe w'=>e=.returned (.tuple #[])∧∃w1,Below w.heap.size w w1∧R w1 w':=by
 have M:=hid hm;have V:=hid hv;have HR:=hid hr;clear hm hv hr;obtain⟨W,hW⟩:∃W,W=w.alloc (.cells #[.int .i64 i,.iface y x] 268):=⟨_,rfl⟩;have bW:Below w.heap.size w W:=by rw[hW];exact aB _ _
 have hQ:W.heap[w.heap.size]? =some (.cells #[.int .i64 i,.iface y x] 268 (0,0)):=by rw[hW];exact heap_alloc_new w _
 obtain⟨q0,q1,_,_⟩:=aF hQ;have hl:=lt_of_block hQ;have D:Hid (Below w.heap.size w W.drew):=bW.drew;have HW:=hid hW
 have M2 : ∀ w : World, ((Sem.run Tryz.prog (method 434 y x "loop.example/s0063/impl.value") w).andThen fun a w' => Sem.run Tryz.prog (callFunc a.fst #[a.snd, Value.pointer (some ⟨mb, 0, none⟩)]) w') = .ok (.enter f #[x, .pointer (some ⟨mb, 0, none⟩)]) w := fun w => by
  have:=M.out w;simpa[callMethod,cH,go_sem]using this
 clear hQ bW hW;go_enter Tryz.func219,Tryz.ntmps219;go_wp2;rw[←HW.out];go_region_with(first
  |(refine(V.out _ D.out).mono ?_;rintro e w1 ⟨rfl,hb⟩;have B:=hid (D.out.trans (hb.mono D.out.size));have q0':=(hb.cell (p:=⟨w.heap.size,0,none⟩) hl).trans q0;clear hb)
  |(refine(HR.out _ B.out).mono ?_;rintro e w3 ⟨rfl,hb⟩;have B3:=hid hb;clear hb))
 all_goals
  go_wp2;go_end0;exact⟨rfl,_,B.out,B3.out⟩
end Go.Proofs.YtiimkhepplkocaaGreat
namespace Go.Proofs.YtiimkhepplkocaaGreat
open Go.RowKit Go.Sort
theorem qwE:∀(args:Array Value) (w:World),(callFunc 65 args).run Tryz.prog w=.ok (.enter 65 args) w:=yK (f:=65) Tryz.func65 (by kernel_rfl) rfl
theorem qD2(ao:Option Addr)(n c:Nat)(ss:List aH)(o s t v:Int)(nodes:List Value)(tb h0 h1:Nat)(V:World)(hn:n≤9223372036854775807)(hs:StmsOf V ao n ss)
  (d0:V.heap[h0]? =some (.cells #[.slice ao n c] 58 (0,0))) (d1:V.heap[h1]? =some (.cells #[.int .i64 o,.int .i64 s,.int .i64 t,.int .i64 v] 40 (0,0))) (d2:V.heap[tb]? =some (.cells #[.slice none 0 0] 118 (0,0))) (hl:dJ ⟨o,s,t,v⟩ ss=some nodes):
  Calls Tryz.prog 65 #[.pointer (some ⟨h0,0,none⟩),.pointer (some ⟨h1,0,none⟩),.pointer (some ⟨tb,0,none⟩)] V λe w'=>e=.returned (.tuple #[])∧(∃val,w'.heap[tb]? =some (.cells #[val] 118 (0,0))∧w'.ownsRow (V.heap.size+1) 212 1 val nodes.length nodes)∧Away tb V w':=by
 have c0:=cell_of_one d0;obtain⟨e0,e1,e2,e3⟩:=aC d1;have H:=hid (qjK ao n c ss o s t v V hn hs);rw[hl]at H;unfold qc8 at H;simp only at H;have D2:=hid d2;clear hs hl d0 d1 d2;go_enter Tryz.func65,Tryz.ntmps65;go_wp2_with(go_at_call 66;refine H.out.mono ?_;rintro e w1 ⟨⟨val,rfl,ho⟩,hb⟩;have HB:=hid hb;have HO:=hid ho;have b2:=aA D2.out hb;have e2:=cell_of_one b2;have f2:=free_of_one b2;have B2:=hid b2;have hlt:=lt_of_block D2.out;obtain⟨ao5,m5,cap5,hnv⟩:∃ao5 m5 cap5,val=.slice ao5 m5 cap5:=(by rcases ho.2 with⟨h,_⟩|⟨g,cap,cur,h,_⟩<;>exact⟨_,_,_,h⟩);subst hnv;clear hb b2 ho);go_end0;exact⟨rfl,⟨_,one_setCell B2.out,ownsRow_setCell_below HO.out (show tb<_ by omega) _⟩,(Away.of_below HB.out).trans (Away.set _ _ _ _)⟩
end Go.Proofs.YtiimkhepplkocaaGreat
