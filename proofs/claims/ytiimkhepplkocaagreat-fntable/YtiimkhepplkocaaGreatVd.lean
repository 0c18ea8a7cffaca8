import Derived.Test.YtiimkhepplkocaaGreatV6
import Derived.Deep.LoopGhost
namespace Go.Proofs.YtiimkhepplkocaaGreat
open Go.RowKit Go.Sort
set_option linter.unusedVariables false
attribute [local go_sem ↓] Go.wp_at_zero Go.wp_at_succ
structure Only (v:Value) (w w':World):Prop where
 os:w'.os=w.os
 tape:w'.tape=w.tape
 output:w'.output=w.output
 size:w'.heap.size=w.heap.size
 block:∀q,v.ownBlock≠some q→w'.heap[q]? =w.heap[q]?
theorem Only.refl(v:Value)(w:World):Only v w w:=⟨rfl,rfl,rfl,rfl,λ_ _=>rfl⟩
theorem Only.trans{v:Value}{a b c:World}(h:Only v a b)(k:Only v b c):Only v a c:=⟨k.os.trans h.os,k.tape.trans h.tape,k.output.trans h.output,k.size.trans h.size,λq hq=>(k.block q hq).trans (h.block q hq)⟩
theorem Only.set{g n c o:Nat}{w:World}(u:Value):Only (.slice (some ⟨g,0,none⟩) n c) w (w.setCell ⟨g,o,none⟩ u):=⟨rfl,rfl,rfl,by simp,λq hq=>Below.heap_setCell _ _ _ _ (λe=>hq (by simp[Value.ownBlock];exact e.symm))⟩
theorem Only.drew{v:Value}{a b:World}(h:Only v a b):Only v a b.drew:=⟨h.os,h.tape,h.output,h.size,h.block⟩
theorem Only.below{v:Value}{w w':World}{L:Nat}(h:Only v w w')(hL:∀b,v.ownBlock=some b→L≤b):Below L w w':=⟨h.os,h.tape,h.output,Nat.le_of_eq h.size.symm,λk hk=>h.block k (λe=>by have:=hL k e;omega)⟩
end Go.Proofs.YtiimkhepplkocaaGreat
namespace Go.Proofs.YtiimkhepplkocaaGreat
open Go.RowKit Go.Sort
set_option linter.unusedVariables false
attribute [local go_sem ↓] Go.wp_at_zero Go.wp_at_succ
theorem qwB:∀(es:List bI) (k:Nat),k<es.length→∃x:bI,(aT es)[k*4]? =some (.int .i64 x.kind)∧(aT es)[k*4+1]? =some (.int .i64 x.a)∧(aT es)[k*4+2]? =some (.int .i64 x.b)∧(aT es)[k*4+3]? =some (.int .i64 x.v)
 |[],k,h=>by simp at h
 |e::r,0,_=>⟨e,rfl,rfl,rfl,rfl⟩
 |e::r,k+1,h=>by
  obtain⟨x,h1,h2,h3,h4⟩:=qwB r k (by simpa using h);refine⟨x,?_,?_,?_,?_⟩
  ·rw[show(k+1)*4=k*4+4 by omega];simpa[aT]using h1
  ·rw[show(k+1)*4+1=k*4+1+4 by omega];simpa[aT]using h2
  ·rw[show(k+1)*4+2=k*4+2+4 by omega];simpa[aT]using h3
  ·rw[show(k+1)*4+3=k*4+3+4 by omega];simpa[aT]using h4
theorem aO{w:World}{B:Nat}{e:TypeId}{size:Nat}{v:Value}{n:Nat}{xs:List Value}(h:w.ownsRow B e size v n xs):∃ao c,v=.slice ao n c:=by
 rcases h.2 with⟨e,rfl⟩|⟨g,cap,cur,e,_⟩
 ·exact⟨none,0,e⟩
 ·exact⟨_,cap,e⟩
end Go.Proofs.YtiimkhepplkocaaGreat
namespace Go.Proofs.YtiimkhepplkocaaGreat
open Go.RowKit Go.Sort
set_option linter.unusedVariables false
end Go.Proofs.YtiimkhepplkocaaGreat
