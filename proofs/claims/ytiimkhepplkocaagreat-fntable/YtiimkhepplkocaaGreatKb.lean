import Derived.Test.YtiimkhepplkocaaGreatKa
import Derived.Deep.LoopGhost
import Derived.Test.YtiimkhepplkocaaGreatSa
namespace Go.Proofs.YtiimkhepplkocaaGreat
open Go.RowKit Go.Sort
attribute [local go_sem ↓] Go.wp_at_zero Go.wp_at_succ
def TI(w:World)(L:Nat)(v:Value)(n:Nat):Prop:=
 ∃g F,L≤g∧v=.slice (some ⟨g,0,none⟩) n n∧w.rowIs g 205 (n*2) F∧∀j,j<n*2→∃z,F j=.int .i64 z
def TS(w:World)(L:Nat)(v:Value)(ss:List aH):Prop:=
 ∃g F,L≤g∧v=.slice (some ⟨g,0,none⟩) ss.length ss.length∧w.rowIs g 210 (ss.length*4) F∧
  ∀i,i<ss.length→(∃z,F (i*4)=.int .i64 z)∧(∃z,F (i*4+1)=.int .i64 z)∧(∃z,F (i*4+2)=.int .i64 z)∧TI w L (F (i*4+3)) (ss.getD i dC).code.length
def TT(w:World)(L:Nat)(v:Value)(ss:List StD):Prop:=
 ∃g F,L≤g∧v=.slice (some ⟨g,0,none⟩) ss.length ss.length∧w.rowIs g 65 (ss.length*4) F∧
  ∀i,i<ss.length→(∃z,F (i*4)=.int .i64 z)∧(∃z,F (i*4+1)=.int .i64 z)∧TS w L (F (i*4+2)) (ss.getD i st0).entry∧TS w L (F (i*4+3)) (ss.getD i st0).exit
end Go.Proofs.YtiimkhepplkocaaGreat
namespace Go.Proofs.YtiimkhepplkocaaGreat
open Go.RowKit Go.Sort
attribute [local go_sem ↓] Go.wp_at_zero Go.wp_at_succ
end Go.Proofs.YtiimkhepplkocaaGreat
namespace Go.Proofs.YtiimkhepplkocaaGreat
open Go.RowKit Go.Sort
attribute [local go_sem ↓] Go.wp_at_zero Go.wp_at_succ
end Go.Proofs.YtiimkhepplkocaaGreat
namespace Go.Proofs.YtiimkhepplkocaaGreat
open Go.RowKit Go.Sort
attribute [local go_sem ↓] Go.wp_at_zero Go.wp_at_succ
end Go.Proofs.YtiimkhepplkocaaGreat
