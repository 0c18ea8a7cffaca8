import Derived.Test.YtiimkhepplkocaaGreatVd
import Derived.Test.YtiimkhepplkocaaGreatKb
import Derived.Test.YtiimkhepplkocaaGreatZf
import Derived.Deep.RegionWith
import Derived.Deep.DeepCutAuto
namespace Go.Proofs.YtiimkhepplkocaaGreat
open Go.RowKit Go.Sort
set_option linter.unusedVariables false
attribute [local go_sem ↓] Go.wp_at_zero Go.wp_at_succ
abbrev quR:=List (Nat×Array Value×TypeId)
theorem qh6{w:World}{B:Nat}{e:TypeId}{size:Nat}{v:Value}{n:Nat}{xs:List Value}(h:w.ownsRow B e size v n xs){H:Nat}{cs:Array Value}{t:TypeId}(hH:w.heap[H]? =some (.cells cs t (0,0)))(ht:t≠e):v.ownBlock≠some H:=aJ h ht hH
theorem qjT{w:World}{B:Nat}{e:TypeId}{size:Nat}{v:Value}{n:Nat}{xs:List Value}(h:w.ownsRow B e size v n xs):∀b,v.ownBlock=some b→∃cs,w.heap[b]? =some (.cells cs e (0,0)):=by
 intro b hb;rcases h.2 with⟨h0,_⟩|⟨g,cap,cur,k1,k2,k3,k4⟩
 ·rw[h0]at hb;cases hb
 ·rw[k1]at hb;simp[Value.ownBlock]at hb;subst hb;exact⟨_,k3⟩
abbrev Its(k v e:Value)(b:Nat):Prop:=k.ownBlock=some b∨v.ownBlock=some b∨e.ownBlock=some b
section
variable {w:World} {bs:quR} {RK RV:List Int} {RE:List bI} {kS vS eS:Value} {es:List StD} {xs:List TrD} {kn vn:Nat} {x1 x2:Value} {g6 g7:Nat} {kI vI eI:Value} {X Y:World}
end
end Go.Proofs.YtiimkhepplkocaaGreat
