import Derived.Test.YtiimkhepplkocaaGreatRows
import Derived.Test.YtiimkhepplkocaaGreatKa
import Derived.ProofKit
import Derived.OpenShut
import Derived.ShutString
import Derived.ChangeOld
import Derived.Below
import Derived.Lib.SmallJoins
import Derived.Deep.SlicePairs
namespace Go.Proofs.YtiimkhepplkocaaGreat
open Go.ChangeShapes Go.WideShapes Go.ChangeAt Go.RowKit Go.Joins
open Go.Deep (open_slice choose_lt open_slice_pairs)
set_option linter.unusedVariables false
theorem own:ownKnob Tryz.prog.godebug=none:=by kernel_rfl
theorem qxN:laidOutB Tryz.prog=true:=by kernel_rfl
theorem qzT(b off i:Nat):(⟨b,off,none⟩:Addr).add i=⟨b,off+i,none⟩:=by
 by_cases h:i=0
 ·subst h;simp[Addr.add]
 ·simp[Addr.add,h]
end Go.Proofs.YtiimkhepplkocaaGreat
