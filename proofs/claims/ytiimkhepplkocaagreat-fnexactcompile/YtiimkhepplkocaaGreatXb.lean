import Derived.Test.YtiimkhepplkocaaGreatXa
namespace Go.Proofs.YtiimkhepplkocaaGreat
open Go.RowKit Go.Sort

/-- A number's 64 bits as a number without a sign. -/
def un (x : Int) : Nat := (x % 18446744073709551616).toNat

end Go.Proofs.YtiimkhepplkocaaGreat
namespace Go.Proofs.YtiimkhepplkocaaGreat
open Go.RowKit Go.Sort

set_option linter.unusedVariables false

end Go.Proofs.YtiimkhepplkocaaGreat
namespace Go.Proofs.YtiimkhepplkocaaGreat
open Go.RowKit Go.Sort

set_option linter.unusedVariables false

section
variable {w : World} {ao : Option Addr} {n c : Nat} {its : List (Int × Int)} {vo : Option Addr} {vn vc : Nat} {vs : List Int} {arg : Int}

end

end Go.Proofs.YtiimkhepplkocaaGreat
namespace Go.Proofs.YtiimkhepplkocaaGreat
open Go.RowKit Go.Sort

set_option linter.unusedVariables false

section
variable {w : World} {ao : Option Addr} {n c : Nat} {its : List (Int × Int)} {vo : Option Addr} {vn vc : Nat} {vs : List Int} {arg : Int}

end

end Go.Proofs.YtiimkhepplkocaaGreat
