import Derived.Test.YtiimkhepplkocaaGreatV10
namespace Go.Proofs.YtiimkhepplkocaaGreat
open Go.RowKit Go.Sort
set_option linter.unusedVariables false
end Go.Proofs.YtiimkhepplkocaaGreat
