/- Mirrors in the law's own words: their size, their copies, two that are alike. -/
import Derived.Test.YthbkcijkokaoeaaSizeS
import Derived.Test.YthbkcijkokaoeaaBf
import Derived.Test.YthbkcijkokaoeaaStrS
import Derived.Lib.SmallJoins
namespace Go.Proofs.Ythbkcijkokaoeaa
open Go.ChangeShapes Go.WideShapes Go.ChangeAt Go.RowKit
set_option linter.unusedVariables false
end Go.Proofs.Ythbkcijkokaoeaa
