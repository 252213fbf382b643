/- The size of a list of texts, as the laws reckon it. -/
import Derived.Test.YthbkcijkokaoeaaStrS
namespace Go.Proofs.Ythbkcijkokaoeaa
open Go.ChangeShapes Go.WideShapes Go.ChangeAt Go.RowKit
end Go.Proofs.Ythbkcijkokaoeaa
