/- A window's name. -/
import Derived.Test.YtagjhbogidldjaaDoorNameT
import Derived.Test.YtagjhbogidldjaaDoorInM
namespace Go.Proofs.YtagjhbogidldjaaDoor
open Go.ChangeShapes Go.WideShapes Go.ChangeAt Go.RowKit
def wnB (s : ByteArray) : Bool := decide (s.size ≤ 12) && nameB s
end Go.Proofs.YtagjhbogidldjaaDoor
