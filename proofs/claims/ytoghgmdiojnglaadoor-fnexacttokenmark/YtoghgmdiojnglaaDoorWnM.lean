/- A window's name. -/
import Derived.Test.YtoghgmdiojnglaaDoorNameT
import Derived.Test.YtoghgmdiojnglaaDoorInM
namespace Go.Proofs.YtoghgmdiojnglaaDoor
open Go.ChangeShapes Go.WideShapes Go.ChangeAt Go.RowKit
def wnB (s : ByteArray) : Bool := decide (s.size ≤ 12) && nameB s
end Go.Proofs.YtoghgmdiojnglaaDoor
