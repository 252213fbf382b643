/- Slices of bytes: a copy owns its memory and holds the same bytes; two rows are held against each other. -/
import Derived.Test.YtilnpkonhbmdpaaDoorZBase
namespace Go.Proofs.YtilnpkonhbmdpaaDoor
open Go.ChangeShapes Go.WideShapes Go.ChangeAt Go.RowKit
def fill8 (l : List UInt8) (k : Nat) : List Value := B8 (l.take k) ++ List.replicate (l.length - k) (.int .u8 0)
end Go.Proofs.YtilnpkonhbmdpaaDoor
