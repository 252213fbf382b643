/- Rows of texts: what the laws' own helper tells of a marked row. -/
import Derived.Test.YtoinflfnddjggaaMarkS
namespace Go.Proofs.Ytoinflfnddjggaa
open Go.ChangeShapes Go.WideShapes Go.ChangeAt Go.RowKit
end Go.Proofs.Ytoinflfnddjggaa
