/- NewScreen: what the program answers. -/
import Derived.Test.YtoinflfnddjggaaScrL
import Derived.Test.YtoinflfnddjggaaSizeB
namespace Go.Proofs.Ytoinflfnddjggaa
open Go.ChangeShapes Go.WideShapes Go.ChangeAt Go.RowKit
end Go.Proofs.Ytoinflfnddjggaa
