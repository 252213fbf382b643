/- The size of a list of texts, as the laws reckon it. -/
import Derived.Test.YtilnpkonhbmdpaaDoorZStrS
namespace Go.Proofs.YtilnpkonhbmdpaaDoor
open Go.ChangeShapes Go.WideShapes Go.ChangeAt Go.RowKit
end Go.Proofs.YtilnpkonhbmdpaaDoor
