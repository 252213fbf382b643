/- Rows of texts: what the laws' own helper tells of a marked row. -/
import Derived.Test.YtjdkafcplnghlaaMarkS
namespace Go.Proofs.Ytjdkafcplnghlaa
open Go.ChangeShapes Go.WideShapes Go.ChangeAt Go.RowKit
end Go.Proofs.Ytjdkafcplnghlaa
