/- NewScreen: what the program answers. -/
import Derived.Test.YtjdkafcplnghlaaScrL
import Derived.Test.YtjdkafcplnghlaaSizeB
namespace Go.Proofs.Ytjdkafcplnghlaa
open Go.ChangeShapes Go.WideShapes Go.ChangeAt Go.RowKit
end Go.Proofs.Ytjdkafcplnghlaa
