/- l02Of: the number of a text of bytes. -/
import Derived.Test.YtgbbmonkhakjnaaDoorNumM
namespace Go.Proofs.YtgbbmonkhakjnaaDoor
open Go.ChangeShapes Go.WideShapes Go.ChangeAt Go.RowKit
end Go.Proofs.YtgbbmonkhakjnaaDoor
