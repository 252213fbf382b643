/- l02Of: the number of a text of bytes. -/
import Derived.Test.YtffnehaccgfnjaaNumM
namespace Go.Proofs.Ytffnehaccgfnjaa
open Go.ChangeShapes Go.WideShapes Go.ChangeAt Go.RowKit
end Go.Proofs.Ytffnehaccgfnjaa
