/- Rows of texts: what the laws' own helper tells of a marked row. -/
import Derived.Test.YtkhkhmedaaobaaaMarkS
namespace Go.Proofs.Ytkhkhmedaaobaaa
open Go.ChangeShapes Go.WideShapes Go.ChangeAt Go.RowKit
end Go.Proofs.Ytkhkhmedaaobaaa
