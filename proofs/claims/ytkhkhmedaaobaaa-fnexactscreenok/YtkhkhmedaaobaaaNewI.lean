/- NewScreen: what the program answers. -/
import Derived.Test.YtkhkhmedaaobaaaScrL
import Derived.Test.YtkhkhmedaaobaaaSizeB
namespace Go.Proofs.Ytkhkhmedaaobaaa
open Go.ChangeShapes Go.WideShapes Go.ChangeAt Go.RowKit
end Go.Proofs.Ytkhkhmedaaobaaa
