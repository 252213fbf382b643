/- NewScreen: what the program answers. -/
import Derived.Test.YtmgbhpfgfhlkeaaScrL
import Derived.Test.YtmgbhpfgfhlkeaaSizeB
namespace Go.Proofs.Ytmgbhpfgfhlkeaa
open Go.ChangeShapes Go.WideShapes Go.ChangeAt Go.RowKit
end Go.Proofs.Ytmgbhpfgfhlkeaa
