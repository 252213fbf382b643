/- NewScreen: what the program answers. -/
import Derived.Test.YtokfmcajikmhmaaScrL
import Derived.Test.YtokfmcajikmhmaaSizeB
namespace Go.Proofs.Ytokfmcajikmhmaa
open Go.ChangeShapes Go.WideShapes Go.ChangeAt Go.RowKit
end Go.Proofs.Ytokfmcajikmhmaa
