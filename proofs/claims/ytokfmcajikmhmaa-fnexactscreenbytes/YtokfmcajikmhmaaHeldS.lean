/- Rows of texts: what the laws' own helper tells of a marked row. -/
import Derived.Test.YtokfmcajikmhmaaMarkS
namespace Go.Proofs.Ytokfmcajikmhmaa
open Go.ChangeShapes Go.WideShapes Go.ChangeAt Go.RowKit
end Go.Proofs.Ytokfmcajikmhmaa
