/- Rows of texts: what the laws' own helper tells of a marked row. -/
import Derived.Test.YtmgbhpfgfhlkeaaMarkS
namespace Go.Proofs.Ytmgbhpfgfhlkeaa
open Go.ChangeShapes Go.WideShapes Go.ChangeAt Go.RowKit
end Go.Proofs.Ytmgbhpfgfhlkeaa
