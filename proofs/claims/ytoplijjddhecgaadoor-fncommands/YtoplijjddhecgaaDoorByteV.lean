/- Rows of bytes: copies and likeness, in the words of rows of values. -/
import Derived.Test.YtoplijjddhecgaaDoorByteS
import Derived.Test.YtoplijjddhecgaaDoorRowV
namespace Go.Proofs.YtoplijjddhecgaaDoor
open Go.ChangeShapes Go.WideShapes Go.ChangeAt Go.RowKit
--@end
end Go.Proofs.YtoplijjddhecgaaDoor
