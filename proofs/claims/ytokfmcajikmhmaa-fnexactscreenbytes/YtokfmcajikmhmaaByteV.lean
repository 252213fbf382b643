/- Rows of bytes: copies and likeness, in the words of rows of values. -/
import Derived.Test.YtokfmcajikmhmaaByteS
import Derived.Test.YtokfmcajikmhmaaRowV
namespace Go.Proofs.Ytokfmcajikmhmaa
open Go.ChangeShapes Go.WideShapes Go.ChangeAt Go.RowKit
--@end
theorem sameByte (a c : Option Addr) (cap cap2 : Nat) (l : List UInt8) (hl : l.length ≤ 1048576) (w : World) (hr : RowV w a (B8 l)) (hr2 : RowV w c (B8 l)) :
    Calls Try.prog 8 #[.slice a l.length cap, .slice c l.length cap2] w fun e w' => e = .returned (.bool true) ∧ Below w.heap.size w w' := same8 a c cap cap2 l hl w (rowV_8 hr) (rowV_8 hr2)
end Go.Proofs.Ytokfmcajikmhmaa
