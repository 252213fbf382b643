/- When a screen is right. Plain mathematics. -/
import Derived.Test.YteeklocaaidimaaNewS
import Derived.Test.YteeklocaaidimaaRuneI
import Derived.Test.YteeklocaaidimaaCelM
namespace Go.Proofs.Yteeklocaaidimaa
open Go.ChangeShapes Go.WideShapes Go.ChangeAt Go.RowKit
def placeB (W H x y : Int) : Bool := inB x 0 W && inB y 0 (H - 1)
def areaB (H top bottom : Int) : Bool := inB top 0 (H - 2) && inB bottom (top + 1) (H - 1)
def cellsB (W H : Int) (l : List (Int × Int)) : Bool := decide ((l.length : Int) = W * H) && l.all cellB
def histB (m : List ByteArray) : Bool := decide (m.length ≤ 6) && m.all fun s => decide (s.size ≤ 96)
/-- W, H, X, Y, Look, Top, Bottom, SaveX, SaveY. -/
def okB (i0 i1 i2 i3 i4 i5 i6 i7 i8 : Int) (t : List UInt8) (l : List (Int × Int)) (m : List ByteArray) : Bool :=
  sizeB i0 i1 && (placeB i0 i1 i2 i3 && (placeB i0 i1 i7 i8 && (areaB i1 i5 i6 && (inB i4 0 127 && (titleB t && (cellsB i0 i1 l && histB m))))))
end Go.Proofs.Yteeklocaaidimaa
