/- Rows of texts: marked by the laws' own helper. -/
import Derived.Test.YtoinflfnddjggaaStrS
namespace Go.Proofs.Ytoinflfnddjggaa
open Go.ChangeShapes Go.WideShapes Go.ChangeAt Go.RowKit
def onesString (n : Nat) : List Value := (List.range n).map fun j => .string (mtS (1 + j))
theorem below_asGrown {w w' : World} {row : Option Nat} (h : Below w.heap.size w w') : w.grownBy w' row := ⟨h.os, h.tape, h.output, h.size, fun k hk _ => h.block k hk⟩
end Go.Proofs.Ytoinflfnddjggaa
