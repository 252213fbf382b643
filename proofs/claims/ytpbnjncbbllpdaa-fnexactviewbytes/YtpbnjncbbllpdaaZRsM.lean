/- Bytes that hold cells. Plain mathematics. -/
import Derived.Test.YtpbnjncbbllpdaaZPair
import Derived.Test.YtpbnjncbbllpdaaZNumM
import Derived.Test.YtpbnjncbbllpdaaZStrS
namespace Go.Proofs.Ytpbnjncbbllpdaa
open Go.ChangeShapes Go.WideShapes Go.ChangeAt Go.RowKit
set_option linter.unusedVariables false
def c4 (d : List UInt8) (k : Nat) : Int × Int := (((ofBE ((d.drop (4 * k)).take 3) : Nat) : Int), ((ofBE ((d.drop (4 * k + 3)).take 1) : Nat) : Int))
def cells4 (d : List UInt8) (n : Nat) : List (Int × Int) := (List.range n).map (c4 d)
theorem cells4_len (d : List UInt8) (n : Nat) : (cells4 d n).length = n := by simp [cells4]
theorem cells4_snoc (d : List UInt8) (n : Nat) : cells4 d (n + 1) = cells4 d n ++ [c4 d n] := by simp [cells4, List.range_succ]
/-- The cells of rows of n cells each. -/
def rowsC (n : Nat) (R : List ByteArray) : List (Int × Int) := R.flatMap fun r => cells4 r.data.toList n
theorem cP_snoc (l : List (Int × Int)) (c : Int × Int) : cP (l ++ [c]) = cP l ++ [.int .i64 c.1, .int .i64 c.2] := by simp [cP]
end Go.Proofs.Ytpbnjncbbllpdaa
