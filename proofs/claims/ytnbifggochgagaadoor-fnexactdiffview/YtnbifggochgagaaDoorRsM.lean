/- Bytes that hold cells. Plain mathematics. -/
import Derived.Test.YtnbifggochgagaaDoorPair
import Derived.Test.YtnbifggochgagaaDoorNumM
import Derived.Test.YtnbifggochgagaaDoorStrS
namespace Go.Proofs.YtnbifggochgagaaDoor
open Go.ChangeShapes Go.WideShapes Go.ChangeAt Go.RowKit
set_option linter.unusedVariables false
def c4 (d : List UInt8) (k : Nat) : Int × Int := (((ofBE ((d.drop (4 * k)).take 3) : Nat) : Int), ((ofBE ((d.drop (4 * k + 3)).take 1) : Nat) : Int))
def cells4 (d : List UInt8) (n : Nat) : List (Int × Int) := (List.range n).map (c4 d)
theorem cells4_len (d : List UInt8) (n : Nat) : (cells4 d n).length = n := by simp [cells4]
theorem cells4_snoc (d : List UInt8) (n : Nat) : cells4 d (n + 1) = cells4 d n ++ [c4 d n] := by simp [cells4, List.range_succ]
/-- The cells of rows of n cells each. -/
def rowsC (n : Nat) (R : List ByteArray) : List (Int × Int) := R.flatMap fun r => cells4 r.data.toList n
theorem rowsC_len (n : Nat) (R : List ByteArray) : (rowsC n R).length = R.length * n := by
  induction R with
  | nil => simp [rowsC]
  | cons r R ih =>
    unfold rowsC at ih ⊢
    rw [List.flatMap_cons, List.length_append, ih, cells4_len, List.length_cons, Nat.succ_mul]
    omega
theorem rowsC_snoc (n : Nat) (R : List ByteArray) (k : Nat) (h : k < R.length) : rowsC n (R.take (k + 1)) = rowsC n (R.take k) ++ cells4 R[k].data.toList n := by
  unfold rowsC
  rw [List.take_add_one, List.getElem?_eq_getElem h, List.flatMap_append]
  simp only [Option.toList, List.flatMap_cons, List.flatMap_nil, List.append_nil]
theorem cP_snoc (l : List (Int × Int)) (c : Int × Int) : cP (l ++ [c]) = cP l ++ [.int .i64 c.1, .int .i64 c.2] := by simp [cP]
end Go.Proofs.YtnbifggochgagaaDoor
