/- Texts put together: MarkS EntD. -/
import Derived.Test.YtpbnjncbbllpdaaZStrS
import Derived.Test.YtpbnjncbbllpdaaZEntM
/- Rows of texts: marked by the laws' own helper. -/
namespace Go.Proofs.Ytpbnjncbbllpdaa
open Go.ChangeShapes Go.WideShapes Go.ChangeAt Go.RowKit
def onesString (n : Nat) : List Value := (List.range n).map fun j => .string (mtS (1 + j))
theorem below_asGrown {w w' : World} {row : Option Nat} (h : Below w.heap.size w w') : w.grownBy w' row := ⟨h.os, h.tape, h.output, h.size, fun k hk _ => h.block k hk⟩
end Go.Proofs.Ytpbnjncbbllpdaa

/- Marks of rows of a number and a text. -/
namespace Go.Proofs.Ytpbnjncbbllpdaa
open Go.ChangeShapes Go.WideShapes Go.ChangeAt Go.RowKit
def mkE (k0 j : Nat) : Value := if j % 2 = 0 then .int .i64 ((k0 + j : Nat) : Int) else .string (mtS (k0 + j))
theorem mkE_even (k0 j : Nat) : mkE k0 (j * 2) = .int .i64 ((k0 + j * 2 : Nat) : Int) := by unfold mkE; rw [if_pos (by omega)]
theorem mkE_odd (k0 j : Nat) : mkE k0 (j * 2 + 1) = .string (mtS (k0 + (j * 2 + 1))) := by unfold mkE; rw [if_neg (by omega)]
def onesEnt (k0 n : Nat) : List Value := (List.range (n * 2)).map (mkE k0)
end Go.Proofs.Ytpbnjncbbllpdaa
