/- Marks of rows of a number and a text. -/
import Derived.Test.YthbkcijkokaoeaaEntM
import Derived.Test.YthbkcijkokaoeaaMarkS
namespace Go.Proofs.Ythbkcijkokaoeaa
open Go.ChangeShapes Go.WideShapes Go.ChangeAt Go.RowKit
def mkE (k0 j : Nat) : Value := if j % 2 = 0 then .int .i64 ((k0 + j : Nat) : Int) else .string (mtS (k0 + j))
theorem mkE_even (k0 j : Nat) : mkE k0 (j * 2) = .int .i64 ((k0 + j * 2 : Nat) : Int) := by unfold mkE; rw [if_pos (by omega)]
theorem mkE_odd (k0 j : Nat) : mkE k0 (j * 2 + 1) = .string (mtS (k0 + (j * 2 + 1))) := by unfold mkE; rw [if_neg (by omega)]
def onesEnt (k0 n : Nat) : List Value := (List.range (n * 2)).map (mkE k0)
end Go.Proofs.Ythbkcijkokaoeaa
