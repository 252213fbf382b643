/- The data of the entries that a node knows to be committed. Plain mathematics. -/
import Derived.Test.YtpbpcppkhifpgaaNdM
namespace Go.Proofs.Ytpbpcppkhifpgaa
open Go.ChangeShapes Go.WideShapes Go.ChangeAt Go.RowKit
set_option linter.unusedVariables false
def datS (l : List Ent) (k : Nat) : List ByteArray := (l.take k).map fun e => e.2
theorem datS_zero (l : List Ent) : datS l 0 = [] := by simp [datS]
theorem datS_len (l : List Ent) (k : Nat) (h : k ≤ l.length) : (datS l k).length = k := by simp [datS]; omega
theorem datS_snoc (l : List Ent) (k : Nat) (h : k < l.length) : datS l (k + 1) = datS l k ++ [l[k].2] := by
  unfold datS; rw [List.take_succ_eq_append_getElem h, List.map_append]; rfl
def CmIs (R : Bool) (l : List Ent) (cm : Int) (L : List ByteArray) (c : Int) : Prop := L = (if R then datS l cm.toNat else []) ∧ c = if R then 0 else 1
end Go.Proofs.Ytpbpcppkhifpgaa
