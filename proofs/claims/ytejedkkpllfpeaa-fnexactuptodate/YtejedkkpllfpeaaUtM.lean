/- The term at a place, and whether a log is up to date. Plain mathematics. -/
import Derived.Test.YtejedkkpllfpeaaNdM
namespace Go.Proofs.Ytejedkkpllfpeaa
open Go.ChangeShapes Go.WideShapes Go.ChangeAt Go.RowKit
set_option linter.unusedVariables false
/-- The term at place k, counted from 1; that of place 0 is 0. -/
def tAt (l : List Ent) (k : Nat) : Int := if h : 0 < k ∧ k - 1 < l.length then l[k - 1].1 else 0
theorem tAt_zero (l : List Ent) : tAt l 0 = 0 := by unfold tAt; rw [dif_neg (by omega)]
theorem tAt_succ (l : List Ent) (j : Nat) (h : j < l.length) : tAt l (j + 1) = l[j].1 := by unfold tAt; rw [dif_pos ⟨by omega, by simpa using h⟩]; rfl
def utB (n : Int) (T iq tq : Int) : Bool := decide (T < tq) || (decide (tq = T) && decide (n ≤ iq))
end Go.Proofs.Ytejedkkpllfpeaa
