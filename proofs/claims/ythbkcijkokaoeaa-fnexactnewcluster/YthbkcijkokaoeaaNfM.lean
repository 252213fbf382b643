/- A node's fields as one record. -/
import Derived.Test.YthbkcijkokaoeaaNdM
namespace Go.Proofs.Ythbkcijkokaoeaa
open Go.ChangeShapes Go.WideShapes Go.ChangeAt Go.RowKit
set_option linter.unusedVariables false
structure Nf where
  id : Int
  nd : Int
  tm : Int
  vt : Int
  ro : Int
  up : Bool
  l : List Ent
  cm : Int
  el : Int
  wt : Int
  lv : List Int
  lx : List Int
  lg : List Int
def nfZ : Nf := ⟨0, 0, 0, 0, 0, false, [], 0, 0, 0, [], [], []⟩
def nfB (N : Nf) : Bool := nodeB N.id N.nd N.tm N.vt N.ro N.cm N.el N.wt N.up N.l N.lv N.lx N.lg
end Go.Proofs.Ythbkcijkokaoeaa
