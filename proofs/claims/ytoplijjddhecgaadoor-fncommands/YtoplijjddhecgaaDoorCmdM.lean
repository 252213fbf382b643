/- Commands: what a right one is. -/
import Derived.Test.YtoplijjddhecgaaDoorNameT
import Derived.Test.YtoplijjddhecgaaDoorInM
import Derived.Test.YtoplijjddhecgaaDoorSizeB
namespace Go.Proofs.YtoplijjddhecgaaDoor
open Go.ChangeShapes Go.WideShapes Go.ChangeAt Go.RowKit
def wnB (s : ByteArray) : Bool := decide (s.size ≤ 12) && nameB s
def jst (p n ep : Int) (r : Bool) (nm dt : ByteArray) (p2 n2 ep2 : Int) (r2 : Bool) (nm2 dt2 : ByteArray) : Bool := decide (p = p2 ∧ n = n2 ∧ ep = ep2 ∧ r = r2 ∧ nm.toList = nm2.toList ∧ dt.toList = dt2.toList)
def isWindowB (p n ep : Int) (r : Bool) (nm dt : ByteArray) : Bool := jst p n ep r nm dt 0 0 0 false nm ⟨#[]⟩ && wnB nm
def isSplitB (p n ep : Int) (r : Bool) (nm dt : ByteArray) : Bool := jst p n ep r nm dt p 0 0 r ⟨#[]⟩ ⟨#[]⟩ && inB p 1 1000
def isKillB (p n ep : Int) (r : Bool) (nm dt : ByteArray) : Bool := jst p n ep r nm dt p 0 0 false ⟨#[]⟩ ⟨#[]⟩ && inB p 1 1000
def isMoveB (p n ep : Int) (r : Bool) (nm dt : ByteArray) : Bool := jst p n ep r nm dt p n 0 false ⟨#[]⟩ ⟨#[]⟩ && (inB p 1 1000 && (inB n (-100) 100))
def isOutputB (p n ep : Int) (r : Bool) (nm dt : ByteArray) : Bool := jst p n ep r nm dt p 0 ep false ⟨#[]⟩ dt && (inB p 1 1000 && (inB ep 1 60000 && (inB dt.size 1 200)))
def isOwnB (p n ep : Int) (r : Bool) (nm dt : ByteArray) : Bool := jst p n ep r nm dt p n 0 false ⟨#[]⟩ ⟨#[]⟩ && (inB p 1 1000 && (inB n 0 200))
def isResizeB (p n ep : Int) (r : Bool) (nm dt : ByteArray) : Bool := jst p n ep r nm dt 0 n ep false ⟨#[]⟩ ⟨#[]⟩ && sizeB n ep
def isRenameB (p n ep : Int) (r : Bool) (nm dt : ByteArray) : Bool := jst p n ep r nm dt 0 0 0 false nm dt && (wnB nm && (wnB dt))
def kindB (k p n ep : Int) (r : Bool) (nm dt : ByteArray) : Bool :=
  if k = 1 then isWindowB p n ep r nm dt else if k = 2 then isSplitB p n ep r nm dt else if k = 3 then isKillB p n ep r nm dt else if k = 4 then isMoveB p n ep r nm dt else if k = 5 then isOutputB p n ep r nm dt else if k = 6 then isOwnB p n ep r nm dt else if k = 7 then isResizeB p n ep r nm dt else if k = 8 then isRenameB p n ep r nm dt else false
def cmdB (k cl sq p n ep : Int) (r : Bool) (nm dt : ByteArray) : Bool := inB cl 0 200 && (inB sq 1 60000 && kindB k p n ep r nm dt)
end Go.Proofs.YtoplijjddhecgaaDoor
