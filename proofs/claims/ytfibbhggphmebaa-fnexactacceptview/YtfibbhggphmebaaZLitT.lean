/- An empty row of texts, laid. -/
import Derived.Test.YtfibbhggphmebaaZStrS
namespace Go.Proofs.Ytfibbhggphmebaa
open Go.ChangeShapes Go.WideShapes Go.ChangeAt Go.RowKit
set_option linter.unusedVariables false
theorem lit_atT (w : World) (s base : Nat) (t : TypeId) (hs : w.heap.size = s) (hb : base ≤ s) : (w.alloc (.cells #[] t)).ownsRow base t 1 (.slice (some ⟨s, 0, none⟩) 0 0) 0 (cS []) := by
  subst hs
  have := World.ownsRow_lit (e := t) (base := base) (size := 1) w #[] 0 hb (by unfold maxLen; omega) (by simp)
  simpa [cS] using this
end Go.Proofs.Ytfibbhggphmebaa
