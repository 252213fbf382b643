/- An empty row of texts, laid. -/
import Derived.Test.YtblhediekdeffaaDoorZG3
namespace Go.Proofs.YtblhediekdeffaaDoor
open Go.ChangeShapes Go.WideShapes Go.ChangeAt Go.RowKit
set_option linter.unusedVariables false
theorem own_capZ {w : World} {base : Nat} {e : TypeId} {z : Nat} {a : Option Addr} {n cap : Nat} {xs : List Value} (h : w.ownsRow base e z (.slice a n cap) n xs) : n ≤ cap := by
  rcases h.2 with ⟨e, e2⟩ | ⟨g, c, cur, e, _, _, h3⟩
  · cases e; omega
  · cases e; exact h3.1
end Go.Proofs.YtblhediekdeffaaDoor
