/- Texts put together: AvQ SizeS. -/
import Derived.Test.YtfibbhggphmebaaZAvD
import Derived.Test.YtfibbhggphmebaaZRowV
import Derived.Test.YtfibbhggphmebaaZMarkS
import Derived.Test.YtfibbhggphmebaaZStrS
/- Four stores into a variable: what stays. -/
namespace Go.Proofs.Ytfibbhggphmebaa
open Go.ChangeShapes Go.WideShapes Go.ChangeAt Go.RowKit
set_option linter.unusedVariables false
theorem put4G {p : Nat} {u0 u1 u2 u3 : Value} (w : World) (h : BF p #[u0, u1, u2, u3] w) (v0 v1 v2 v3 : Value) :
    ∃ w', w' = (((w.setCell ⟨p, 0, none⟩ v0).setCell ⟨p, 1, none⟩ v1).setCell ⟨p, 2, none⟩ v2).setCell ⟨p, 3, none⟩ v3 ∧ BF p #[v0, v1, v2, v3] w' ∧ w.grownBy w' (some p) := by
  obtain ⟨w', e, hb, hB⟩ := put4 w h v0 v1 v2 v3
  refine ⟨w', e, hb, ⟨hB.os, hB.tape, hB.output, hB.size, fun k hk hne => ?_⟩⟩
  have hkp : k ≠ p := fun e => hne (by rw [e])
  rw [e]
  iterate 4 rw [Below.heap_setCell _ _ _ _ hkp]
end Go.Proofs.Ytfibbhggphmebaa

/- The size of a list of texts, as the laws reckon it. -/
namespace Go.Proofs.Ytfibbhggphmebaa
open Go.ChangeShapes Go.WideShapes Go.ChangeAt Go.RowKit
end Go.Proofs.Ytfibbhggphmebaa
