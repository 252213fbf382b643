/- A new node: what the specification answers. -/
import Derived.Test.YthbkcijkokaoeaaNnS
namespace Go.Proofs.Ythbkcijkokaoeaa
open Go.ChangeShapes Go.WideShapes Go.ChangeAt Go.RowKit
set_option linter.unusedVariables false
theorem snodesQ (nd : Int) (w : World) : Calls Try.prog 9 #[.int .i64 nd] w fun e w' => e = .returned (.bool (inB nd 1 5)) ∧ w' = w := by
  go_enter Try.func9, Try.ntmps9
  go_wp2_with fail
  refine (sin nd 1 5 _).mono ?_
  rintro e w1 ⟨rfl, rfl⟩
  go_wp2_with fail
  go_ret
  exact ⟨rfl, rfl⟩
end Go.Proofs.Ythbkcijkokaoeaa
