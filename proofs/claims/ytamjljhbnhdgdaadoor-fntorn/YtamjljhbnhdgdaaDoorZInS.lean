/- l01In, l03RuneOK: what the specification answers. -/
import Derived.Test.YtamjljhbnhdgdaaDoorZG2
namespace Go.Proofs.YtamjljhbnhdgdaaDoor
open Go.ChangeShapes Go.WideShapes Go.ChangeAt Go.RowKit
set_option linter.unusedVariables false
set_option maxHeartbeats 400000 in
set_option maxRecDepth 100000 in
theorem sin (n a b : Int) (w : World) : Calls Tryd.prog 31 #[.int .i64 n, .int .i64 a, .int .i64 b] w fun e w' => e = .returned (.bool (inB n a b)) ∧ w' = w := by
 by_cases h : a ≤ n
 ·by_cases h2 : n ≤ b
  ·go_enter Tryd.func31, Tryd.ntmps31
   go_wp2_with fail
   go_ret
   exact ⟨ret_bool (b_true ⟨h, h2⟩), rfl⟩
  ·go_enter Tryd.func31, Tryd.ntmps31
   go_wp2_with fail
   go_ret
   exact ⟨ret_bool (b_false (by omega)), rfl⟩
 ·go_enter Tryd.func31, Tryd.ntmps31
  go_wp2_with fail
  go_ret
  exact ⟨ret_bool (b_false (by omega)), rfl⟩
end Go.Proofs.YtamjljhbnhdgdaaDoor
