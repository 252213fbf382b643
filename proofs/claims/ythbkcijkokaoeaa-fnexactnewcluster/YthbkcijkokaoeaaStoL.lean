/- Stores: the laws' own helpers: sizes, copies, comparison. -/
import Derived.Test.YthbkcijkokaoeaaBase
import Derived.Test.YthbkcijkokaoeaaBf
import Derived.Lib.SmallJoins
namespace Go.Proofs.Ythbkcijkokaoeaa
open Go.ChangeShapes Go.WideShapes Go.ChangeAt Go.RowKit
set_option maxHeartbeats 1000000 in
set_option maxRecDepth 100000 in
theorem eqStore (d : ByteArray) (s : Int) (w : World) : Calls Try.prog 29 #[.agg #[.string d, .int .i64 s], .agg #[.string d, .int .i64 s]] w fun e w' => e = .returned (.bool true) ∧ Below w.heap.size w w' := by
  go_enter Try.func29, Try.ntmps29
  go_wp2_with fail
  go_ret
  exact ⟨rfl, Go.Joins.below_alloc2 w _ _⟩
end Go.Proofs.Ythbkcijkokaoeaa
