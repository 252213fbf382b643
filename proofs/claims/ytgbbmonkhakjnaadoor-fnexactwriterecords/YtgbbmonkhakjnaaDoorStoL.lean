/- Stores: the laws' own helpers: sizes, copies, comparison. -/
import Derived.Test.YtgbbmonkhakjnaaDoorBase
import Derived.Test.YtgbbmonkhakjnaaDoorBf
import Derived.Lib.SmallJoins
namespace Go.Proofs.YtgbbmonkhakjnaaDoor
open Go.ChangeShapes Go.WideShapes Go.ChangeAt Go.RowKit
set_option maxHeartbeats 1000000 in
set_option maxRecDepth 100000 in
theorem szStore (d : ByteArray) (s : Int) (h1 : d.size ≤ maxLen) (w : World) : Calls Tryd.prog 4 #[.agg #[.string d, .int .i64 s], .int .i64 1048576] w fun e w' => ∃ x : Int, e = .returned (.int .i64 x) ∧ Below w.heap.size w w' ∧ (x = -1 ∨ ∃ z : Nat, x = (z : Int) ∧ z ≤ 1048576 ∧ d.size ≤ 1048576) := by
  have HB := hide (Go.Joins.below_alloc1 w (.cells #[.string d, .int .i64 s] 23))
  unfold maxLen at h1
  obtain ⟨a, ha⟩ : ∃ a : Nat, a = d.size := ⟨_, rfl⟩
  have HA := hide ha
  rw [← ha] at h1
  have la : (d.size : Int) = (a : Int) := by rw [ha]
  clear ha
  by_cases c1 : a ≤ 1048576
  · go_enter Tryd.func4, Tryd.ntmps4
    go_wp2_with fail
    go_ret
    refine ⟨_, rfl, unhide HB, .inr ⟨1048576 - a, by omega, by omega, by rw [← unhide HA]; omega⟩⟩
  · go_enter Tryd.func4, Tryd.ntmps4
    go_wp2_with fail
    go_ret
    exact ⟨_, rfl, unhide HB, .inl rfl⟩
set_option maxHeartbeats 1000000 in
set_option maxRecDepth 100000 in
theorem toStore (d : ByteArray) (s : Int) (w : World) : Calls Tryd.prog 7 #[.agg #[.string d, .int .i64 s]] w fun e w' => e = .returned (.agg #[.string d, .int .i64 s]) ∧ Below w.heap.size w w' := by
  go_enter Tryd.func7, Tryd.ntmps7
  go_wp2_with fail
  refine bodyPost_ret (v := .agg #[.string d, .int .i64 s]) (by simp [results, Tryd.results7, go_sem]) rfl ⟨rfl, ?_⟩
  exact Go.Joins.below_alloc3 w _ _ _
set_option maxHeartbeats 1000000 in
set_option maxRecDepth 100000 in
theorem eqStore (d : ByteArray) (s : Int) (w : World) : Calls Tryd.prog 10 #[.agg #[.string d, .int .i64 s], .agg #[.string d, .int .i64 s]] w fun e w' => e = .returned (.bool true) ∧ Below w.heap.size w w' := by
  go_enter Tryd.func10, Tryd.ntmps10
  go_wp2_with fail
  go_ret
  exact ⟨rfl, Go.Joins.below_alloc2 w _ _⟩
end Go.Proofs.YtgbbmonkhakjnaaDoor
