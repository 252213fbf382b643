/- Stores: what the specification answers. -/
import Derived.Test.YtialpepklejejaaDoorZG21
import Derived.Test.YtialpepklejejaaDoorZInS
import Derived.Test.YtialpepklejejaaDoorZG13
import Derived.Lib.SmallJoins
namespace Go.Proofs.YtialpepklejejaaDoor
open Go.ChangeShapes Go.WideShapes Go.ChangeAt Go.RowKit
set_option linter.unusedVariables false
set_option maxHeartbeats 1000000 in
set_option maxRecDepth 100000 in
theorem sstoreok (d : ByteArray) (s : Int) (hd : Hid (d.size ≤ maxLen)) (R : Bool) (HR : Hid (R = stoB d s)) (w : World) : Calls Tryd.prog 12 #[.agg #[.string d, .int .i64 s]] w fun e w' => e = .returned (.bool R) ∧ Below w.heap.size w w' := by
  have HB := hide (Go.Joins.below_alloc1 w (.cells #[.string d, .int .i64 s] 28))
  have h1 := unhide hd
  unfold maxLen at h1
  obtain ⟨a, ha⟩ : ∃ a : Nat, a = d.size := ⟨_, rfl⟩
  have HA := hide ha
  rw [← ha] at h1
  have la : (d.size : Int) = (a : Int) := by rw [ha]
  clear ha
  by_cases c1 : a ≤ 60000
  · have HS : inB s 0 (a : Int) = R := by
      rw [unhide HR, stoB, ← unhide HA, decide_eq_true c1, Bool.true_and]
    have HS := hide HS
    go_enter Tryd.func12, Tryd.ntmps12
    go_wp2_with fail
    refine (sin s 0 (a : Int) _).mono ?_
    rintro e w1 ⟨rfl, rfl⟩
    rw [unhide HS]
    go_wp2_with fail
    go_ret
    exact ⟨rfl, unhide HB⟩
  · have HS : R = false := by rw [unhide HR, stoB, ← unhide HA, decide_eq_false c1, Bool.false_and]
    subst HS
    go_enter Tryd.func12, Tryd.ntmps12
    go_wp2_with fail
    go_ret
    exact ⟨rfl, unhide HB⟩
end Go.Proofs.YtialpepklejejaaDoor
