/- Stores: what the program answers. -/
import Derived.Test.YtgbbmonkhakjnaaDoorStoM
import Derived.Test.YtgbbmonkhakjnaaDoorWinI
import Derived.Test.YtgbbmonkhakjnaaDoorBf
import Derived.Lib.SmallJoins
namespace Go.Proofs.YtgbbmonkhakjnaaDoor
open Go.ChangeShapes Go.WideShapes Go.ChangeAt Go.RowKit
set_option linter.unusedVariables false
set_option maxHeartbeats 1000000 in
set_option maxRecDepth 100000 in
theorem istoreok (d : ByteArray) (s : Int) (hd : Hid (d.size ≤ maxLen)) (R : Bool) (HR : Hid (R = stoB d s)) (w : World) : Calls Tryd.prog 15 #[.agg #[.string d, .int .i64 s]] w fun e w' => e = .returned (.bool R) ∧ Below w.heap.size w w' := by
  have HB := hide (Go.Joins.below_alloc1 w (.cells #[.string d, .int .i64 s] 27))
  have h1 := unhide hd
  unfold maxLen at h1
  obtain ⟨a, ha⟩ : ∃ a : Nat, a = d.size := ⟨_, rfl⟩
  have HA := hide ha
  rw [← ha] at h1
  have la : (d.size : Int) = (a : Int) := by rw [ha]
  clear ha
  by_cases c1 : a ≤ 60000
  · have HS : Hid (R = inB s 0 (a : Int)) := by
      show R = _
      rw [unhide HR, stoB, ← unhide HA, decide_eq_true c1, Bool.true_and]
    go_enter Tryd.func15, Tryd.ntmps15
    go_wp2_with fail
    refine (iwi s 0 (a : Int) R HS _).mono ?_
    rintro e w1 ⟨rfl, rfl⟩
    go_wp2_with fail
    go_ret
    exact ⟨rfl, unhide HB⟩
  · have HS : R = false := by rw [unhide HR, stoB, ← unhide HA, decide_eq_false c1, Bool.false_and]
    subst HS
    go_enter Tryd.func15, Tryd.ntmps15
    go_wp2_with fail
    go_ret
    exact ⟨rfl, unhide HB⟩
end Go.Proofs.YtgbbmonkhakjnaaDoor
