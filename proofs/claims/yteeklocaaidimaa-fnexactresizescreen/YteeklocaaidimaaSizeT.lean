/- l04Size: a screen's size, what the specification answers. -/
import Derived.Test.YteeklocaaidimaaSizeB
import Derived.Test.YteeklocaaidimaaInS
namespace Go.Proofs.Yteeklocaaidimaa
open Go.ChangeShapes Go.WideShapes Go.ChangeAt Go.RowKit
theorem size_in (a b : Int) : sizeB a b = (inB a 2 24 && inB b 2 10) := by
  unfold sizeB inB; simp only [Bool.decide_and]; cases decide (2 ≤ a) <;> cases decide (a ≤ 24) <;> simp
set_option maxHeartbeats 400000 in
theorem ssize (w0 h0 : Int) (w : World) : Calls Try.prog 14 #[.int .i64 w0, .int .i64 h0] w fun e w' => e = .returned (.bool (sizeB w0 h0)) ∧ w' = w := by
  rw [size_in]
  cases h1 : inB w0 2 24 <;> cases h2 : inB h0 2 10
  all_goals
    go_enter Try.func14, Try.ntmps14
    go_wp2_with (go_at_call 28; refine (sin _ _ _ _).mono ?_; rintro e w1 ⟨rfl, rfl⟩; first | rw [h1] | rw [h2])
    go_ret
    exact ⟨rfl, rfl⟩
end Go.Proofs.Yteeklocaaidimaa
