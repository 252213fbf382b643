/- sizeOK: a screen's size. -/
import Derived.Test.YtgnecacoehedkaaDoorZG0
namespace Go.Proofs.YtgnecacoehedkaaDoor
open Go.ChangeShapes Go.WideShapes Go.ChangeAt Go.RowKit
def sizeB (w h : Int) : Bool := decide (2 ≤ w ∧ w ≤ 24 ∧ 2 ≤ h ∧ h ≤ 10)
set_option maxHeartbeats 400000 in
theorem isize (w0 h0 : Int) (w : World) : Calls Tryd.prog 36 #[.int .i64 w0, .int .i64 h0] w fun e w' => e = .returned (.bool (sizeB w0 h0)) ∧ w' = w := by
 have e : sizeB w0 h0 = (decide (2 ≤ w0) && (decide (w0 ≤ 24) && (decide (2 ≤ h0) && decide (h0 ≤ 10)))) := by unfold sizeB; simp only [Bool.decide_and]
 rw [e]
 clear e
 by_cases h1 : 2 ≤ w0
 ·by_cases h2 : w0 ≤ 24
  ·by_cases h3 : 2 ≤ h0
   ·by_cases h4 : h0 ≤ 10
    all_goals
     go_enter Tryd.func36, Tryd.ntmps36
     go_wp2_with fail
     go_ret
     exact ⟨ret_bool (by simp [*] <;> omega), rfl⟩
   ·go_enter Tryd.func36, Tryd.ntmps36
    go_wp2_with fail
    go_ret
    exact ⟨ret_bool (by simp [*] <;> omega), rfl⟩
  ·go_enter Tryd.func36, Tryd.ntmps36
   go_wp2_with fail
   go_ret
   exact ⟨ret_bool (by simp [*] <;> omega), rfl⟩
 ·go_enter Tryd.func36, Tryd.ntmps36
  go_wp2_with fail
  go_ret
  exact ⟨ret_bool (by simp [*] <;> omega), rfl⟩
end Go.Proofs.YtgnecacoehedkaaDoor
