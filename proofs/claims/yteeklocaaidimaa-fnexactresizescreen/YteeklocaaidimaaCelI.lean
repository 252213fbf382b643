/- A right cell: what the program answers. -/
import Derived.Test.YteeklocaaidimaaCelM
import Derived.Test.YteeklocaaidimaaRuneI
import Derived.Lib.SmallJoins
namespace Go.Proofs.Yteeklocaaidimaa
open Go.ChangeShapes Go.WideShapes Go.ChangeAt Go.RowKit
set_option linter.unusedVariables false
set_option maxHeartbeats 400000 in
set_option maxRecDepth 100000 in
theorem ilook (x : Int) (w : World) : Calls Try.prog 34 #[.int .i64 x] w fun e w' => e = .returned (.bool (inB x 0 127)) ∧ w' = w := by
  by_cases h : 0 ≤ x
  · by_cases h2 : x ≤ 127
    · go_enter Try.func34, Try.ntmps34
      go_wp2_with fail
      go_ret
      exact ⟨ret_bool (b_true ⟨h, h2⟩), rfl⟩
    · go_enter Try.func34, Try.ntmps34
      go_wp2_with fail
      go_ret
      exact ⟨ret_bool (b_false (by omega)), rfl⟩
  · go_enter Try.func34, Try.ntmps34
    go_wp2_with fail
    go_ret
    exact ⟨ret_bool (b_false (by omega)), rfl⟩
set_option maxHeartbeats 400000 in
set_option maxRecDepth 100000 in
theorem icellok (x y : Int) (R : Bool) (HR : Hid (R = cellB (x, y))) (w : World) : Calls Try.prog 44 #[.agg #[.int .i64 x, .int .i64 y]] w fun e w' => e = .returned (.bool R) ∧ Below w.heap.size w w' := by
  have HB := hide (Go.Joins.below_alloc1 w (.cells #[.int .i64 x, .int .i64 y] 51))
  have hR : R = (runeB x && inB y 0 127) := unhide HR
  clear HR
  cases h1 : runeB x
  · rw [h1] at hR
    obtain rfl : R = false := hR
    go_enter Try.func44, Try.ntmps44
    go_wp2_with (go_at_call 45; refine (irune x _).mono ?_; rintro e w2 ⟨rfl, rfl⟩; rw [h1])
    go_ret
    exact ⟨rfl, unhide HB⟩
  · rw [h1, Bool.true_and] at hR
    subst hR
    have H1 := hide h1
    obtain ⟨q, hq⟩ : ∃ q, q = inB y 0 127 := ⟨_, rfl⟩
    have HQ := hide hq
    rw [← hq]
    clear h1 hq
    go_enter Try.func44, Try.ntmps44
    go_wp2_with (first | (go_at_call 45; refine (irune x _).mono ?_; rintro e w2 ⟨rfl, rfl⟩; rw [unhide H1]) | (go_at_call 34; refine (ilook y _).mono ?_; rintro e w2 ⟨rfl, rfl⟩; rw [← unhide HQ]))
    go_ret
    exact ⟨rfl, unhide HB⟩
end Go.Proofs.Yteeklocaaidimaa
