/- Texts put together: CelI WinI. -/
import Derived.Test.YtfibbhggphmebaaZG7
import Derived.Test.YtfibbhggphmebaaZRuneI
import Derived.Lib.SmallJoins
/- A right cell: what the program answers. -/
namespace Go.Proofs.Ytfibbhggphmebaa
open Go.ChangeShapes Go.WideShapes Go.ChangeAt Go.RowKit
set_option linter.unusedVariables false
set_option maxHeartbeats 400000 in
set_option maxRecDepth 100000 in
theorem ilook (x : Int) (w : World) : Calls Try.prog 59 #[.int .i64 x] w fun e w' => e = .returned (.bool (inB x 0 127)) ∧ w' = w := by
  by_cases h : 0 ≤ x
  · by_cases h2 : x ≤ 127
    · go_enter Try.func59, Try.ntmps59
      go_wp2_with fail
      go_ret
      exact ⟨ret_bool (b_true ⟨h, h2⟩), rfl⟩
    · go_enter Try.func59, Try.ntmps59
      go_wp2_with fail
      go_ret
      exact ⟨ret_bool (b_false (by omega)), rfl⟩
  · go_enter Try.func59, Try.ntmps59
    go_wp2_with fail
    go_ret
    exact ⟨ret_bool (b_false (by omega)), rfl⟩
set_option maxHeartbeats 400000 in
set_option maxRecDepth 100000 in
theorem icellok (x y : Int) (R : Bool) (HR : Hid (R = cellB (x, y))) (w : World) : Calls Try.prog 55 #[.agg #[.int .i64 x, .int .i64 y]] w fun e w' => e = .returned (.bool R) ∧ Below w.heap.size w w' := by
  have HB := hide (Go.Joins.below_alloc1 w (.cells #[.int .i64 x, .int .i64 y] 78))
  have hR : R = (runeB x && inB y 0 127) := unhide HR
  clear HR
  cases h1 : runeB x
  · rw [h1] at hR
    obtain rfl : R = false := hR
    go_enter Try.func55, Try.ntmps55
    go_wp2_with (go_at_call 58; refine (irune x _).mono ?_; rintro e w2 ⟨rfl, rfl⟩; rw [h1])
    go_ret
    exact ⟨rfl, unhide HB⟩
  · rw [h1, Bool.true_and] at hR
    subst hR
    have H1 := hide h1
    obtain ⟨q, hq⟩ : ∃ q, q = inB y 0 127 := ⟨_, rfl⟩
    have HQ := hide hq
    rw [← hq]
    clear h1 hq
    go_enter Try.func55, Try.ntmps55
    go_wp2_with (first | (go_at_call 58; refine (irune x _).mono ?_; rintro e w2 ⟨rfl, rfl⟩; rw [unhide H1]) | (go_at_call 59; refine (ilook y _).mono ?_; rintro e w2 ⟨rfl, rfl⟩; rw [← unhide HQ]))
    go_ret
    exact ⟨rfl, unhide HB⟩
end Go.Proofs.Ytfibbhggphmebaa

/- within: what the program answers. -/
namespace Go.Proofs.Ytfibbhggphmebaa
open Go.ChangeShapes Go.WideShapes Go.ChangeAt Go.RowKit
set_option linter.unusedVariables false
set_option maxHeartbeats 400000 in
theorem iwi (x a b : Int) (R : Bool) (HR : Hid (R = inB x a b)) (w : World) : Calls Try.prog 46 #[.int .i64 x, .int .i64 a, .int .i64 b] w fun e w' => e = .returned (.bool R) ∧ w' = w := by
  by_cases h1 : a ≤ x
  · by_cases h2 : x ≤ b
    all_goals
      go_enter Try.func46, Try.ntmps46
      go_wp2_with fail
      go_ret
      exact ⟨ret_bool (by rw [unhide HR]; unfold inB; rw [Bool.eq_iff_iff]; simp <;> omega), rfl⟩
  · go_enter Try.func46, Try.ntmps46
    go_wp2_with fail
    go_ret
    exact ⟨ret_bool (by rw [unhide HR]; unfold inB; rw [Bool.eq_iff_iff]; simp <;> omega), rfl⟩
end Go.Proofs.Ytfibbhggphmebaa
