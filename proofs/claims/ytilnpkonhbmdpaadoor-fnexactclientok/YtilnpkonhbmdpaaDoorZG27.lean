/- Texts put together: RuneI CelI SizeB WinI. -/
import Derived.Test.YtilnpkonhbmdpaaDoorZG2
import Derived.Test.YtilnpkonhbmdpaaDoorZG24
import Derived.Lib.SmallJoins
import Derived.Test.YtilnpkonhbmdpaaDoorZBase
/- titleOK, runeOK: what the program answers. -/
namespace Go.Proofs.YtilnpkonhbmdpaaDoor
open Go.ChangeShapes Go.WideShapes Go.ChangeAt Go.RowKit
set_option linter.unusedVariables false
theorem wrap32 (n : Int) (h0 : 32 ≤ n) (h1 : n ≤ 1114111) : IntKind.i32.wrap n = n := by
  simp only [IntKind.wrap, IntKind.signed, IntKind.bits]
  simp
  omega
set_option maxHeartbeats 400000 in
set_option maxRecDepth 100000 in
theorem irune (n : Int) (w : World) : Calls Tryd.prog 59 #[.int .i64 n] w fun e w' => e = .returned (.bool (runeB n)) ∧ w' = w := by
  by_cases h : 32 ≤ n
  · by_cases h2 : n ≤ 1114111
    · have hw := wrap32 n h h2
      by_cases h3 : n = 127
      · subst h3
        go_enter Tryd.func59, Tryd.ntmps59
        go_wp2_with fail
        go_ret
        exact ⟨ret_bool (b_false (by omega)), rfl⟩
      · have h3' : (n != 127) = true := by simpa using h3
        by_cases h4 : n < 55296
        · go_enter Tryd.func59, Tryd.ntmps59
          go_wp2
          go_ret
          exact ⟨ret_bool (b_true (by omega)), rfl⟩
        · by_cases h5 : n ≤ 57343
          · go_enter Tryd.func59, Tryd.ntmps59
            go_wp2
            go_ret
            exact ⟨ret_bool (b_false (by omega)), rfl⟩
          · go_enter Tryd.func59, Tryd.ntmps59
            go_wp2
            go_ret
            exact ⟨ret_bool (b_true (by omega)), rfl⟩
    · go_enter Tryd.func59, Tryd.ntmps59
      go_wp2_with fail
      go_ret
      exact ⟨ret_bool (b_false (by omega)), rfl⟩
  · go_enter Tryd.func59, Tryd.ntmps59
    go_wp2_with fail
    go_ret
    exact ⟨ret_bool (b_false (by omega)), rfl⟩
end Go.Proofs.YtilnpkonhbmdpaaDoor

/- A right cell: what the program answers. -/
namespace Go.Proofs.YtilnpkonhbmdpaaDoor
open Go.ChangeShapes Go.WideShapes Go.ChangeAt Go.RowKit
set_option linter.unusedVariables false
set_option maxHeartbeats 400000 in
set_option maxRecDepth 100000 in
theorem ilook (x : Int) (w : World) : Calls Tryd.prog 60 #[.int .i64 x] w fun e w' => e = .returned (.bool (inB x 0 127)) ∧ w' = w := by
  by_cases h : 0 ≤ x
  · by_cases h2 : x ≤ 127
    · go_enter Tryd.func60, Tryd.ntmps60
      go_wp2_with fail
      go_ret
      exact ⟨ret_bool (b_true ⟨h, h2⟩), rfl⟩
    · go_enter Tryd.func60, Tryd.ntmps60
      go_wp2_with fail
      go_ret
      exact ⟨ret_bool (b_false (by omega)), rfl⟩
  · go_enter Tryd.func60, Tryd.ntmps60
    go_wp2_with fail
    go_ret
    exact ⟨ret_bool (b_false (by omega)), rfl⟩
set_option maxHeartbeats 400000 in
set_option maxRecDepth 100000 in
theorem icellok (x y : Int) (R : Bool) (HR : Hid (R = cellB (x, y))) (w : World) : Calls Tryd.prog 47 #[.agg #[.int .i64 x, .int .i64 y]] w fun e w' => e = .returned (.bool R) ∧ Below w.heap.size w w' := by
  have HB := hide (Go.Joins.below_alloc1 w (.cells #[.int .i64 x, .int .i64 y] 70))
  have hR : R = (runeB x && inB y 0 127) := unhide HR
  clear HR
  cases h1 : runeB x
  · rw [h1] at hR
    obtain rfl : R = false := hR
    go_enter Tryd.func47, Tryd.ntmps47
    go_wp2_with (go_at_call 59; refine (irune x _).mono ?_; rintro e w2 ⟨rfl, rfl⟩; rw [h1])
    go_ret
    exact ⟨rfl, unhide HB⟩
  · rw [h1, Bool.true_and] at hR
    subst hR
    have H1 := hide h1
    obtain ⟨q, hq⟩ : ∃ q, q = inB y 0 127 := ⟨_, rfl⟩
    have HQ := hide hq
    rw [← hq]
    clear h1 hq
    go_enter Tryd.func47, Tryd.ntmps47
    go_wp2_with (first | (go_at_call 59; refine (irune x _).mono ?_; rintro e w2 ⟨rfl, rfl⟩; rw [unhide H1]) | (go_at_call 60; refine (ilook y _).mono ?_; rintro e w2 ⟨rfl, rfl⟩; rw [← unhide HQ]))
    go_ret
    exact ⟨rfl, unhide HB⟩
end Go.Proofs.YtilnpkonhbmdpaaDoor

/- sizeOK: a screen's size. -/
namespace Go.Proofs.YtilnpkonhbmdpaaDoor
open Go.ChangeShapes Go.WideShapes Go.ChangeAt Go.RowKit
def sizeB (w h : Int) : Bool := decide (2 ≤ w ∧ w ≤ 24 ∧ 2 ≤ h ∧ h ≤ 10)
set_option maxHeartbeats 400000 in
theorem isize (w0 h0 : Int) (w : World) : Calls Tryd.prog 26 #[.int .i64 w0, .int .i64 h0] w fun e w' => e = .returned (.bool (sizeB w0 h0)) ∧ w' = w := by
  have e : sizeB w0 h0 = (decide (2 ≤ w0) && (decide (w0 ≤ 24) && (decide (2 ≤ h0) && decide (h0 ≤ 10)))) := by unfold sizeB; simp only [Bool.decide_and]
  rw [e]
  clear e
  by_cases h1 : 2 ≤ w0
  · by_cases h2 : w0 ≤ 24
    · by_cases h3 : 2 ≤ h0
      · by_cases h4 : h0 ≤ 10
        all_goals
          go_enter Tryd.func26, Tryd.ntmps26
          go_wp2_with fail
          go_ret
          exact ⟨ret_bool (by simp [*] <;> omega), rfl⟩
      · go_enter Tryd.func26, Tryd.ntmps26
        go_wp2_with fail
        go_ret
        exact ⟨ret_bool (by simp [*] <;> omega), rfl⟩
    · go_enter Tryd.func26, Tryd.ntmps26
      go_wp2_with fail
      go_ret
      exact ⟨ret_bool (by simp [*] <;> omega), rfl⟩
  · go_enter Tryd.func26, Tryd.ntmps26
    go_wp2_with fail
    go_ret
    exact ⟨ret_bool (by simp [*] <;> omega), rfl⟩
end Go.Proofs.YtilnpkonhbmdpaaDoor

/- within: what the program answers. -/
namespace Go.Proofs.YtilnpkonhbmdpaaDoor
open Go.ChangeShapes Go.WideShapes Go.ChangeAt Go.RowKit
set_option linter.unusedVariables false
set_option maxHeartbeats 400000 in
theorem iwi (x a b : Int) (R : Bool) (HR : Hid (R = inB x a b)) (w : World) : Calls Tryd.prog 35 #[.int .i64 x, .int .i64 a, .int .i64 b] w fun e w' => e = .returned (.bool R) ∧ w' = w := by
  by_cases h1 : a ≤ x
  · by_cases h2 : x ≤ b
    all_goals
      go_enter Tryd.func35, Tryd.ntmps35
      go_wp2_with fail
      go_ret
      exact ⟨ret_bool (by rw [unhide HR]; unfold inB; rw [Bool.eq_iff_iff]; simp <;> omega), rfl⟩
  · go_enter Tryd.func35, Tryd.ntmps35
    go_wp2_with fail
    go_ret
    exact ⟨ret_bool (by rw [unhide HR]; unfold inB; rw [Bool.eq_iff_iff]; simp <;> omega), rfl⟩
end Go.Proofs.YtilnpkonhbmdpaaDoor
