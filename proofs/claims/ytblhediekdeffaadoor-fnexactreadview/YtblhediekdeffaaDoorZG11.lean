/- Texts put together: RuneI CelI WinI. -/
import Derived.Test.YtblhediekdeffaaDoorZG5
import Derived.Lib.SmallJoins
/- titleOK, runeOK: what the program answers. -/
namespace Go.Proofs.YtblhediekdeffaaDoor
open Go.ChangeShapes Go.WideShapes Go.ChangeAt Go.RowKit
set_option linter.unusedVariables false
theorem wrap32 (n : Int) (h0 : 32 ≤ n) (h1 : n ≤ 1114111) : IntKind.i32.wrap n = n := by
  simp only [IntKind.wrap, IntKind.signed, IntKind.bits]
  simp
  omega
set_option maxHeartbeats 400000 in
set_option maxRecDepth 100000 in
theorem irune (n : Int) (w : World) : Calls Tryd.prog 65 #[.int .i64 n] w fun e w' => e = .returned (.bool (runeB n)) ∧ w' = w := by
  by_cases h : 32 ≤ n
  · by_cases h2 : n ≤ 1114111
    · have hw := wrap32 n h h2
      by_cases h3 : n = 127
      · subst h3
        go_enter Tryd.func65, Tryd.ntmps65
        go_wp2_with fail
        go_ret
        exact ⟨ret_bool (b_false (by omega)), rfl⟩
      · have h3' : (n != 127) = true := by simpa using h3
        by_cases h4 : n < 55296
        · go_enter Tryd.func65, Tryd.ntmps65
          go_wp2
          go_ret
          exact ⟨ret_bool (b_true (by omega)), rfl⟩
        · by_cases h5 : n ≤ 57343
          · go_enter Tryd.func65, Tryd.ntmps65
            go_wp2
            go_ret
            exact ⟨ret_bool (b_false (by omega)), rfl⟩
          · go_enter Tryd.func65, Tryd.ntmps65
            go_wp2
            go_ret
            exact ⟨ret_bool (b_true (by omega)), rfl⟩
    · go_enter Tryd.func65, Tryd.ntmps65
      go_wp2_with fail
      go_ret
      exact ⟨ret_bool (b_false (by omega)), rfl⟩
  · go_enter Tryd.func65, Tryd.ntmps65
    go_wp2_with fail
    go_ret
    exact ⟨ret_bool (b_false (by omega)), rfl⟩
end Go.Proofs.YtblhediekdeffaaDoor

/- A right cell: what the program answers. -/
namespace Go.Proofs.YtblhediekdeffaaDoor
open Go.ChangeShapes Go.WideShapes Go.ChangeAt Go.RowKit
set_option linter.unusedVariables false
set_option maxHeartbeats 400000 in
set_option maxRecDepth 100000 in
theorem ilook (x : Int) (w : World) : Calls Tryd.prog 66 #[.int .i64 x] w fun e w' => e = .returned (.bool (inB x 0 127)) ∧ w' = w := by
  by_cases h : 0 ≤ x
  · by_cases h2 : x ≤ 127
    · go_enter Tryd.func66, Tryd.ntmps66
      go_wp2_with fail
      go_ret
      exact ⟨ret_bool (b_true ⟨h, h2⟩), rfl⟩
    · go_enter Tryd.func66, Tryd.ntmps66
      go_wp2_with fail
      go_ret
      exact ⟨ret_bool (b_false (by omega)), rfl⟩
  · go_enter Tryd.func66, Tryd.ntmps66
    go_wp2_with fail
    go_ret
    exact ⟨ret_bool (b_false (by omega)), rfl⟩
set_option maxHeartbeats 400000 in
set_option maxRecDepth 100000 in
theorem icellok (x y : Int) (R : Bool) (HR : Hid (R = cellB (x, y))) (w : World) : Calls Tryd.prog 60 #[.agg #[.int .i64 x, .int .i64 y]] w fun e w' => e = .returned (.bool R) ∧ Below w.heap.size w w' := by
  have HB := hide (Go.Joins.below_alloc1 w (.cells #[.int .i64 x, .int .i64 y] 92))
  have hR : R = (runeB x && inB y 0 127) := unhide HR
  clear HR
  cases h1 : runeB x
  · rw [h1] at hR
    obtain rfl : R = false := hR
    go_enter Tryd.func60, Tryd.ntmps60
    go_wp2_with (go_at_call 65; refine (irune x _).mono ?_; rintro e w2 ⟨rfl, rfl⟩; rw [h1])
    go_ret
    exact ⟨rfl, unhide HB⟩
  · rw [h1, Bool.true_and] at hR
    subst hR
    have H1 := hide h1
    obtain ⟨q, hq⟩ : ∃ q, q = inB y 0 127 := ⟨_, rfl⟩
    have HQ := hide hq
    rw [← hq]
    clear h1 hq
    go_enter Tryd.func60, Tryd.ntmps60
    go_wp2_with (first | (go_at_call 65; refine (irune x _).mono ?_; rintro e w2 ⟨rfl, rfl⟩; rw [unhide H1]) | (go_at_call 66; refine (ilook y _).mono ?_; rintro e w2 ⟨rfl, rfl⟩; rw [← unhide HQ]))
    go_ret
    exact ⟨rfl, unhide HB⟩
end Go.Proofs.YtblhediekdeffaaDoor

/- within: what the program answers. -/
namespace Go.Proofs.YtblhediekdeffaaDoor
open Go.ChangeShapes Go.WideShapes Go.ChangeAt Go.RowKit
set_option linter.unusedVariables false
set_option maxHeartbeats 400000 in
theorem iwi (x a b : Int) (R : Bool) (HR : Hid (R = inB x a b)) (w : World) : Calls Tryd.prog 48 #[.int .i64 x, .int .i64 a, .int .i64 b] w fun e w' => e = .returned (.bool R) ∧ w' = w := by
  by_cases h1 : a ≤ x
  · by_cases h2 : x ≤ b
    all_goals
      go_enter Tryd.func48, Tryd.ntmps48
      go_wp2_with fail
      go_ret
      exact ⟨ret_bool (by rw [unhide HR]; unfold inB; rw [Bool.eq_iff_iff]; simp <;> omega), rfl⟩
  · go_enter Tryd.func48, Tryd.ntmps48
    go_wp2_with fail
    go_ret
    exact ⟨ret_bool (by rw [unhide HR]; unfold inB; rw [Bool.eq_iff_iff]; simp <;> omega), rfl⟩
end Go.Proofs.YtblhediekdeffaaDoor
