/- Texts put together: WinI WnI. -/
import Derived.Test.YtcgklaplofnemaaDoorZG2
/- within: what the program answers. -/
namespace Go.Proofs.YtcgklaplofnemaaDoor
open Go.ChangeShapes Go.WideShapes Go.ChangeAt Go.RowKit
set_option linter.unusedVariables false
set_option maxHeartbeats 400000 in
theorem iwi (x a b : Int) (R : Bool) (HR : Hid (R = inB x a b)) (w : World) : Calls Tryd.prog 47 #[.int .i64 x, .int .i64 a, .int .i64 b] w fun e w' => e = .returned (.bool R) ∧ w' = w := by
  by_cases h1 : a ≤ x
  · by_cases h2 : x ≤ b
    all_goals
      go_enter Tryd.func47, Tryd.ntmps47
      go_wp2_with fail
      go_ret
      exact ⟨ret_bool (by rw [unhide HR]; unfold inB; rw [Bool.eq_iff_iff]; simp <;> omega), rfl⟩
  · go_enter Tryd.func47, Tryd.ntmps47
    go_wp2_with fail
    go_ret
    exact ⟨ret_bool (by rw [unhide HR]; unfold inB; rw [Bool.eq_iff_iff]; simp <;> omega), rfl⟩
end Go.Proofs.YtcgklaplofnemaaDoor

/- A client's number, a window's name: what the program answers. -/
namespace Go.Proofs.YtcgklaplofnemaaDoor
open Go.ChangeShapes Go.WideShapes Go.ChangeAt Go.RowKit
set_option linter.unusedVariables false
theorem icl (x : Int) (R : Bool) (HR : Hid (R = inB x 0 200)) (w : World) : Calls Tryd.prog 39 #[.int .i64 x] w fun e w' => e = .returned (.bool R) ∧ w' = w := by
  go_enter Tryd.func39, Tryd.ntmps39
  go_wp2_with fail
  refine (iwi x 0 200 R HR _).mono ?_
  rintro e w1 ⟨rfl, rfl⟩
  go_wp2_with fail
  go_ret
  exact ⟨rfl, rfl⟩
set_option maxHeartbeats 400000 in
theorem iwn (s : ByteArray) (HS : Hid (s.size ≤ 1048576)) (R : Bool) (HR : Hid (R = wnB s)) (w : World) : Calls Tryd.prog 40 #[.string s] w fun e w' => e = .returned (.bool R) ∧ w' = w := by
  have hs := unhide HS
  by_cases h1 : s.size ≤ 12
  · have hR : R = nameB s := by rw [unhide HR]; unfold wnB; rw [decide_eq_true h1]; rfl
    have h2 : (s.size : Int) ≤ 12 := by omega
    clear HR hs
    go_enter Tryd.func40, Tryd.ntmps40
    go_wp2_with fail
    refine (name6 s (unhide HS) _).mono ?_
    rintro e w1 ⟨rfl, rfl⟩
    go_wp2_with fail
    go_ret
    exact ⟨ret_bool hR.symm, rfl⟩
  · have hR : R = false := by rw [unhide HR]; unfold wnB; rw [decide_eq_false h1]; rfl
    have h2 : ¬ (s.size : Int) ≤ 12 := by omega
    clear HR hs
    subst hR
    go_enter Tryd.func40, Tryd.ntmps40
    go_wp2_with fail
    go_ret
    exact ⟨rfl, rfl⟩
end Go.Proofs.YtcgklaplofnemaaDoor
