/- The leaves of a name, a letter and a digit: what each of the four small functions answers, at every byte. -/
import Derived.Test.YthcibojpeamocaaRows
import Derived.WalkKit
import Derived.ProofKit
import Derived.OpenShut
import Derived.ShutString
namespace Go.Proofs.Ythcibojpeamocaa
open Go.ChangeShapes Go.WideShapes Go.ChangeAt Go.RowKit
theorem hide {p : Prop} (h : p) : Hid p := h
theorem unhide {p : Prop} (h : Hid p) : p := h

theorem ret_bool {a b : Bool} (h : a = b) : Ending.returned (.bool a) = .returned (.bool b) := by rw [h]
def digB (n : Int) : Bool := decide (48 ≤ n ∧ n ≤ 57)
def letB (n : Int) : Bool := decide ((97 ≤ n ∧ n ≤ 122) ∨ (65 ≤ n ∧ n ≤ 90) ∨ n = 95)

set_option maxHeartbeats 400000 in
theorem digit10 (n : Int) (h0 : 0 ≤ n) (h1 : n ≤ 255) (w : World) :
    Calls Try.prog 10 #[.int .u8 n] w fun e w' => e = .returned (.bool (digB n)) ∧ w' = w := by
  by_cases a : 48 ≤ n
  · by_cases b : n ≤ 57
    all_goals
      have HV := hide (show digB n = decide (48 ≤ n ∧ n ≤ 57) from rfl)
      go_enter Try.func10, Try.ntmps10
      go_wp2
      go_ret
      rw [unhide HV]
      exact ⟨ret_bool (by rw [Bool.eq_iff_iff]; simp <;> omega), rfl⟩
  · have HV := hide (show digB n = decide (48 ≤ n ∧ n ≤ 57) from rfl)
    go_enter Try.func10, Try.ntmps10
    go_wp2
    go_ret
    rw [unhide HV]
    exact ⟨ret_bool (by rw [Bool.eq_iff_iff]; simp <;> omega), rfl⟩

set_option maxHeartbeats 400000 in
theorem digit15 (n : Int) (h0 : 0 ≤ n) (h1 : n ≤ 255) (w : World) :
    Calls Try.prog 15 #[.int .u8 n] w fun e w' => e = .returned (.bool (digB n)) ∧ w' = w := by
  by_cases a : 48 ≤ n
  · by_cases b : n ≤ 57
    all_goals
      have HV := hide (show digB n = decide (48 ≤ n ∧ n ≤ 57) from rfl)
      go_enter Try.func15, Try.ntmps15
      go_wp2
      go_ret
      rw [unhide HV]
      exact ⟨ret_bool (by rw [Bool.eq_iff_iff]; simp <;> omega), rfl⟩
  · have HV := hide (show digB n = decide (48 ≤ n ∧ n ≤ 57) from rfl)
    go_enter Try.func15, Try.ntmps15
    go_wp2
    go_ret
    rw [unhide HV]
    exact ⟨ret_bool (by rw [Bool.eq_iff_iff]; simp <;> omega), rfl⟩

set_option maxHeartbeats 400000 in
theorem letter11 (n : Int) (h0 : 0 ≤ n) (h1 : n ≤ 255) (w : World) :
    Calls Try.prog 11 #[.int .u8 n] w fun e w' => e = .returned (.bool (letB n)) ∧ w' = w := by
  have hc : n < 65 ∨ (65 ≤ n ∧ n ≤ 90) ∨ (90 < n ∧ n < 95) ∨ (95 < n ∧ n < 97) ∨ n = 95 ∨ (97 ≤ n ∧ n ≤ 122) ∨ 122 < n := by omega
  have HV := hide (show letB n = decide ((97 ≤ n ∧ n ≤ 122) ∨ (65 ≤ n ∧ n ≤ 90) ∨ n = 95) from rfl)
  rcases hc with c | ⟨c, d⟩ | ⟨c, d⟩ | ⟨c, d⟩ | c | ⟨c, d⟩ | c
  all_goals
    try subst c
    go_enter Try.func11, Try.ntmps11
    go_wp2
    go_ret
    rw [unhide HV]
    exact ⟨ret_bool (by rw [Bool.eq_iff_iff]; simp <;> omega), rfl⟩

set_option maxHeartbeats 400000 in
theorem letter14 (n : Int) (h0 : 0 ≤ n) (h1 : n ≤ 255) (w : World) :
    Calls Try.prog 14 #[.int .u8 n] w fun e w' => e = .returned (.bool (letB n)) ∧ w' = w := by
  have hc : n < 65 ∨ (65 ≤ n ∧ n ≤ 90) ∨ (90 < n ∧ n < 95) ∨ (95 < n ∧ n < 97) ∨ n = 95 ∨ (97 ≤ n ∧ n ≤ 122) ∨ 122 < n := by omega
  have HV := hide (show letB n = decide ((97 ≤ n ∧ n ≤ 122) ∨ (65 ≤ n ∧ n ≤ 90) ∨ n = 95) from rfl)
  rcases hc with c | ⟨c, d⟩ | ⟨c, d⟩ | ⟨c, d⟩ | c | ⟨c, d⟩ | c
  all_goals
    try subst c
    go_enter Try.func14, Try.ntmps14
    go_wp2
    go_ret
    rw [unhide HV]
    exact ⟨ret_bool (by rw [Bool.eq_iff_iff]; simp <;> omega), rfl⟩
end Go.Proofs.Ythcibojpeamocaa
