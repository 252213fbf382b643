/- Tokens: what the program answers. -/
import Derived.Test.YtilnpkonhbmdpaaDoorZG31
import Derived.Test.YtilnpkonhbmdpaaDoorZHmacI
import Derived.Test.YtilnpkonhbmdpaaDoorZG33
import Derived.Test.YtilnpkonhbmdpaaDoorZG25
import Derived.Lib.SmallJoins
namespace Go.Proofs.YtilnpkonhbmdpaaDoor
open Go.ChangeShapes Go.WideShapes Go.ChangeAt Go.RowKit
set_option linter.unusedVariables false
theorem inumT (x : Int) (R : Bool) (HR : Hid (R = inB x 0 60)) (w : World) : Calls Tryd.prog 25 #[.int .i64 x] w fun e w' => e = .returned (.bool R) ∧ w' = w := by
  go_enter Tryd.func25, Tryd.ntmps25
  go_wp2_with (go_at_call 35; refine (iwi x 0 60 R HR _).mono ?_; rintro e w2 ⟨rfl, rfl⟩)
  go_ret
  exact ⟨rfl, rfl⟩
theorem num_m1 (n : Int) : inB n (-1) 60 = (decide (n = -1) || inB n 0 60) := by
  unfold inB; rw [Bool.eq_iff_iff]; simp; omega
set_option maxHeartbeats 1000000 in
set_option maxRecDepth 100000 in
theorem iclaimok (c : Int) (win : ByteArray) (n : Int) (HS : Hid (win.size ≤ 1048576)) (R : Bool) (HR : Hid (R = tokB c win n)) (w : World) :
    Calls Tryd.prog 49 #[.agg #[.int .i64 c, .string win, .int .i64 n]] w fun e w' => e = .returned (.bool R) ∧ Below w.heap.size w w' := by
  have HB := hide (Go.Joins.below_alloc1 w (.cells #[.int .i64 c, .string win, .int .i64 n] 64))
  obtain ⟨A, hA⟩ : ∃ A, A = inB c 0 200 := ⟨_, rfl⟩
  obtain ⟨B, hB⟩ : ∃ B, B = wnB win := ⟨_, rfl⟩
  obtain ⟨C, hC⟩ : ∃ C, C = inB n 0 60 := ⟨_, rfl⟩
  have HRR : Hid (R = (A && (B && (decide (n = -1) || C)))) := by show _ = _; rw [unhide HR, hA, hB, hC, ← num_m1]; rfl
  have HA := hide hA
  have HBB := hide hB
  have HC := hide hC
  clear hA hB hC HR
  by_cases hn : n = -1
  · have hn1 : (n == -1) = true := by simp [hn]
    have hn2 : Hid (decide (n = -1) = true) := by show _ = _; simp [hn]
    clear hn
    cases A <;> cases B
    all_goals
      go_enter Tryd.func49, Tryd.ntmps49
      go_wp2_with (first
        | (go_at_call 61; refine (icl c _ HA _).mono ?_; rintro e w2 ⟨rfl, rfl⟩)
        | (go_at_call 62; refine (iwn win HS _ HBB _).mono ?_; rintro e w2 ⟨rfl, rfl⟩))
      go_ret
      exact ⟨ret_bool (by rw [unhide HRR, unhide hn2]; rfl), unhide HB⟩
  · have hn1 : (n == -1) = false := by simp [hn]
    have hn2 : Hid (decide (n = -1) = false) := by show _ = _; simp [hn]
    clear hn
    cases A <;> cases B
    all_goals
      go_enter Tryd.func49, Tryd.ntmps49
      go_wp2_with (first
        | (go_at_call 61; refine (icl c _ HA _).mono ?_; rintro e w2 ⟨rfl, rfl⟩)
        | (go_at_call 62; refine (iwn win HS _ HBB _).mono ?_; rintro e w2 ⟨rfl, rfl⟩)
        | (go_at_call 25; refine (inumT n _ HC _).mono ?_; rintro e w2 ⟨rfl, rfl⟩))
      go_ret
      exact ⟨ret_bool (by rw [unhide HRR, unhide hn2]; first | rfl | (cases C <;> rfl)), unhide HB⟩
end Go.Proofs.YtilnpkonhbmdpaaDoor
