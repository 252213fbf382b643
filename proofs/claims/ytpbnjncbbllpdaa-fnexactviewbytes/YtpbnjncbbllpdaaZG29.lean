/- Texts put together: InS CelS. -/
import Derived.Test.YtpbnjncbbllpdaaZG7
/- l01In, l03RuneOK: what the specification answers. -/
namespace Go.Proofs.Ytpbnjncbbllpdaa
open Go.ChangeShapes Go.WideShapes Go.ChangeAt Go.RowKit
set_option linter.unusedVariables false
theorem rune_parts (n : Int) : runeB n = (inB n 0 1114111 && !(inB n 55296 57343) && decide (32 ≤ n) && (n != 127)) := by
  unfold runeB inB; rw [Bool.eq_iff_iff]; simp; omega
set_option maxHeartbeats 400000 in
set_option maxRecDepth 100000 in
theorem sin (n a b : Int) (w : World) : Calls Try.prog 25 #[.int .i64 n, .int .i64 a, .int .i64 b] w fun e w' => e = .returned (.bool (inB n a b)) ∧ w' = w := by
  by_cases h : a ≤ n
  · by_cases h2 : n ≤ b
    · go_enter Try.func25, Try.ntmps25
      go_wp2_with fail
      go_ret
      exact ⟨ret_bool (b_true ⟨h, h2⟩), rfl⟩
    · go_enter Try.func25, Try.ntmps25
      go_wp2_with fail
      go_ret
      exact ⟨ret_bool (b_false (by omega)), rfl⟩
  · go_enter Try.func25, Try.ntmps25
    go_wp2_with fail
    go_ret
    exact ⟨ret_bool (b_false (by omega)), rfl⟩
set_option maxHeartbeats 400000 in
set_option maxRecDepth 100000 in
theorem sruneok (n : Int) (w : World) : Calls Try.prog 51 #[.int .i64 n] w fun e w' => e = .returned (.bool (inB n 0 1114111 && !(inB n 55296 57343))) ∧ w' = w := by
  cases h : inB n 0 1114111 <;> cases h2 : inB n 55296 57343
  all_goals
    go_enter Try.func51, Try.ntmps51
    go_wp2_with (go_at_call 25; refine (sin _ _ _ _).mono ?_; rintro e w2 ⟨rfl, hw⟩; subst w2; first | rw [h] | rw [h2])
    go_ret
    exact ⟨rfl, rfl⟩
end Go.Proofs.Ytpbnjncbbllpdaa

/- A right cell: what the specification answers. -/
namespace Go.Proofs.Ytpbnjncbbllpdaa
open Go.ChangeShapes Go.WideShapes Go.ChangeAt Go.RowKit
set_option linter.unusedVariables false
set_option maxHeartbeats 400000 in
set_option maxRecDepth 100000 in
theorem scell (x y : Int) (w : World) : Calls Try.prog 45 #[.agg #[.int .i64 x, .int .i64 y]] w fun e w' => e = .returned (.bool (runeB x && inB y 0 127)) ∧ Below w.heap.size w w' := by
  have HB := hide ((Below.refl w.heap.size w).alloc (Nat.le_refl _) (.cells #[.int .i64 x, .int .i64 y] 77))
  obtain ⟨r, hr⟩ : ∃ r, r = (inB x 0 1114111 && !(inB x 55296 57343)) := ⟨_, rfl⟩
  have HR := hide hr
  have hp := rune_parts x
  rw [← hr] at hp
  rw [hp]
  clear hr hp
  have A := fun w => (sruneok x w)
  rw [← unhide HR] at A
  have HA := hide A
  clear A
  cases r
  · go_enter Try.func45, Try.ntmps45
    go_wp2_with (go_at_call 51; refine (unhide HA _).mono ?_; rintro e w2 ⟨rfl, rfl⟩)
    go_ret
    exact ⟨rfl, unhide HB⟩
  · by_cases h1 : 32 ≤ x
    · by_cases h2 : x = 127
      · subst h2
        go_enter Try.func45, Try.ntmps45
        go_wp2_with (go_at_call 51; refine (unhide HA _).mono ?_; rintro e w2 ⟨rfl, rfl⟩)
        go_ret
        exact ⟨ret_bool (by simp), unhide HB⟩
      · have h3 : (x != 127) = true := by simpa using h2
        have h4 : decide (32 ≤ x) = true := decide_eq_true h1
        rw [h3, h4]
        clear h2
        cases h5 : inB y 0 127
        all_goals
          go_enter Try.func45, Try.ntmps45
          go_wp2_with (first | (go_at_call 51; refine (unhide HA _).mono ?_; rintro e w2 ⟨rfl, rfl⟩) | (go_at_call 25; refine (sin _ _ _ _).mono ?_; rintro e w2 ⟨rfl, rfl⟩; rw [h5]))
          go_ret
          exact ⟨rfl, unhide HB⟩
    · have h4 : decide (32 ≤ x) = false := decide_eq_false h1
      rw [h4]
      go_enter Try.func45, Try.ntmps45
      go_wp2_with (go_at_call 51; refine (unhide HA _).mono ?_; rintro e w2 ⟨rfl, rfl⟩)
      go_ret
      exact ⟨ret_bool (by simp), unhide HB⟩
end Go.Proofs.Ytpbnjncbbllpdaa
