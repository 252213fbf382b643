/- l01In, l03RuneOK: what the specification answers. -/
import Derived.Test.YthbkcijkokaoeaaInM
namespace Go.Proofs.Ythbkcijkokaoeaa
open Go.ChangeShapes Go.WideShapes Go.ChangeAt Go.RowKit
set_option linter.unusedVariables false
theorem rune_parts (n : Int) : runeB n = (inB n 0 1114111 && !(inB n 55296 57343) && decide (32 ≤ n) && (n != 127)) := by
  unfold runeB inB; rw [Bool.eq_iff_iff]; simp; omega
theorem title_long {t : ByteArray} (h : ¬ t.size ≤ 40) : titleB t.data.toList = false := by
  unfold titleB; rw [text_len, decide_eq_false h]; rfl
set_option maxHeartbeats 400000 in
set_option maxRecDepth 100000 in
theorem sin (n a b : Int) (w : World) : Calls Try.prog 25 #[.int .i64 n, .int .i64 a, .int .i64 b] w fun e w' => e = .returned (.bool (inB n a b)) ∧ w' = w := by
  by_cases h : a ≤ n
  · by_cases h2 : n ≤ b
    · go_enter Try.func25, Try.ntmps25
      go_wp2_with fail
      go_ret
      exact ⟨ret_bool (b_true ⟨h, h2⟩), rfl⟩
    · go_enter Try.func25, Try.ntmps25
      go_wp2_with fail
      go_ret
      exact ⟨ret_bool (b_false (by omega)), rfl⟩
  · go_enter Try.func25, Try.ntmps25
    go_wp2_with fail
    go_ret
    exact ⟨ret_bool (b_false (by omega)), rfl⟩
end Go.Proofs.Ythbkcijkokaoeaa
