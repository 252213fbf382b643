/- titleOK, runeOK: what the program answers. -/
import Derived.Test.YtfibbhggphmebaaZG7
namespace Go.Proofs.Ytfibbhggphmebaa
open Go.ChangeShapes Go.WideShapes Go.ChangeAt Go.RowKit
set_option linter.unusedVariables false
theorem wrap32 (n : Int) (h0 : 32 ≤ n) (h1 : n ≤ 1114111) : IntKind.i32.wrap n = n := by
  simp only [IntKind.wrap, IntKind.signed, IntKind.bits]
  simp
  omega
set_option maxHeartbeats 400000 in
set_option maxRecDepth 100000 in
theorem irune (n : Int) (w : World) : Calls Try.prog 58 #[.int .i64 n] w fun e w' => e = .returned (.bool (runeB n)) ∧ w' = w := by
  by_cases h : 32 ≤ n
  · by_cases h2 : n ≤ 1114111
    · have hw := wrap32 n h h2
      by_cases h3 : n = 127
      · subst h3
        go_enter Try.func58, Try.ntmps58
        go_wp2_with fail
        go_ret
        exact ⟨ret_bool (b_false (by omega)), rfl⟩
      · have h3' : (n != 127) = true := by simpa using h3
        by_cases h4 : n < 55296
        · go_enter Try.func58, Try.ntmps58
          go_wp2
          go_ret
          exact ⟨ret_bool (b_true (by omega)), rfl⟩
        · by_cases h5 : n ≤ 57343
          · go_enter Try.func58, Try.ntmps58
            go_wp2
            go_ret
            exact ⟨ret_bool (b_false (by omega)), rfl⟩
          · go_enter Try.func58, Try.ntmps58
            go_wp2
            go_ret
            exact ⟨ret_bool (b_true (by omega)), rfl⟩
    · go_enter Try.func58, Try.ntmps58
      go_wp2_with fail
      go_ret
      exact ⟨ret_bool (b_false (by omega)), rfl⟩
  · go_enter Try.func58, Try.ntmps58
    go_wp2_with fail
    go_ret
    exact ⟨ret_bool (b_false (by omega)), rfl⟩
end Go.Proofs.Ytfibbhggphmebaa
