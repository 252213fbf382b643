/- A right cell: what the specification answers. -/
import Derived.Test.YtpcdjpfffanlbaaDoorZG31
import Derived.Test.YtpcdjpfffanlbaaDoorZG29
namespace Go.Proofs.YtpcdjpfffanlbaaDoor
open Go.ChangeShapes Go.WideShapes Go.ChangeAt Go.RowKit
set_option linter.unusedVariables false
set_option maxHeartbeats 400000 in
set_option maxRecDepth 100000 in
theorem scell (x y : Int) (w : World) : Calls Tryd.prog 41 #[.agg #[.int .i64 x, .int .i64 y]] w fun e w' => e = .returned (.bool (runeB x && inB y 0 127)) ∧ Below w.heap.size w w' := by
 have HB := hide ((Below.refl w.heap.size w).alloc (Nat.le_refl _) (.cells #[.int .i64 x, .int .i64 y] 53))
 obtain ⟨r, hr⟩ : ∃ r, r = (inB x 0 1114111 && !(inB x 55296 57343)) := ⟨_, rfl⟩
 have HR := hide hr
 have hp := rune_parts x
 rw [← hr] at hp
 rw [hp]
 clear hr hp
 have A := fun w => (sruneok x w)
 rw [← unhide HR] at A
 have HA := hide A
 clear A
 cases r
 ·go_enter Tryd.func41, Tryd.ntmps41
  go_wp2_with (go_at_call 47; refine (unhide HA _).mono ?_; rintro e w2 ⟨rfl, rfl⟩)
  go_ret
  exact ⟨rfl, unhide HB⟩
 ·by_cases h1 : 32 ≤ x
  ·by_cases h2 : x = 127
   ·subst h2
    go_enter Tryd.func41, Tryd.ntmps41
    go_wp2_with (go_at_call 47; refine (unhide HA _).mono ?_; rintro e w2 ⟨rfl, rfl⟩)
    go_ret
    exact ⟨ret_bool (by simp), unhide HB⟩
   ·have h3 : (x != 127) = true := by simpa using h2
    have h4 : decide (32 ≤ x) = true := decide_eq_true h1
    rw [h3, h4]
    clear h2
    cases h5 : inB y 0 127
    all_goals
     go_enter Tryd.func41, Tryd.ntmps41
     go_wp2_with (first | (go_at_call 47; refine (unhide HA _).mono ?_; rintro e w2 ⟨rfl, rfl⟩) | (go_at_call 40; refine (sin _ _ _ _).mono ?_; rintro e w2 ⟨rfl, rfl⟩; rw [h5]))
     go_ret
     exact ⟨rfl, unhide HB⟩
  ·have h4 : decide (32 ≤ x) = false := decide_eq_false h1
   rw [h4]
   go_enter Tryd.func41, Tryd.ntmps41
   go_wp2_with (go_at_call 47; refine (unhide HA _).mono ?_; rintro e w2 ⟨rfl, rfl⟩)
   go_ret
   exact ⟨ret_bool (by simp), unhide HB⟩
end Go.Proofs.YtpcdjpfffanlbaaDoor
