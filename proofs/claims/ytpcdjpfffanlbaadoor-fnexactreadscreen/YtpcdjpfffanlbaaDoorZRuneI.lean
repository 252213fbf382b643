/- titleOK, runeOK: what the program answers. -/
import Derived.Test.YtpcdjpfffanlbaaDoorZG29
namespace Go.Proofs.YtpcdjpfffanlbaaDoor
open Go.ChangeShapes Go.WideShapes Go.ChangeAt Go.RowKit
set_option linter.unusedVariables false
set_option maxHeartbeats 400000 in
set_option maxRecDepth 100000 in
theorem ititle (t : ByteArray) (ht : t.size ≤ 1048576) (w : World) :
  Calls Tryd.prog 35 #[.string t] w fun e w' => e = .returned (.bool (titleB t.data.toList)) ∧ w' = w := by
 by_cases h8 : t.size ≤ 40
 ·go_enter Tryd.func35, Tryd.ntmps35
  go_wp2_with fail
  go_loop [3] (fun i => ∃ k : Nat, k ≤ t.size ∧ i = .int .i64 k ∧ Hid (∀ q (h : q < t.size), q < k → inB (t[q].toNat : Int) 32 126 = true)) (fun i => t.size - (intOf i).toNat)
  case atStart => exact ⟨0, by omega, rfl, fun q _ h => absurd h (Nat.not_lt_zero _)⟩
  case round =>
   obtain ⟨k, hk, rfl, HF⟩ := hrel
   by_cases hlt : k < t.size
   ·have hlt' : (k : Int) < (t.size : Int) := by omega
    by_cases h1 : (t[k].toNat : Int) < 32
    ·have HV : Hid (titleB t.data.toList = false) := by show _ = _; unfold titleB; rw [text_bad hlt (in_no (by omega))]; simp
     clear HF
     go_wp2_with fail
     go_ret
     exact ⟨ret_bool (unhide HV).symm, rfl⟩
    by_cases h2 : 126 < (t[k].toNat : Int)
    ·have HV : Hid (titleB t.data.toList = false) := by show _ = _; unfold titleB; rw [text_bad hlt (in_no (by omega))]; simp
     clear HF
     go_wp2_with fail
     go_ret
     exact ⟨ret_bool (unhide HV).symm, rfl⟩
    ·have HF2 : Hid (∀ q (h : q < t.size), q < k + 1 → inB (t[q].toNat : Int) 32 126 = true) := fun q h hq => by
      by_cases e : q = k
      ·subst e; exact in_yes (by omega)
      ·exact unhide HF q h (by omega)
     clear HF
     go_wp2_with fail
     go_round
     case rel => exact ⟨k + 1, by omega, by go_num, HF2⟩
     case measure => simp [intOf]; omega
   ·have HV : Hid (titleB t.data.toList = true) := by
     show _ = _; unfold titleB; rw [text_take_all fun q hq => unhide HF q hq (by omega)]; simp; omega
    go_wp2_with fail
    go_ret
    exact ⟨ret_bool (unhide HV).symm, rfl⟩
 ·have HV : Hid (titleB t.data.toList = false) := by show _ = _; unfold titleB; rw [decide_eq_false (by rw [text_len]; omega)]; rfl
  go_enter Tryd.func35, Tryd.ntmps35
  go_wp2_with fail
  go_ret
  exact ⟨ret_bool (unhide HV).symm, rfl⟩

theorem wrap32 (n : Int) (h0 : 32 ≤ n) (h1 : n ≤ 1114111) : IntKind.i32.wrap n = n := by
 simp only [IntKind.wrap, IntKind.signed, IntKind.bits]
 simp
 omega
set_option maxHeartbeats 400000 in
set_option maxRecDepth 100000 in
theorem irune (n : Int) (w : World) : Calls Tryd.prog 52 #[.int .i64 n] w fun e w' => e = .returned (.bool (runeB n)) ∧ w' = w := by
 by_cases h : 32 ≤ n
 ·by_cases h2 : n ≤ 1114111
  ·have hw := wrap32 n h h2
   by_cases h3 : n = 127
   ·subst h3
    go_enter Tryd.func52, Tryd.ntmps52
    go_wp2_with fail
    go_ret
    exact ⟨ret_bool (b_false (by omega)), rfl⟩
   ·have h3' : (n != 127) = true := by simpa using h3
    by_cases h4 : n < 55296
    ·go_enter Tryd.func52, Tryd.ntmps52
     go_wp2
     go_ret
     exact ⟨ret_bool (b_true (by omega)), rfl⟩
    ·by_cases h5 : n ≤ 57343
     ·go_enter Tryd.func52, Tryd.ntmps52
      go_wp2
      go_ret
      exact ⟨ret_bool (b_false (by omega)), rfl⟩
     ·go_enter Tryd.func52, Tryd.ntmps52
      go_wp2
      go_ret
      exact ⟨ret_bool (b_true (by omega)), rfl⟩
  ·go_enter Tryd.func52, Tryd.ntmps52
   go_wp2_with fail
   go_ret
   exact ⟨ret_bool (b_false (by omega)), rfl⟩
 ·go_enter Tryd.func52, Tryd.ntmps52
  go_wp2_with fail
  go_ret
  exact ⟨ret_bool (b_false (by omega)), rfl⟩
end Go.Proofs.YtpcdjpfffanlbaaDoor
