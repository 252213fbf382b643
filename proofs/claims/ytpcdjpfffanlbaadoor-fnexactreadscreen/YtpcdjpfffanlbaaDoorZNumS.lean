/- l02Of: the number of a text of bytes. -/
import Derived.Test.YtpcdjpfffanlbaaDoorZNumM
namespace Go.Proofs.YtpcdjpfffanlbaaDoor
open Go.ChangeShapes Go.WideShapes Go.ChangeAt Go.RowKit
set_option maxHeartbeats 400000 in
set_option maxRecDepth 100000 in
theorem snumberOf (s : ByteArray) (hs : s.size ≤ 4) (w : World) :
  Calls Tryd.prog 25 #[.string s] w fun e w' => e = .returned (.int .i64 ((ofBE s.data.toList : Nat) : Int)) ∧ w' = w := by
 obtain ⟨l, hl⟩ : ∃ l, l = s.data.toList := ⟨_, rfl⟩
 have hll : l.length = s.size := by rw [hl]; simp
 rw [← hl]
 have HL := hide hl
 clear hl
 go_enter Tryd.func25, Tryd.ntmps25
 go_wp2_with fail
 go_loop [3, 4] (fun r i => ∃ k y : Nat, k ≤ s.size ∧ i = .int .i64 k ∧ r = .int .i64 (y : Int) ∧ Hid (y = ofBE (l.take k))) (fun _ i => s.size - (intOf i).toNat)
 case atStart => exact ⟨0, 0, by omega, rfl, rfl, rfl⟩
 case round =>
  obtain ⟨k, y, hk, rfl, rfl, HY⟩ := hrel
  have hy : y < 256 ^ k := by have := ofBE_lt l k; rw [← unhide HY] at this; exact this
  by_cases hlt : k < s.size
  ·have hy2 : y < 16777216 := Nat.lt_of_lt_of_le hy (Nat.le_trans (Nat.pow_le_pow_right (by decide) (show k ≤ 3 by omega)) (by decide))
   have HE : Hid (l[k]'(by omega) = s[k]) := by show _ = _; have := unhide HL; subst this; rfl
   have HZ : Hid (ofBE (l.take (k + 1)) = y * 256 + s[k].toNat) := by show _ = _; rw [ofBE_snoc l k (by omega), unhide HY, unhide HE]
   have hlt' : (k : Int) < (s.size : Int) := by omega
   have c0 : (s[k].toNat : Int) ≤ 255 := by have := s[k].toNat_lt; omega
   have y0 : (y : Int) ≤ 16777216 := by omega
   clear hy hy2 HE hll
   go_wp2_with fail
   go_round
   case rel => exact ⟨k + 1, y * 256 + s[k].toNat, by omega, by go_num, by go_num, (unhide HZ).symm⟩
   case measure => simp [intOf]; omega
  ·have HV : Hid (((ofBE l : Nat) : Int) = (y : Int)) := by show _ = _; rw [unhide HY, List.take_of_length_le (by omega)]
   clear hy hll
   go_wp2_with fail
   go_ret
   exact ⟨ret_int (unhide HV).symm, rfl⟩
end Go.Proofs.YtpcdjpfffanlbaaDoor
