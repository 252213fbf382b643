/- numberOf: the number of a row of bytes. -/
import Derived.Test.YtpbnjncbbllpdaaZNumM
namespace Go.Proofs.Ytpbnjncbbllpdaa
open Go.ChangeShapes Go.WideShapes Go.ChangeAt Go.RowKit
set_option maxHeartbeats 400000 in
set_option maxRecDepth 100000 in
/-- numberOf: the number of at most four bytes. -/
theorem inumber (a : Option Addr) (cap : Nat) (l : List UInt8) (hl : l.length ≤ 4) (w : World) (hr : Row8 w a l) :
    Calls Try.prog 52 #[.slice a l.length cap] w fun e w' => e = .returned (.int .i64 ((ofBE l : Nat) : Int)) ∧ w' = w := by
  have HR := hide hr
  clear hr
  go_enter Try.func52, Try.ntmps52
  go_wp2_with fail
  go_loop [3, 8] (fun r i => ∃ k y : Nat, k ≤ l.length ∧ i = .int .i64 k ∧ r = .int .i64 (y : Int) ∧ Hid (y = ofBE (l.take k))) (fun _ i => l.length - (intOf i).toNat)
  case atStart => exact ⟨0, 0, by omega, rfl, rfl, rfl⟩
  case round =>
    obtain ⟨k, y, hk, rfl, rfl, HY⟩ := hrel
    have hy : y < 256 ^ k := by have := ofBE_lt l k; rw [← unhide HY] at this; exact this
    by_cases hlt : k < l.length
    · obtain ⟨b, off, ha, hblt, hc⟩ := (unhide HR).at (by omega)
      subst ha
      have hy2 : y < 16777216 := Nat.lt_of_lt_of_le hy (Nat.le_trans (Nat.pow_le_pow_right (by decide) (show k ≤ 3 by omega)) (by decide))
      have hc1 := hc k hlt
      have hlt' : (k : Int) < (l.length : Int) := by omega
      have hcv := l[k].toNat_lt
      have h2 : bits BinOp.or IntKind.i64 ((y : Int) * 256) (l[k].toNat : Int) = ((y * 256 + l[k].toNat : Nat) : Int) := or_byte y l[k].toNat (by omega) (by omega)
      have c0 : (l[k].toNat : Int) ≤ 255 := by omega
      have y0 : (y : Int) ≤ 16777216 := by omega
      clear hc HR hy hblt hcv hy2
      go_wp2_with fail
      go_round
      case rel => exact ⟨k + 1, y * 256 + l[k].toNat, by omega, by go_num, rfl, by show _ = _; rw [ofBE_snoc l k hlt, unhide HY]⟩
      case measure => simp [intOf]; omega
    · have HV : Hid (((ofBE l : Nat) : Int) = (y : Int)) := by show _ = _; rw [unhide HY, List.take_of_length_le (by omega)]
      clear hy
      go_wp2_with fail
      go_ret
      exact ⟨ret_int (unhide HV).symm, rfl⟩
end Go.Proofs.Ytpbnjncbbllpdaa
