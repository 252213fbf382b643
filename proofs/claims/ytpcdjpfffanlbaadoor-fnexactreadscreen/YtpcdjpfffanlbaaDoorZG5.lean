/- Texts put together: RsM NumI. -/
import Derived.Test.YtpcdjpfffanlbaaDoorZPair
import Derived.Test.YtpcdjpfffanlbaaDoorZNumM
import Derived.Test.YtpcdjpfffanlbaaDoorZStrS
/- Bytes that hold cells. Plain mathematics. -/
namespace Go.Proofs.YtpcdjpfffanlbaaDoor
open Go.ChangeShapes Go.WideShapes Go.ChangeAt Go.RowKit
set_option linter.unusedVariables false
def c4 (d : List UInt8) (k : Nat) : Int × Int := (((ofBE ((d.drop (4 * k)).take 3) : Nat) : Int), ((ofBE ((d.drop (4 * k + 3)).take 1) : Nat) : Int))
def cells4 (d : List UInt8) (n : Nat) : List (Int × Int) := (List.range n).map (c4 d)
theorem cells4_len (d : List UInt8) (n : Nat) : (cells4 d n).length = n := by simp [cells4]
theorem cells4_snoc (d : List UInt8) (n : Nat) : cells4 d (n + 1) = cells4 d n ++ [c4 d n] := by simp [cells4, List.range_succ]
/-- The cells of rows of n cells each. -/
def rowsC (n : Nat) (R : List ByteArray) : List (Int × Int) := R.flatMap fun r => cells4 r.data.toList n
theorem rowsC_len (n : Nat) (R : List ByteArray) : (rowsC n R).length = R.length * n := by
 induction R with
 | nil => simp [rowsC]
 | cons r R ih =>
  unfold rowsC at ih ⊢
  rw [List.flatMap_cons, List.length_append, ih, cells4_len, List.length_cons, Nat.succ_mul]
  omega
theorem rowsC_snoc (n : Nat) (R : List ByteArray) (k : Nat) (h : k < R.length) : rowsC n (R.take (k + 1)) = rowsC n (R.take k) ++ cells4 R[k].data.toList n := by
 unfold rowsC
 rw [List.take_add_one, List.getElem?_eq_getElem h, List.flatMap_append]
 simp only [Option.toList, List.flatMap_cons, List.flatMap_nil, List.append_nil]
theorem cP_snoc (l : List (Int × Int)) (c : Int × Int) : cP (l ++ [c]) = cP l ++ [.int .i64 c.1, .int .i64 c.2] := by simp [cP]
end Go.Proofs.YtpcdjpfffanlbaaDoor

/- numberOf: the number of a row of bytes. -/
namespace Go.Proofs.YtpcdjpfffanlbaaDoor
open Go.ChangeShapes Go.WideShapes Go.ChangeAt Go.RowKit
set_option maxHeartbeats 400000 in
set_option maxRecDepth 100000 in
/-- numberOf: the number of at most four bytes. -/
theorem inumber (a : Option Addr) (cap : Nat) (l : List UInt8) (hl : l.length ≤ 4) (w : World) (hr : Row8 w a l) :
  Calls Tryd.prog 43 #[.slice a l.length cap] w fun e w' => e = .returned (.int .i64 ((ofBE l : Nat) : Int)) ∧ w' = w := by
 have HR := hide hr
 clear hr
 go_enter Tryd.func43, Tryd.ntmps43
 go_wp2_with fail
 go_loop [3, 8] (fun r i => ∃ k y : Nat, k ≤ l.length ∧ i = .int .i64 k ∧ r = .int .i64 (y : Int) ∧ Hid (y = ofBE (l.take k))) (fun _ i => l.length - (intOf i).toNat)
 case atStart => exact ⟨0, 0, by omega, rfl, rfl, rfl⟩
 case round =>
  obtain ⟨k, y, hk, rfl, rfl, HY⟩ := hrel
  have hy : y < 256 ^ k := by have := ofBE_lt l k; rw [← unhide HY] at this; exact this
  by_cases hlt : k < l.length
  ·obtain ⟨b, off, ha, hblt, hc⟩ := (unhide HR).at (by omega)
   subst ha
   have hy2 : y < 16777216 := Nat.lt_of_lt_of_le hy (Nat.le_trans (Nat.pow_le_pow_right (by decide) (show k ≤ 3 by omega)) (by decide))
   have hc1 := hc k hlt
   have hlt' : (k : Int) < (l.length : Int) := by omega
   have hcv := l[k].toNat_lt
   have h2 : bits BinOp.or IntKind.i64 ((y : Int) * 256) (l[k].toNat : Int) = ((y * 256 + l[k].toNat : Nat) : Int) := or_byte y l[k].toNat (by omega) (by omega)
   have c0 : (l[k].toNat : Int) ≤ 255 := by omega
   have y0 : (y : Int) ≤ 16777216 := by omega
   clear hc HR hy hblt hcv hy2
   go_wp2_with fail
   go_round
   case rel => exact ⟨k + 1, y * 256 + l[k].toNat, by omega, by go_num, rfl, by show _ = _; rw [ofBE_snoc l k hlt, unhide HY]⟩
   case measure => simp [intOf]; omega
  ·have HV : Hid (((ofBE l : Nat) : Int) = (y : Int)) := by show _ = _; rw [unhide HY, List.take_of_length_le (by omega)]
   clear hy
   go_wp2_with fail
   go_ret
   exact ⟨ret_int (unhide HV).symm, rfl⟩
end Go.Proofs.YtpcdjpfffanlbaaDoor
