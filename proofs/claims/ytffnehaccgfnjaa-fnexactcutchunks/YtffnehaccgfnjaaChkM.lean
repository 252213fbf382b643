/- Bytes cut into pieces, each a frame: the mathematics. -/
import Derived.Test.YtffnehaccgfnjaaFrmR
import Derived.Test.YtffnehaccgfnjaaStrS
import Derived.Test.YtffnehaccgfnjaaInM
namespace Go.Proofs.Ytffnehaccgfnjaa
open Go.ChangeShapes Go.WideShapes Go.ChangeAt Go.RowKit
set_option linter.unusedVariables false
def pcL (s : Nat) (l : List UInt8) (k : Nat) : List UInt8 := (l.drop (k * s)).take s
def pcT (s : Nat) (l : List UInt8) (k : Nat) : ByteArray := ⟨(frmB (pcL s l k)).toArray⟩
def pcN (n s : Nat) : Nat := (n + s - 1) / s
def cutS (s : Nat) (l : List UInt8) (k : Nat) : List ByteArray := (List.range k).map (pcT s l)
theorem cutS_snoc (s : Nat) (l : List UInt8) (k : Nat) : cutS s l (k + 1) = cutS s l k ++ [pcT s l k] := by simp [cutS, List.range_succ]
theorem cutS_len (s : Nat) (l : List UInt8) (k : Nat) : (cutS s l k).length = k := by simp [cutS]
theorem pc_lt (n s k : Nat) (hs : 0 < s) : k < pcN n s ↔ k * s < n := by
  unfold pcN
  rw [show (k < (n + s - 1) / s) = (k + 1 ≤ (n + s - 1) / s) from rfl, Nat.le_div_iff_mul_le hs, Nat.succ_mul]
  omega
theorem pcN_le (n s : Nat) (hs : 0 < s) : pcN n s ≤ n := by
  by_cases h : pcN n s = 0
  · omega
  · have h1 := (pc_lt n s (pcN n s - 1) hs).1 (by omega)
    have h2 : (pcN n s - 1) * 1 ≤ (pcN n s - 1) * s := Nat.mul_le_mul_left _ hs
    omega
theorem pcL_len (s : Nat) (l : List UInt8) (k m : Nat) (hm : m = min s (l.length - k * s)) : (pcL s l k).length = m := by
  unfold pcL; rw [List.length_take, List.length_drop]; omega
theorem pcL_part (s : Nat) (l : List UInt8) (k m : Nat) (hm : m = min s (l.length - k * s)) : pcL s l k = (l.drop (k * s)).take m := by
  unfold pcL
  rw [hm]
  by_cases h : s ≤ l.length - k * s
  · rw [Nat.min_eq_left h]
  · rw [Nat.min_eq_right (by omega), List.take_of_length_le (by rw [List.length_drop]; omega), List.take_of_length_le (by rw [List.length_drop]; omega)]
def cutL (z : Int) (l : List UInt8) : List ByteArray := if 65536 < l.length then [] else if inB z 16 4096 then cutS z.toNat l (pcN l.length z.toNat) else []
def cutC (z : Int) (l : List UInt8) : Int := if 65536 < l.length then 2 else if inB z 16 4096 then 0 else 4
theorem cutL_le (z : Int) (l : List UInt8) : (cutL z l).length ≤ 65536 := by
  unfold cutL
  split
  · simp
  · split
    · rename_i h1 h2
      unfold inB at h2
      have h3 := of_decide_eq_true h2
      rw [cutS_len]
      exact Nat.le_trans (pcN_le _ _ (by omega)) (by omega)
    · simp
end Go.Proofs.Ytffnehaccgfnjaa
