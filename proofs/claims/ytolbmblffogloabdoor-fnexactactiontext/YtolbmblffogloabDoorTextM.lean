/- An action's text. Plain mathematics, and bytes that become a text. -/
import Derived.Test.YtolbmblffogloabDoorActM
import Derived.Test.YtolbmblffogloabDoorRowV
import Derived.Lib.ItoaNum
namespace Go.Proofs.YtolbmblffogloabDoor
open Go.ChangeShapes Go.WideShapes Go.ChangeAt Go.RowKit
set_option linter.unusedVariables false
def ub (n : Int) : UInt8 := UInt8.ofNat n.toNat
theorem ub_val {n : Int} (h0 : 0 ≤ n) (h1 : n ≤ 255) : ((ub n).toNat : Int) = n := by unfold ub; rw [UInt8.toNat_ofNat']; omega
/-- What the i-th argument adds: a sign between, and its digits. -/
def argPart (i : Nat) (x : Int) : List UInt8 := (if i = 0 then [] else [59]) ++ (if x < 0 then [] else Lib.decDigits x.toNat)
def argsTo (l : List Int) : Nat → List UInt8
  | 0 => []
  | k + 1 => argsTo l k ++ argPart k (l.getD k 0)
def privL (pr : Bool) : List UInt8 := if pr then [63] else []
/-- The bytes that bring an action about. -/
def textL (kd n : Int) (pr : Bool) (l : List Int) (t : List UInt8) : List UInt8 :=
  if kd = 1 then (Utf8.encode n).data.toList else if kd = 2 then [ub n] else if kd = 3 then [27, ub n] else if kd = 5 then [27, 93] ++ t ++ [7]
  else [27, 91] ++ (privL pr ++ argsTo l l.length) ++ [ub n]
theorem dig_small {u : Nat} (h : u < 10) : Lib.decDigits u = [UInt8.ofNat (48 + u)] := by rw [Lib.decDigits, dif_pos h]
theorem dig_more {u : Nat} (h : ¬ u < 10) : Lib.decDigits u = Lib.decDigits (u / 10) ++ [UInt8.ofNat (48 + u % 10)] := by rw [Lib.decDigits, dif_neg h]
theorem dig_len (u : Nat) (h : u < 10000) : (Lib.decDigits u).length ≤ 4 := by
  by_cases a : u < 10
  · rw [dig_small a]; simp
  by_cases b : u < 100
  · rw [dig_more a, dig_small (by omega)]; simp
  by_cases c : u < 1000
  · rw [dig_more a, dig_more (by omega), dig_small (by omega)]; simp
  · rw [dig_more a, dig_more (by omega), dig_more (by omega), dig_small (by omega)]; simp
theorem part_le (i : Nat) (x : Int) (h : x ≤ 9999) : (argPart i x).length ≤ 5 := by
  unfold argPart
  have := dig_len x.toNat (by omega)
  rw [List.length_append]
  split <;> split <;> simp <;> omega
theorem argsTo_le (l : List Int) (h : ∀ k (hk : k < l.length), l[k] ≤ 9999) (k : Nat) : (argsTo l k).length ≤ 5 * k := by
  induction k with
  | zero => simp [argsTo]
  | succ k ih =>
    have : l.getD k 0 ≤ 9999 := by
      by_cases hk : k < l.length
      · rw [show l.getD k 0 = l[k] from by simp [hk]]; exact h k hk
      · rw [show l.getD k 0 = 0 from by simp [List.getElem?_eq_none (by omega : l.length ≤ k)]]; omega
    have p := part_le k (l.getD k 0) this
    simp only [argsTo, List.length_append]
    omega
theorem enc_small {n : Int} (h0 : 0 ≤ n) (h : n < 128) : Utf8.encode n = ⟨#[ub n]⟩ := by
  have hv : Utf8.valid n = true := by unfold Utf8.valid; simp; omega
  unfold Utf8.encode ub
  rw [hv]
  simp only [if_true]
  rw [if_pos (by omega)]
theorem rune_valid {n : Int} (h : runeB n = true) : Utf8.valid n = true := by
  unfold runeB at h; have := of_decide_eq_true h
  unfold Utf8.valid; simp; omega
theorem conv_bytes (w : World) (l : List UInt8) (hl : 0 < l.length) : (convert 22 9 (.slice (some ⟨w.heap.size, 0, none⟩) l.length l.length)).run Tryd.prog (w.alloc (.cells (B8 l).toArray 5)) = .ok (.string ⟨l.toArray⟩) (w.alloc (.cells (B8 l).toArray 5)) := by
  refine conv_row8 (P := Tryd.prog) Tryd.underlying22 Tryd.underlying5 Tryd.underlying9 (.inr ⟨w.heap.size, 0, rfl, by simp, fun i hi => ?_⟩)
  have h := news_new w (B8 l) 5 i (.int .u8 (l[i].toNat : Int)) (by simp [B8, List.getElem?_eq_getElem hi])
  rw [show (⟨w.heap.size, 0, none⟩ : Addr).add i = ⟨w.heap.size, 0 + i, none⟩ from by unfold Addr.add; split <;> simp_all] at h
  exact h
theorem conv1 (w : World) (n : Int) (h0 : 0 ≤ n) (h1 : n ≤ 255) : (convert 22 9 (.slice (some ⟨w.heap.size, 0, none⟩) 1 1)).run Tryd.prog (w.alloc (.cells #[.int .u8 n] 5)) = .ok (.string ⟨#[ub n]⟩) (w.alloc (.cells #[.int .u8 n] 5)) := by
  have h := conv_bytes w [ub n] (by simp)
  have e : (B8 [ub n]).toArray = #[.int .u8 n] := by unfold B8; simp [ub_val h0 h1]
  rw [e] at h; exact h
theorem conv2 (w : World) (n m : Int) (h0 : 0 ≤ n) (h1 : n ≤ 255) (m0 : 0 ≤ m) (m1 : m ≤ 255) : (convert 22 9 (.slice (some ⟨w.heap.size, 0, none⟩) 2 2)).run Tryd.prog (w.alloc (.cells #[.int .u8 n, .int .u8 m] 5)) = .ok (.string ⟨#[ub n, ub m]⟩) (w.alloc (.cells #[.int .u8 n, .int .u8 m] 5)) := by
  have h := conv_bytes w [ub n, ub m] (by simp)
  have e : (B8 [ub n, ub m]).toArray = #[.int .u8 n, .int .u8 m] := by unfold B8; simp [ub_val h0 h1, ub_val m0 m1]
  rw [e] at h; exact h
theorem conv3 (w : World) (n m o : Int) (h0 : 0 ≤ n) (h1 : n ≤ 255) (m0 : 0 ≤ m) (m1 : m ≤ 255) (o0 : 0 ≤ o) (o1 : o ≤ 255) : (convert 22 9 (.slice (some ⟨w.heap.size, 0, none⟩) 3 3)).run Tryd.prog (w.alloc (.cells #[.int .u8 n, .int .u8 m, .int .u8 o] 5)) = .ok (.string ⟨#[ub n, ub m, ub o]⟩) (w.alloc (.cells #[.int .u8 n, .int .u8 m, .int .u8 o] 5)) := by
  have h := conv_bytes w [ub n, ub m, ub o] (by simp)
  have e : (B8 [ub n, ub m, ub o]).toArray = #[.int .u8 n, .int .u8 m, .int .u8 o] := by unfold B8; simp [ub_val h0 h1, ub_val m0 m1, ub_val o0 o1]
  rw [e] at h; exact h
theorem conv4 (w : World) (n m o p : Int) (h0 : 0 ≤ n) (h1 : n ≤ 255) (m0 : 0 ≤ m) (m1 : m ≤ 255) (o0 : 0 ≤ o) (o1 : o ≤ 255) (p0 : 0 ≤ p) (p1 : p ≤ 255) : (convert 22 9 (.slice (some ⟨w.heap.size, 0, none⟩) 4 4)).run Tryd.prog (w.alloc (.cells #[.int .u8 n, .int .u8 m, .int .u8 o, .int .u8 p] 5)) = .ok (.string ⟨#[ub n, ub m, ub o, ub p]⟩) (w.alloc (.cells #[.int .u8 n, .int .u8 m, .int .u8 o, .int .u8 p] 5)) := by
  have h := conv_bytes w [ub n, ub m, ub o, ub p] (by simp)
  have e : (B8 [ub n, ub m, ub o, ub p]).toArray = #[.int .u8 n, .int .u8 m, .int .u8 o, .int .u8 p] := by unfold B8; simp [ub_val h0 h1, ub_val m0 m1, ub_val o0 o1, ub_val p0 p1]
  rw [e] at h; exact h
end Go.Proofs.YtolbmblffogloabDoor
