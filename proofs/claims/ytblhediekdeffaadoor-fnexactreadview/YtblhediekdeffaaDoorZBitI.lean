/- Sets of rows as bits: plain mathematics, and the program's small functions. -/
import Derived.Test.YtblhediekdeffaaDoorZBase
import Derived.Laws.BitsAllLaws
namespace Go.Proofs.YtblhediekdeffaaDoor
open Go.ChangeShapes Go.WideShapes Go.ChangeAt Go.RowKit
set_option linter.unusedVariables false
/-- The set of the numbers below k of which f says yes. -/
def bset (f : Nat → Bool) : Nat → Nat
  | 0 => 0
  | k + 1 => bset f k + if f k then 2 ^ k else 0
theorem bset_lt (f : Nat → Bool) (k : Nat) : bset f k < 2 ^ k := by
  induction k with
  | zero => simp [bset]
  | succ k ih => unfold bset; rw [Nat.pow_succ]; split <;> omega
theorem pow_le10 {k : Nat} (h : k ≤ 10) : 2 ^ k ≤ 1024 := Nat.pow_le_pow_right (by decide) h
theorem bset_small (f : Nat → Bool) (k : Nat) (h : k ≤ 10) : bset f k < 1024 := Nat.lt_of_lt_of_le (bset_lt f k) (pow_le10 h)
theorem bset_or (f : Nat → Bool) (k : Nat) : bset f k ||| 2 ^ k = bset f k + 2 ^ k := by
  have h := Nat.two_pow_add_eq_or_of_lt (bset_lt f k) 1
  rw [Nat.mul_one] at h
  rw [Nat.or_comm, ← h, Nat.add_comm]
theorem bset_yes {f : Nat → Bool} {k : Nat} (h : f k = true) : bset f (k + 1) = bset f k ||| 2 ^ k := by rw [bset_or]; simp [bset, h]
theorem bset_no {f : Nat → Bool} {k : Nat} (h : f k = false) : bset f (k + 1) = bset f k := by simp [bset, h]
theorem bset_all {f : Nat → Bool} {k : Nat} (h : ∀ i, i < k → f i = true) : bset f k = 2 ^ k - 1 := by
  induction k with
  | zero => rfl
  | succ k ih =>
    have h1 := ih fun i hi => h i (by omega)
    have h2 : 0 < 2 ^ k := Nat.two_pow_pos k
    unfold bset
    rw [h1, h k (by omega), Nat.pow_succ, if_pos rfl]
    omega
theorem bset_less {f : Nat → Bool} {k i : Nat} (hi : i < k) (h : f i = false) : bset f k < 2 ^ k - 1 := by
  induction k with
  | zero => omega
  | succ k ih =>
    have h2 : 0 < 2 ^ k := Nat.two_pow_pos k
    have h3 := bset_lt f k
    unfold bset
    rw [Nat.pow_succ]
    by_cases e : i = k
    · subst e; rw [h]; simp; omega
    · have h4 := ih (by omega)
      split <;> omega
theorem ofInt_u16 (a : Nat) (ha : a < 65536) : (BitVec.ofInt 16 (a : Int)).toNat = a := by rw [BitVec.ofInt_natCast, BitVec.toNat_ofNat]; exact Nat.mod_eq_of_lt (by omega)
theorem u16_or_nat (a b : Nat) (ha : a < 65536) (hb : b < 65536) : bits .or .u16 (a : Int) (b : Int) = ((a ||| b : Nat) : Int) := by
  have hx : a ||| b < 2 ^ 16 := Nat.or_lt_two_pow (by omega) (by omega)
  show IntKind.u16.wrap ((BitVec.ofInt 16 (a : Int) ||| BitVec.ofInt 16 (b : Int)).toNat : Int) = _
  rw [BitVec.toNat_or, ofInt_u16 a ha, ofInt_u16 b hb, IntKind.wrap_u16]
  omega
theorem pow16 {y : Nat} (h : y ≤ 10) : IntKind.u16.wrap ((2 : Int) ^ y) = ((2 ^ y : Nat) : Int) := by
  have := pow_le10 h
  have e : (2 : Int) ^ y = ((2 ^ y : Nat) : Int) := by simp
  rw [e, IntKind.wrap_u16]
  generalize 2 ^ y = p at this
  omega
theorem pow16m {y : Nat} (h : y ≤ 10) : IntKind.u16.wrap (IntKind.u16.wrap ((2 : Int) ^ y) - 1) = ((2 ^ y - 1 : Nat) : Int) := by
  have := pow_le10 h
  have h2 : 0 < 2 ^ y := Nat.two_pow_pos y
  rw [pow16 h, IntKind.wrap_u16]
  generalize 2 ^ y = p at this h2
  omega
theorem ret_u16 {a b : Int} (h : a = b) : Ending.returned (.int .u16 a) = Ending.returned (.int .u16 b) := by rw [h]
set_option maxHeartbeats 400000 in
set_option maxRecDepth 100000 in
theorem iwith (s y q : Nat) (hs : s < 1024) (hy : y < 10) (HQ : Hid (q = (s ||| 2 ^ y))) (w : World) : Calls Tryd.prog 58 #[.int .u16 (s : Int), .int .i64 (y : Int)] w fun e w' => e = .returned (.int .u16 (q : Int)) ∧ w' = w := by
  have hy0 : ¬ (y : Int) < 0 := by omega
  go_enter Tryd.func58, Tryd.ntmps58
  go_wp2_with fail
  go_ret
  refine ⟨ret_u16 ?_, rfl⟩
  have := pow_le10 (Nat.le_of_lt hy)
  rw [unhide HQ, pow16 (Nat.le_of_lt hy), u16_or_nat _ _ (by omega) (by omega)]
set_option maxHeartbeats 400000 in
set_option maxRecDepth 100000 in
theorem ifirstR (c q : Nat) (hc : c ≤ 10) (HQ : Hid (q = 2 ^ c - 1)) (w : World) : Calls Tryd.prog 47 #[.int .i64 (c : Int)] w fun e w' => e = .returned (.int .u16 (q : Int)) ∧ w' = w := by
  have hc0 : ¬ (c : Int) < 0 := by omega
  go_enter Tryd.func47, Tryd.ntmps47
  go_wp2_with fail
  go_ret
  exact ⟨ret_u16 (by rw [unhide HQ]; exact pow16m hc), rfl⟩
set_option maxHeartbeats 400000 in
set_option maxRecDepth 100000 in
theorem iends (s y : Nat) (hy : y < 10) (R : Bool) (HR : Hid (R = decide (s < 2 ^ y))) (w : World) : Calls Tryd.prog 57 #[.int .u16 (s : Int), .int .i64 (y : Int)] w fun e w' => e = .returned (.bool R) ∧ w' = w := by
  have hy0 : ¬ (y : Int) < 0 := by omega
  go_enter Tryd.func57, Tryd.ntmps57
  go_wp2_with fail
  go_ret
  refine ⟨ret_bool ?_, rfl⟩
  have e : (s : Int) / 2 ^ y = ((s / 2 ^ y : Nat) : Int) := by simp
  rw [unhide HR, e]
  by_cases h : s < 2 ^ y
  · rw [Nat.div_eq_of_lt h, decide_eq_true h]; rfl
  · have h0 : 0 < s / 2 ^ y := Nat.div_pos (by omega) (Nat.two_pow_pos y)
    rw [decide_eq_false h, beq_eq_false_iff_ne]
    generalize s / 2 ^ y = q at h0
    omega
end Go.Proofs.YtblhediekdeffaaDoor
