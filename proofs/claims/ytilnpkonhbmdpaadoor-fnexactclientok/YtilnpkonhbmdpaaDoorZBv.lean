/- Words of 32 bits: the model's operations on uint32, said over BitVec 32. -/
import Derived.Test.YtilnpkonhbmdpaaDoorZBase
import Derived.Laws.BitsAllLaws
import Derived.Laws.BitsLemmas
namespace Go.Proofs.YtilnpkonhbmdpaaDoor
open Go.ChangeShapes Go.WideShapes Go.ChangeAt Go.RowKit

/-- A word as the number that the model holds; a plain definition, so that no rule of simp looks into it. -/
def wI (v : BitVec 32) : Int := (v.toNat : Int)
theorem wI_bd (v : BitVec 32) : 0 ≤ wI v ∧ wI v < 4294967296 := by unfold wI; have := v.isLt; omega
theorem bv_xor (a b : BitVec 32) : bits BinOp.xor IntKind.u32 (a.toNat : Int) (b.toNat : Int) = ((a ^^^ b).toNat : Int) := by
  rw [u32_xor_nat _ _ a.isLt b.isLt, BitVec.toNat_xor]
theorem bv_and (a b : BitVec 32) : bits BinOp.and IntKind.u32 (a.toNat : Int) (b.toNat : Int) = ((a &&& b).toNat : Int) := by
  rw [u32_and_nat _ _ a.isLt b.isLt, BitVec.toNat_and]
theorem bv_or (a b : BitVec 32) : bits BinOp.or IntKind.u32 (a.toNat : Int) (b.toNat : Int) = ((a ||| b).toNat : Int) := by
  rw [u32_or_nat _ _ a.isLt b.isLt, BitVec.toNat_or]
theorem bv_not (a : BitVec 32) : bits BinOp.xor IntKind.u32 IntKind.u32.max (a.toNat : Int) = ((~~~a).toNat : Int) := by
  have e : IntKind.u32.max = ((BitVec.allOnes 32).toNat : Int) := by simp [IntKind.max, IntKind.signed, IntKind.bits]
  rw [e, bv_xor, BitVec.allOnes_xor]
theorem bv_add (a b : BitVec 32) : ((a.toNat : Int) + (b.toNat : Int)) % 4294967296 = ((a + b).toNat : Int) := by
  rw [BitVec.toNat_add]; omega
theorem bv_addw (a b : BitVec 32) : IntKind.u32.wrap ((a.toNat : Int) + (b.toNat : Int)) = ((a + b).toNat : Int) := by
  rw [IntKind.wrap_u32', bv_add]
theorem bv_shr (a : BitVec 32) (k : Nat) : (a.toNat : Int) / 2 ^ k = ((a >>> k).toNat : Int) := by
  rw [BitVec.toNat_ushiftRight, Nat.shiftRight_eq_div_pow]; simp
theorem bv_shl (a : BitVec 32) (k : Nat) : ((a.toNat : Int) * 2 ^ k) % 4294967296 = ((a <<< k).toNat : Int) := by
  rw [BitVec.toNat_shiftLeft, Nat.shiftLeft_eq]; simp
theorem w_xor (a b : BitVec 32) : bits BinOp.xor IntKind.u32 (wI a) (wI b) = wI (a ^^^ b) := bv_xor a b
theorem w_and (a b : BitVec 32) : bits BinOp.and IntKind.u32 (wI a) (wI b) = wI (a &&& b) := bv_and a b
theorem w_or (a b : BitVec 32) : bits BinOp.or IntKind.u32 (wI a) (wI b) = wI (a ||| b) := bv_or a b
theorem w_not (a : BitVec 32) : bits BinOp.xor IntKind.u32 IntKind.u32.max (wI a) = wI (~~~a) := bv_not a
theorem w_add (a b : BitVec 32) : (wI a + wI b) % 4294967296 = wI (a + b) := bv_add a b
theorem w_addw (a b : BitVec 32) : IntKind.u32.wrap (wI a + wI b) = wI (a + b) := bv_addw a b
theorem w_shr (a : BitVec 32) (k : Nat) : wI a / 2 ^ k = wI (a >>> k) := bv_shr a k
theorem w_shl (a : BitVec 32) (k : Nat) : (wI a * 2 ^ k) % 4294967296 = wI (a <<< k) := bv_shl a k
/-- The turn to the right, as the specification's text has it. -/
def rot (x : BitVec 32) (n : Nat) : BitVec 32 := x >>> n ||| x <<< (32 - n)

set_option maxHeartbeats 400000 in
theorem turn34 (x : BitVec 32) (n : Nat) (h0 : 0 < n) (h1 : n < 32) (w : World) :
    Calls Tryd.prog 67 #[.int .u32 (wI x), .int .u64 (n : Int)] w fun e w' => e = .returned (.int .u32 (wI (rot x n))) ∧ w' = w := by
  have hn0 : (0 : Int) ≤ (n : Int) := by omega
  have hx0 := (wI_bd x).1
  have hn1 : (n : Int) < 32 := by omega
  go_enter Tryd.func67, Tryd.ntmps67
  go_wp2_with fail
  go_ret
  refine ⟨ret_int ?_, rfl⟩
  rw [w_shr, w_shl, w_or]
  rfl

theorem and31 (n : Nat) (h0 : 0 < n) (h1 : n < 32) : bits BinOp.and IntKind.u64 (IntKind.u64.wrap (-(n : Int))) 31 = ((32 - n : Nat) : Int) := by
  have h := u64_and_nat (18446744073709551616 - n) 31 (by omega) (by omega)
  rw [show (31 : Nat) = 2 ^ 5 - 1 from rfl, Nat.and_two_pow_sub_one_eq_mod] at h
  rw [show IntKind.u64.wrap (-(n : Int)) = ((18446744073709551616 - n : Nat) : Int) from by rw [IntKind.wrap_u64]; omega, show (31 : Int) = ((2 ^ 5 - 1 : Nat) : Int) from rfl, h]
  omega

set_option maxHeartbeats 400000 in
theorem rotl36 (x : BitVec 32) (n : Nat) (h0 : 0 < n) (h1 : n < 32) (w : World) :
    Calls Tryd.prog 94 #[.int .u32 (wI x), .int .i64 (-(n : Int))] w fun e w' => e = .returned (.int .u32 (wI (rot x n))) ∧ w' = w := by
  have hr := and31 n h0 h1
  obtain ⟨m, hm⟩ : ∃ m, m = 32 - n := ⟨_, rfl⟩
  rw [← hm] at hr
  have HN : Hid (32 - m = n) := by show _ = _; omega
  have HM := hide hm
  have hn0 : (0 : Int) ≤ (m : Int) := by omega
  have hx0 := (wI_bd x).1
  have hn1 : (m : Int) < 32 := by omega
  clear hm h0 h1
  go_enter Tryd.func94, Tryd.ntmps94
  go_wp2_with fail
  go_ret
  refine ⟨ret_int ?_, rfl⟩
  rw [unhide HN, w_shr, w_shl, w_or, unhide HM, BitVec.or_comm]
  rfl

set_option maxHeartbeats 400000 in
theorem turn35 (x : BitVec 32) (n : Nat) (h0 : 0 < n) (h1 : n < 32) (w : World) :
    Calls Tryd.prog 91 #[.int .u32 (wI x), .int .i64 (n : Int)] w fun e w' => e = .returned (.int .u32 (wI (rot x n))) ∧ w' = w := by
  have hn0 : (0 : Int) < (n : Int) := by omega
  have hn1 : (n : Int) < 32 := by omega
  go_enter Tryd.func91, Tryd.ntmps91
  go_wp2_with (go_at_call 94; refine (rotl36 x n h0 h1 _).mono ?_; rintro e w' ⟨rfl, hw⟩; subst w')
  go_ret
  exact ⟨rfl, rfl⟩

theorem turnI (x : BitVec 32) (n : Int) (k : Nat) (hk : n = (k : Int)) (h0 : 0 < k) (h1 : k < 32) (w : World) :
    Calls Tryd.prog 91 #[.int .u32 (wI x), .int .i64 n] w fun e w' => e = .returned (.int .u32 (wI (rot x k))) ∧ w' = w := by
  subst hk; exact turn35 x k h0 h1 w
theorem turnS (x : BitVec 32) (n : Int) (k : Nat) (hk : n = (k : Int)) (h0 : 0 < k) (h1 : k < 32) (w : World) :
    Calls Tryd.prog 67 #[.int .u32 (wI x), .int .u64 n] w fun e w' => e = .returned (.int .u32 (wI (rot x k))) ∧ w' = w := by
  subst hk; exact turn34 x k h0 h1 w
theorem turnG (x : BitVec 32) (n : Int) (h0 : 0 < n) (h1 : n < 32) (w : World) :
    Calls Tryd.prog 91 #[.int .u32 (wI x), .int .i64 n] w fun e w' => e = .returned (.int .u32 (wI (rot x n.toNat))) ∧ w' = w :=
  turnI x n n.toNat (by omega) (by omega) (by omega) w
theorem turnH (x : BitVec 32) (n : Int) (h0 : 0 < n) (h1 : n < 32) (w : World) :
    Calls Tryd.prog 67 #[.int .u32 (wI x), .int .u64 n] w fun e w' => e = .returned (.int .u32 (wI (rot x n.toNat))) ∧ w' = w :=
  turnS x n n.toNat (by omega) (by omega) (by omega) w
theorem ch_eq (e f g : BitVec 32) : (e &&& f ||| ~~~e &&& g) = (e &&& f ^^^ ~~~e &&& g) := by
  apply BitVec.eq_of_getLsbD_eq
  intro i hi
  simp only [BitVec.getLsbD_or, BitVec.getLsbD_and, BitVec.getLsbD_xor, BitVec.getLsbD_not, hi, decide_true, Bool.true_and]
  cases e.getLsbD i <;> cases f.getLsbD i <;> cases g.getLsbD i <;> rfl
theorem maj_eq (a b c : BitVec 32) : (a &&& b ||| a &&& c ||| b &&& c) = (a &&& b ^^^ a &&& c ^^^ b &&& c) := by
  apply BitVec.eq_of_getLsbD_eq
  intro i hi
  simp only [BitVec.getLsbD_or, BitVec.getLsbD_and, BitVec.getLsbD_xor]
  cases a.getLsbD i <;> cases b.getLsbD i <;> cases c.getLsbD i <;> rfl

end Go.Proofs.YtilnpkonhbmdpaaDoor
