/- Numbers as bytes and back. Plain mathematics. -/
import Derived.Test.YtffnehaccgfnjaaNumM
namespace Go.Proofs.Ytffnehaccgfnjaa
theorem ofBE_from (l : List UInt8) : ∀ n : Nat, l.foldl (fun n c => n * 256 + c.toNat) n = n * 256 ^ l.length + ofBE l := by
  induction l with
  | nil => intro n; simp [ofBE]
  | cons c l ih =>
    intro n
    unfold ofBE
    rw [List.foldl_cons, List.foldl_cons, ih, ih (0 * 256 + c.toNat), List.length_cons, Nat.pow_succ, Nat.add_mul, Nat.zero_mul, Nat.zero_add, Nat.mul_assoc, Nat.mul_comm 256, Nat.add_assoc]
theorem ofBE_cons (c : UInt8) (l : List UInt8) : ofBE (c :: l) = c.toNat * 256 ^ l.length + ofBE l := by
  show List.foldl (fun n c => n * 256 + c.toNat) (0 * 256 + c.toNat) l = _
  rw [ofBE_from, Nat.zero_mul, Nat.zero_add]
theorem ofBE_be (v : Nat) : ∀ s, ofBE (be v s) = v % 256 ^ s
  | 0 => by simp [be, ofBE, Nat.mod_one]
  | s + 1 => by
    rw [be, ofBE_cons, be_len, ofBE_be v s, Nat.mod_pow_succ]
    unfold nb
    rw [UInt8.toNat_ofNat', Nat.mod_mod, Nat.mul_comm, Nat.add_comm]
theorem ofBE_lt2 (l : List UInt8) : ofBE l < 256 ^ l.length := by
  have := ofBE_lt l l.length
  rwa [List.take_length] at this
theorem be_add (a r s : Nat) : ∀ t, t ≤ s → be (a * 256 ^ s + r) t = be r t
  | 0, _ => rfl
  | t + 1, h => by
    rw [be, be, be_add a r s t (by omega)]
    congr 1
    unfold nb
    congr 1
    have e : a * 256 ^ s = 256 ^ t * (a * 256 ^ (s - t - 1) * 256) := by
      rw [Nat.mul_assoc, ← Nat.pow_succ, Nat.mul_left_comm, ← Nat.pow_add]
      congr 2
      omega
    rw [e, Nat.add_comm, Nat.add_mul_div_left _ _ (Nat.pow_pos (by decide))]
    omega
theorem be_ofBE (l : List UInt8) : be (ofBE l) l.length = l := by
  induction l with
  | nil => rfl
  | cons c l ih =>
    rw [List.length_cons, ofBE_cons, be, be_add _ _ _ _ (Nat.le_refl _), ih]
    congr 1
    unfold nb
    rw [Nat.mul_comm, Nat.mul_add_div (Nat.pow_pos (by decide)), Nat.div_eq_of_lt (ofBE_lt2 l), Nat.add_zero, Nat.mod_eq_of_lt c.toNat_lt]
    exact UInt8.ofNat_toNat
end Go.Proofs.Ytffnehaccgfnjaa
