/- Texts put together: ReadNumM BeM. -/
import Derived.Test.YtblhediekdeffaaDoorZG2
import Derived.Test.YtblhediekdeffaaDoorZG7
/- Bytes read as numbers: the plain mathematics. -/
namespace Go.Proofs.YtblhediekdeffaaDoor
open Go.ChangeShapes Go.WideShapes Go.ChangeAt Go.RowKit
def chunk (l : List UInt8) (k : Nat) : List UInt8 := (l.drop (3 * k)).take 3
def numsR (l : List UInt8) (n : Nat) : List Int := (List.range n).map fun k => ((ofBE (chunk l k) : Nat) : Int) - 1
theorem numsR_len (l : List UInt8) (n : Nat) : (numsR l n).length = n := by simp [numsR]
theorem numsR_snoc (l : List UInt8) (k : Nat) : numsR l (k + 1) = numsR l k ++ [((ofBE (chunk l k) : Nat) : Int) - 1] := by
  unfold numsR; rw [List.range_succ, List.map_append]; rfl
def rnL (l : List UInt8) : List Int := if 65536 < l.length then [] else if l.length % 3 = 0 then (if 4096 < l.length / 3 then [] else numsR l (l.length / 3)) else []
def rnC (l : List UInt8) : Int := if 65536 < l.length then 2 else if l.length % 3 = 0 then (if 4096 < l.length / 3 then 6 else 0) else 3
theorem rn_long {l : List UInt8} (h : 65536 < l.length) : rnL l = [] ∧ rnC l = 2 := by unfold rnL rnC; rw [if_pos h, if_pos h]; exact ⟨rfl, rfl⟩
theorem rn_form {l : List UInt8} (h : ¬ 65536 < l.length) (h2 : ¬ l.length % 3 = 0) : rnL l = [] ∧ rnC l = 3 := by unfold rnL rnC; rw [if_neg h, if_neg h, if_neg h2, if_neg h2]; exact ⟨rfl, rfl⟩
theorem rn_many {l : List UInt8} (h : ¬ 65536 < l.length) (h2 : l.length % 3 = 0) (h3 : 4096 < l.length / 3) : rnL l = [] ∧ rnC l = 6 := by unfold rnL rnC; rw [if_neg h, if_neg h, if_pos h2, if_pos h2, if_pos h3, if_pos h3]; exact ⟨rfl, rfl⟩
theorem rn_ok {l : List UInt8} (h : ¬ 65536 < l.length) (h2 : l.length % 3 = 0) (h3 : ¬ 4096 < l.length / 3) : rnL l = numsR l (l.length / 3) ∧ rnC l = 0 := by unfold rnL rnC; rw [if_neg h, if_neg h, if_pos h2, if_pos h2, if_neg h3, if_neg h3]; exact ⟨rfl, rfl⟩
theorem nil_ownI (w : World) (base : Nat) (t : TypeId) : w.ownsRow base t 1 (.slice none 0 0) ([] : List Int).length (cI []) := World.ownsRow_nil w base t 1
theorem lit_emptyI (w : World) (base : Nat) (t : TypeId) (hb : base ≤ w.heap.size) : (w.alloc (.cells #[] t)).ownsRow base t 1 (.slice (some ⟨w.heap.size, 0, none⟩) 0 0) ([] : List Int).length (cI []) :=
  World.ownsRow_lit w #[] 0 hb (by decide) rfl
theorem own_appI {w : World} {base : Nat} {e : TypeId} {v : Value} {l m : List Int} {n : Nat} (h : w.ownsRow base e 1 v (l.length + n) (cI l ++ cI m)) (hn : m.length = n) : w.ownsRow base e 1 v (l ++ m).length (cI (l ++ m)) := by
  rw [cI_app, List.length_append, hn]; exact h
end Go.Proofs.YtblhediekdeffaaDoor

/- Numbers as bytes and back. Plain mathematics. -/
namespace Go.Proofs.YtblhediekdeffaaDoor
theorem ofBE_from (l : List UInt8) : ∀ n : Nat, l.foldl (fun n c => n * 256 + c.toNat) n = n * 256 ^ l.length + ofBE l := by
  induction l with
  | nil => intro n; simp [ofBE]
  | cons c l ih =>
    intro n
    unfold ofBE
    rw [List.foldl_cons, List.foldl_cons, ih, ih (0 * 256 + c.toNat), List.length_cons, Nat.pow_succ, Nat.add_mul, Nat.zero_mul, Nat.zero_add, Nat.mul_assoc, Nat.mul_comm 256, Nat.add_assoc]
theorem ofBE_cons (c : UInt8) (l : List UInt8) : ofBE (c :: l) = c.toNat * 256 ^ l.length + ofBE l := by
  show List.foldl (fun n c => n * 256 + c.toNat) (0 * 256 + c.toNat) l = _
  rw [ofBE_from, Nat.zero_mul, Nat.zero_add]
theorem ofBE_be (v : Nat) : ∀ s, ofBE (be v s) = v % 256 ^ s
  | 0 => by simp [be, ofBE, Nat.mod_one]
  | s + 1 => by
    rw [be, ofBE_cons, be_len, ofBE_be v s, Nat.mod_pow_succ]
    unfold nb
    rw [UInt8.toNat_ofNat', Nat.mod_mod, Nat.mul_comm, Nat.add_comm]
theorem ofBE_lt2 (l : List UInt8) : ofBE l < 256 ^ l.length := by
  have := ofBE_lt l l.length
  rwa [List.take_length] at this
theorem be_add (a r s : Nat) : ∀ t, t ≤ s → be (a * 256 ^ s + r) t = be r t
  | 0, _ => rfl
  | t + 1, h => by
    rw [be, be, be_add a r s t (by omega)]
    congr 1
    unfold nb
    congr 1
    have e : a * 256 ^ s = 256 ^ t * (a * 256 ^ (s - t - 1) * 256) := by
      rw [Nat.mul_assoc, ← Nat.pow_succ, Nat.mul_left_comm, ← Nat.pow_add]
      congr 2
      omega
    rw [e, Nat.add_comm, Nat.add_mul_div_left _ _ (Nat.pow_pos (by decide))]
    omega
theorem be_ofBE (l : List UInt8) : be (ofBE l) l.length = l := by
  induction l with
  | nil => rfl
  | cons c l ih =>
    rw [List.length_cons, ofBE_cons, be, be_add _ _ _ _ (Nat.le_refl _), ih]
    congr 1
    unfold nb
    rw [Nat.mul_comm, Nat.mul_add_div (Nat.pow_pos (by decide)), Nat.div_eq_of_lt (ofBE_lt2 l), Nat.add_zero, Nat.mod_eq_of_lt c.toNat_lt]
    exact UInt8.ofNat_toNat
end Go.Proofs.YtblhediekdeffaaDoor
