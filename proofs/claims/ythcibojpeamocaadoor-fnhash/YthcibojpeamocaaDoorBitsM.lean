/- Hashes as bits: the plain mathematics. -/
import Derived.Test.YthcibojpeamocaaDoorInfo
import Derived.Laws.BitsAllLaws
namespace Go.Proofs.YthcibojpeamocaaDoor
open Go.ChangeShapes Go.WideShapes Go.ChangeAt Go.RowKit

def bitAt (c : UInt8) (j : Nat) : UInt8 := UInt8.ofNat (48 + c.toNat / 2 ^ j % 2)

def bitsOf (c : UInt8) : List UInt8 := [bitAt c 7, bitAt c 6, bitAt c 5, bitAt c 4, bitAt c 3, bitAt c 2, bitAt c 1, bitAt c 0]

def bitsL (l : List UInt8) : List UInt8 := l.flatMap bitsOf

theorem bitsL_len (l : List UInt8) : (bitsL l).length = 8 * l.length := by
  induction l with
  | nil => rfl
  | cons c l ih => simp [bitsL, bitsOf] at *; omega

theorem bit_val (c : UInt8) (j : Nat) : (48 + bits BinOp.and IntKind.u8 ((c.toNat : Int) / 2 ^ j) 1) % 256 = ((bitAt c j).toNat : Int) := by
  have hlt : c.toNat / 2 ^ j < 256 := Nat.lt_of_le_of_lt (Nat.div_le_self _ _) c.toNat_lt
  have e : ((c.toNat : Int) / 2 ^ j) = ((c.toNat / 2 ^ j : Nat) : Int) := by simp
  have h := u8_and_nat (c.toNat / 2 ^ j) 1 hlt (by decide)
  rw [Nat.and_one_is_mod] at h
  rw [e, show (1 : Int) = ((1 : Nat) : Int) from rfl, h]
  unfold bitAt
  rw [UInt8.toNat_ofNat']
  omega

theorem bits_take (c : UInt8) : ∀ b, b < 8 → (bitsOf c).take (8 - b) = (bitsOf c).take (8 - (b + 1)) ++ [bitAt c b] := by
  intro b hb
  match b, hb with
  | 0, _ => rfl
  | 1, _ => rfl
  | 2, _ => rfl
  | 3, _ => rfl
  | 4, _ => rfl
  | 5, _ => rfl
  | 6, _ => rfl
  | 7, _ => rfl

theorem bitsL_snoc (s : ByteArray) (k : Nat) (h : k < s.size) : bitsL (s.data.toList.take (k + 1)) = bitsL (s.data.toList.take k) ++ bitsOf s[k] := by
  rw [take_snoc s k h]; simp [bitsL]

theorem bits_full (c : UInt8) : (bitsOf c).take (8 - 0) = bitsOf c := rfl

theorem bits_rel {w wr w1 : World} {o : Obj} {v v' : Value} {e : TypeId} {m l : List UInt8} {c : UInt8} {b : Nat} (hb : b < 8) (hm : m = l ++ (bitsOf c).take (8 - (b + 1)))
    (hown : wr.ownsRow w.heap.size e 1 v m.length (B8 m)) (hbl : Below w.heap.size w wr)
    (hown1 : w1.ownsRow w.heap.size e 1 v' (m.length + 1) (B8 m ++ B8 [bitAt c b]))
    (hgrow : (wr.alloc o).grownBy w1 v.ownBlock) :
    w1.ownsRow w.heap.size e 1 v' (l ++ (bitsOf c).take (8 - b)).length (B8 (l ++ (bitsOf c).take (8 - b))) ∧ Below w.heap.size w w1 := by
  have h := own_app hown1 rfl
  rw [hm, List.append_assoc, ← bits_take c b hb] at h
  exact ⟨h, below_app hbl hbl.size hown (Nat.le_refl _) hgrow⟩
end Go.Proofs.YthcibojpeamocaaDoor
