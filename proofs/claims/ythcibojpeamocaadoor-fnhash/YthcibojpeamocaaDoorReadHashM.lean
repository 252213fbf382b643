/- Digits read as a hash: the plain mathematics. -/
import Derived.Test.YthcibojpeamocaaDoorInfo
import Derived.Laws.BitsAllLaws
namespace Go.Proofs.YthcibojpeamocaaDoor
open Go.ChangeShapes Go.WideShapes Go.ChangeAt Go.RowKit

def digB (n : Int) : Bool := decide (48 ≤ n ∧ n ≤ 57)

def nib (n : Int) : Int := if 48 ≤ n ∧ n ≤ 57 then n - 48 else if 97 ≤ n ∧ n ≤ 102 then n - 87 else -1

theorem nib_bd (n : Int) : -1 ≤ nib n ∧ nib n ≤ 15 := by unfold nib; split <;> (try split) <;> omega

abbrev pairOK (s : ByteArray) (j : Nat) : Prop := 0 ≤ nib (bAt s (2 * j)) ∧ 0 ≤ nib (bAt s (2 * j + 1))

def byteOf (s : ByteArray) (j : Nat) : UInt8 := UInt8.ofNat (16 * nib (bAt s (2 * j)) + nib (bAt s (2 * j + 1))).toNat

def rdL (s : ByteArray) (k : Nat) : List UInt8 := (List.range k).map (byteOf s)

theorem rdL_len (s : ByteArray) (k : Nat) : (rdL s k).length = k := by simp [rdL]

theorem rdL_snoc (s : ByteArray) (k : Nat) : rdL s (k + 1) = rdL s k ++ [byteOf s k] := by simp [rdL, List.range_succ]

abbrev rdAll (s : ByteArray) : Prop := s.size = 64 ∧ ∀ j, j < 32 → pairOK s j

def rdC (s : ByteArray) : Int := if 65536 < s.size then 2 else if rdAll s then 0 else 3

def rdS (s : ByteArray) : ByteArray := if rdAll s then ⟨(rdL s 32).toArray⟩ else ⟨#[]⟩

theorem rd_long {s : ByteArray} (h : 65536 < s.size) : rdC s = 2 ∧ rdS s = ⟨#[]⟩ := by
  have : ¬ rdAll s := fun k => by have := k.1; omega
  unfold rdC rdS; rw [if_pos h, if_neg this]; exact ⟨rfl, rfl⟩

theorem rd_form {s : ByteArray} (h : ¬ 65536 < s.size) (h2 : ¬ rdAll s) : rdC s = 3 ∧ rdS s = ⟨#[]⟩ := by
  unfold rdC rdS; rw [if_neg h, if_neg h2, if_neg h2]; exact ⟨rfl, rfl⟩

theorem rd_ok {s : ByteArray} (h : rdAll s) : rdC s = 0 ∧ rdS s = ⟨(rdL s 32).toArray⟩ := by
  have : ¬ 65536 < s.size := by have := h.1; omega
  unfold rdC rdS; rw [if_neg this, if_pos h, if_pos h]; exact ⟨rfl, rfl⟩

theorem byte_val (s : ByteArray) (k : Nat) (h : pairOK s k) : ((byteOf s k).toNat : Int) = 16 * nib (bAt s (2 * k)) + nib (bAt s (2 * k + 1)) := by
  have a := nib_bd (bAt s (2 * k)); have b := nib_bd (bAt s (2 * k + 1)); have c := h.1; have d := h.2
  unfold byteOf; rw [UInt8.toNat_ofNat']; omega

theorem or_fin : ∀ a b : Fin 16, bits .or .i64 (((16 * a.val : Nat) : Int)) (b.val : Int) = ((16 * a.val + b.val : Nat) : Int) := by decide +kernel

theorem or_nib (a b : Int) (h0 : 0 ≤ a) (h1 : a ≤ 15) (h2 : 0 ≤ b) (h3 : b ≤ 15) : bits .or .i64 (a * 16) b = 16 * a + b := by
  have h := or_fin ⟨a.toNat, by omega⟩ ⟨b.toNat, by omega⟩
  have e1 : ((16 * a.toNat : Nat) : Int) = a * 16 := by omega
  have e2 : ((b.toNat : Nat) : Int) = b := by omega
  have e3 : ((16 * a.toNat + b.toNat : Nat) : Int) = 16 * a + b := by omega
  rw [e3] at h
  simp only [e1, e2] at h
  exact h

theorem pair_snoc {s : ByteArray} {k : Nat} (h : ∀ j, j < k → pairOK s j) (hk : pairOK s k) : ∀ j, j < k + 1 → pairOK s j := by
  intro i hi
  by_cases e : i = k
  · subst e; exact hk
  · exact h i (by omega)

theorem read_rel {w wr w1 : World} {o : Obj} {v v' : Value} {e : TypeId} {m : List UInt8} {s : ByteArray} {k : Nat} (hm : m = rdL s k)
    (hown : wr.ownsRow w.heap.size e 1 v m.length (B8 m)) (hbl : Below w.heap.size w wr)
    (hown1 : w1.ownsRow w.heap.size e 1 v' (m.length + 1) (B8 m ++ B8 [byteOf s k]))
    (hgrow : (wr.alloc o).grownBy w1 v.ownBlock) :
    w1.ownsRow w.heap.size e 1 v' (rdL s (k + 1)).length (B8 (rdL s (k + 1))) ∧ Below w.heap.size w w1 := by
  have h := own_app hown1 rfl
  rw [hm, ← rdL_snoc] at h
  exact ⟨h, below_app hbl hbl.size hown (Nat.le_refl _) hgrow⟩
end Go.Proofs.YthcibojpeamocaaDoor
