/- What a parser may keep. Plain mathematics. -/
import Derived.Test.YtolbmblffogloabDoorActM
import Derived.Lib.DecodeN
namespace Go.Proofs.YtolbmblffogloabDoor
open Go.ChangeShapes Go.WideShapes Go.ChangeAt Go.RowKit
/-- How many bytes a rune has that begins with this byte: 1 below 128, 0 where none does. -/
def leadSz (b : Nat) : Nat := if b < 128 then 1 else if 194 ≤ b ∧ b ≤ 223 then 2 else if 224 ≤ b ∧ b ≤ 239 then 3 else if 240 ≤ b ∧ b ≤ 244 then 4 else 0
def secLo (b : Nat) : Nat := if b = 224 then 160 else if b = 240 then 144 else 128
def secHi (b : Nat) : Nat := if b = 237 then 159 else if b = 244 then 143 else 191
def bIn (c lo hi : Nat) : Bool := decide (lo ≤ c ∧ c ≤ hi)
/-- The beginning of a rune that is not whole. -/
def begB : List UInt8 → Bool
  | [a] => decide (1 < leadSz a.toNat)
  | [a, b] => decide (2 < leadSz a.toNat) && bIn b.toNat (secLo a.toNat) (secHi a.toNat)
  | [a, b, c] => decide (3 < leadSz a.toNat) && (bIn b.toNat (secLo a.toNat) (secHi a.toNat) && bIn c.toNat 128 191)
  | _ => false
theorem begB_1 (a : UInt8) : begB [a] = decide (1 < leadSz a.toNat) := rfl
theorem begB_2 (a b : UInt8) : begB [a, b] = (decide (2 < leadSz a.toNat) && bIn b.toNat (secLo a.toNat) (secHi a.toNat)) := rfl
theorem begB_3 (a b c : UInt8) : begB [a, b, c] = (decide (3 < leadSz a.toNat) && (bIn b.toNat (secLo a.toNat) (secHi a.toNat) && bIn c.toNat 128 191)) := rfl
theorem leadSz_le (b : Nat) : leadSz b ≤ 4 := by unfold leadSz; repeat' split
                                                 all_goals omega
def parB (st : Int) (l : List Int) (pr : Bool) (t u : List UInt8) : Bool :=
  inB st 0 6 && ((if st = 2 then argsB l else bareB pr l) && ((if st = 6 then begB u else emptyB u) && (titleB t && (decide (st = 4 ∨ st = 5) || emptyB t))))
theorem list1 {s : ByteArray} (h : s.size = 1) : s.data.toList = [s[0]] := by
  obtain ⟨⟨l⟩⟩ := s
  match l, h with
  | [a], _ => rfl
theorem list2 {s : ByteArray} (h : s.size = 2) : s.data.toList = [s[0], s[1]] := by
  obtain ⟨⟨l⟩⟩ := s
  match l, h with
  | [a, b], _ => rfl
theorem list3 {s : ByteArray} (h : s.size = 3) : s.data.toList = [s[0], s[1], s[2]] := by
  obtain ⟨⟨l⟩⟩ := s
  match l, h with
  | [a, b, c], _ => rfl
theorem beg_long {s : ByteArray} (h : 4 ≤ s.size) : begB s.data.toList = false := by
  obtain ⟨⟨l⟩⟩ := s
  match l, h with
  | a :: b :: c :: d :: r, _ => rfl
theorem beg_none {s : ByteArray} (h : s.size = 0) : begB s.data.toList = false := by
  obtain ⟨⟨l⟩⟩ := s
  match l, h with
  | [], _ => rfl
/-- A string that is at least as long as its first byte says begins no rune. -/
theorem beg_full {s : ByteArray} (h1 : 0 < s.size) (h : leadSz s[0].toNat ≤ s.size) : begB s.data.toList = false := by
  by_cases e1 : s.size = 1
  · rw [list1 e1, begB_1, decide_eq_false (by omega)]
  by_cases e2 : s.size = 2
  · rw [list2 e2, begB_2, decide_eq_false (by omega)]; rfl
  by_cases e3 : s.size = 3
  · rw [list3 e3, begB_3, decide_eq_false (by omega)]; rfl
  · exact beg_long (by omega)
theorem first_all : ∀ b, b < 256 → (1 < Lib.firstT b % 8 → leadSz b = Lib.firstT b % 8 ∧ secLo b = Lib.accLo (Lib.firstT b / 16) ∧ secHi b = Lib.accHi (Lib.firstT b / 16)) ∧ (Lib.firstT b % 8 ≤ 1 → leadSz b ≤ 1) := by decide +kernel
theorem first_cases (b : Nat) : Lib.firstT b = 240 ∨ Lib.firstT b = 241 ∨ Lib.firstT b = 2 ∨ Lib.firstT b = 19 ∨ Lib.firstT b = 3 ∨ Lib.firstT b = 35 ∨ Lib.firstT b = 52 ∨ Lib.firstT b = 4 ∨ Lib.firstT b = 68 := by
  unfold Lib.firstT
  split
  · simp
  split
  · simp
  split
  · simp
  split
  · simp
  split
  · simp
  split
  · simp
  split
  · simp
  split
  · simp
  split
  · simp
  split <;> simp
end Go.Proofs.YtolbmblffogloabDoor
