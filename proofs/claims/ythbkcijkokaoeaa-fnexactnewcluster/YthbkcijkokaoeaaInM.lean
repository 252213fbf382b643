/- Numbers within bounds, texts of bytes within bounds, runes. Plain mathematics. -/
import Derived.Test.YthbkcijkokaoeaaBase
namespace Go.Proofs.Ythbkcijkokaoeaa
open Go.ChangeShapes Go.WideShapes Go.ChangeAt Go.RowKit
theorem b_true {p : Prop} [Decidable p] (h : p) : true = decide p := (decide_eq_true h).symm
theorem b_false {p : Prop} [Decidable p] (h : ¬ p) : false = decide p := (decide_eq_false h).symm
def inB (n a b : Int) : Bool := decide (a ≤ n ∧ n ≤ b)
theorem in_yes {n a b : Int} (h : a ≤ n ∧ n ≤ b) : inB n a b = true := decide_eq_true h
theorem in_no {n a b : Int} (h : ¬ (a ≤ n ∧ n ≤ b)) : inB n a b = false := decide_eq_false h
def byteIn (c : UInt8) : Bool := inB (c.toNat : Int) 32 126
def allText (t : List UInt8) : Bool := t.all byteIn
def titleB (t : List UInt8) : Bool := decide (t.length ≤ 40) && allText t
def runeB (n : Int) : Bool := decide (32 ≤ n ∧ n ≤ 1114111 ∧ n ≠ 127 ∧ ¬ (55296 ≤ n ∧ n ≤ 57343))
theorem text_take_all {t : ByteArray} (h : ∀ q (hq : q < t.size), inB (t[q].toNat : Int) 32 126 = true) : allText t.data.toList = true := by
  unfold allText; rw [List.all_eq_true]
  intro x hx
  obtain ⟨q, hq, rfl⟩ := List.mem_iff_getElem.1 hx
  exact h q (by simpa using hq)
theorem text_bad {t : ByteArray} {q : Nat} (hq : q < t.size) (h : inB (t[q].toNat : Int) 32 126 = false) : allText t.data.toList = false := by
  unfold allText; rw [List.all_eq_false]
  refine ⟨t.data.toList[q]'(by simpa using hq), List.getElem_mem _, ?_⟩
  have e : byteIn (t.data.toList[q]'(by simpa using hq)) = inB (t[q].toNat : Int) 32 126 := rfl
  rw [e, h]; decide
theorem text_len (t : ByteArray) : t.data.toList.length = t.size := by simp
theorem text_empty {t : ByteArray} (h : t.size = 0) : t = ⟨#[]⟩ := by
  obtain ⟨d⟩ := t
  have : d = #[] := Array.eq_empty_of_size_eq_zero h
  rw [this]
end Go.Proofs.Ythbkcijkokaoeaa
