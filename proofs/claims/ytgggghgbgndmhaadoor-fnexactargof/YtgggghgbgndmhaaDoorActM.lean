/- What a parser may tell, and what it may keep. Plain mathematics. -/
import Derived.Test.YtgggghgbgndmhaaDoorStepM
namespace Go.Proofs.YtgggghgbgndmhaaDoor
open Go.ChangeShapes Go.WideShapes Go.ChangeAt Go.RowKit
theorem b_true {p : Prop} [Decidable p] (h : p) : true = decide p := (decide_eq_true h).symm
theorem b_false {p : Prop} [Decidable p] (h : ¬ p) : false = decide p := (decide_eq_false h).symm
def inB (n a b : Int) : Bool := decide (a ≤ n ∧ n ≤ b)
theorem in_yes {n a b : Int} (h : a ≤ n ∧ n ≤ b) : inB n a b = true := decide_eq_true h
theorem in_no {n a b : Int} (h : ¬ (a ≤ n ∧ n ≤ b)) : inB n a b = false := decide_eq_false h
def allArgs (l : List Int) : Bool := l.all fun x => inB x (-1) 9999
def argsB (l : List Int) : Bool := decide (1 ≤ l.length ∧ l.length ≤ 8) && allArgs l
def byteIn (c : UInt8) : Bool := inB (c.toNat : Int) 32 126
def allText (t : List UInt8) : Bool := t.all byteIn
def titleB (t : List UInt8) : Bool := decide (t.length ≤ 40) && allText t
def runeB (n : Int) : Bool := decide (32 ≤ n ∧ n ≤ 1114111 ∧ n ≠ 127 ∧ ¬ (55296 ≤ n ∧ n ≤ 57343))
def ctrlB (n : Int) : Bool := decide (n = 7 ∨ n = 8 ∨ n = 9 ∨ n = 10 ∨ n = 13)
def escB (n : Int) : Bool := decide (n = 55 ∨ n = 56 ∨ n = 68 ∨ n = 69 ∨ n = 77 ∨ n = 99)
def emptyB (t : List UInt8) : Bool := t.isEmpty
theorem emp_eq (t : ByteArray) : t.toList.isEmpty = emptyB t.data.toList := by rw [ByteArray.toList_eq]; rfl
def bareB (pr : Bool) (l : List Int) : Bool := decide (l.length = 0) && !pr
def actB (kd n : Int) (pr : Bool) (l : List Int) (t : List UInt8) : Bool :=
  if kd = 1 then runeB n && (bareB pr l && emptyB t)
  else if kd = 2 then ctrlB n && (bareB pr l && emptyB t)
  else if kd = 3 then escB n && (bareB pr l && emptyB t)
  else if kd = 4 then inB n 64 126 && (argsB l && emptyB t)
  else if kd = 5 then decide (n = 0) && (bareB pr l && titleB t)
  else false
theorem actB_1 (n : Int) (pr : Bool) (l : List Int) (t : List UInt8) : actB 1 n pr l t = (runeB n && (bareB pr l && emptyB t)) := rfl
theorem actB_2 (n : Int) (pr : Bool) (l : List Int) (t : List UInt8) : actB 2 n pr l t = (ctrlB n && (bareB pr l && emptyB t)) := rfl
theorem actB_3 (n : Int) (pr : Bool) (l : List Int) (t : List UInt8) : actB 3 n pr l t = (escB n && (bareB pr l && emptyB t)) := rfl
theorem actB_4 (n : Int) (pr : Bool) (l : List Int) (t : List UInt8) : actB 4 n pr l t = (inB n 64 126 && (argsB l && emptyB t)) := rfl
theorem actB_5 (n : Int) (pr : Bool) (l : List Int) (t : List UInt8) : actB 5 n pr l t = (decide (n = 0) && (bareB pr l && titleB t)) := rfl
theorem args_take_all {l : List Int} (h : ∀ q (hq : q < l.length), inB l[q] (-1) 9999 = true) : allArgs l = true := by
  unfold allArgs; rw [List.all_eq_true]
  intro x hx
  obtain ⟨q, hq, rfl⟩ := List.mem_iff_getElem.1 hx
  exact h q hq
theorem args_bad {l : List Int} {q : Nat} (hq : q < l.length) (h : inB l[q] (-1) 9999 = false) : allArgs l = false := by
  unfold allArgs; rw [List.all_eq_false]
  exact ⟨l[q], List.getElem_mem hq, by rw [h]; decide⟩
theorem text_take_all {t : ByteArray} (h : ∀ q (hq : q < t.size), inB (t[q].toNat : Int) 32 126 = true) : allText t.data.toList = true := by
  unfold allText; rw [List.all_eq_true]
  intro x hx
  obtain ⟨q, hq, rfl⟩ := List.mem_iff_getElem.1 hx
  exact h q (by simpa using hq)
theorem text_bad {t : ByteArray} {q : Nat} (hq : q < t.size) (h : inB (t[q].toNat : Int) 32 126 = false) : allText t.data.toList = false := by
  unfold allText; rw [List.all_eq_false]
  refine ⟨t.data.toList[q]'(by simpa using hq), List.getElem_mem _, ?_⟩
  have e : byteIn (t.data.toList[q]'(by simpa using hq)) = inB (t[q].toNat : Int) 32 126 := rfl
  rw [e, h]; decide
theorem text_len (t : ByteArray) : t.data.toList.length = t.size := by simp
theorem text_empty {t : ByteArray} (h : t.size = 0) : t = ⟨#[]⟩ := by
  obtain ⟨d⟩ := t
  have : d = #[] := Array.eq_empty_of_size_eq_zero h
  rw [this]
end Go.Proofs.YtgggghgbgndmhaaDoor
