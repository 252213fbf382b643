/- Texts put together: InM CelM. -/
import Derived.Test.YtfibbhggphmebaaZBase
/- Numbers within bounds, texts of bytes within bounds, runes. Plain mathematics. -/
namespace Go.Proofs.Ytfibbhggphmebaa
open Go.ChangeShapes Go.WideShapes Go.ChangeAt Go.RowKit
theorem b_true {p : Prop} [Decidable p] (h : p) : true = decide p := (decide_eq_true h).symm
theorem b_false {p : Prop} [Decidable p] (h : ¬ p) : false = decide p := (decide_eq_false h).symm
def inB (n a b : Int) : Bool := decide (a ≤ n ∧ n ≤ b)
def byteIn (c : UInt8) : Bool := inB (c.toNat : Int) 32 126
def allText (t : List UInt8) : Bool := t.all byteIn
def titleB (t : List UInt8) : Bool := decide (t.length ≤ 40) && allText t
def runeB (n : Int) : Bool := decide (32 ≤ n ∧ n ≤ 1114111 ∧ n ≠ 127 ∧ ¬ (55296 ≤ n ∧ n ≤ 57343))
end Go.Proofs.Ytfibbhggphmebaa

/- Right cells. Plain mathematics. -/
namespace Go.Proofs.Ytfibbhggphmebaa
open Go.ChangeShapes Go.WideShapes Go.ChangeAt Go.RowKit
def cellB (c : Int × Int) : Bool := runeB c.1 && inB c.2 0 127
theorem all_take {α : Type} {l : List α} {f : α → Bool} (h : ∀ q (hq : q < l.length), f l[q] = true) : l.all f = true := by
  rw [List.all_eq_true]
  intro x hx
  obtain ⟨q, hq, rfl⟩ := List.mem_iff_getElem.1 hx
  exact h q hq
theorem all_bad {α : Type} {l : List α} {f : α → Bool} {q : Nat} (hq : q < l.length) (h : f l[q] = false) : l.all f = false := by
  rw [List.all_eq_false]
  exact ⟨l[q], List.getElem_mem hq, by rw [h]; decide⟩
end Go.Proofs.Ytfibbhggphmebaa
