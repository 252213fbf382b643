/- Texts put together: CelM VwM. -/
import Derived.Test.YtilnpkonhbmdpaaDoorZG2
import Derived.Test.YtilnpkonhbmdpaaDoorZG23
/- Right cells. Plain mathematics. -/
namespace Go.Proofs.YtilnpkonhbmdpaaDoor
open Go.ChangeShapes Go.WideShapes Go.ChangeAt Go.RowKit
def cellB (c : Int × Int) : Bool := runeB c.1 && inB c.2 0 127
theorem all_take {α : Type} {l : List α} {f : α → Bool} (h : ∀ q (hq : q < l.length), f l[q] = true) : l.all f = true := by
  rw [List.all_eq_true]
  intro x hx
  obtain ⟨q, hq, rfl⟩ := List.mem_iff_getElem.1 hx
  exact h q hq
theorem all_bad {α : Type} {l : List α} {f : α → Bool} {q : Nat} (hq : q < l.length) (h : f l[q] = false) : l.all f = false := by
  rw [List.all_eq_false]
  exact ⟨l[q], List.getElem_mem hq, by rw [h]; decide⟩
end Go.Proofs.YtilnpkonhbmdpaaDoor

/- Rows of a view: which are right. Plain mathematics. -/
namespace Go.Proofs.YtilnpkonhbmdpaaDoor
open Go.ChangeShapes Go.WideShapes Go.ChangeAt Go.RowKit
set_option linter.unusedVariables false
/-- The bytes of W right cells. -/
def rowB (W : Nat) (r : ByteArray) : Bool := decide (r.size = 4 * W) && (cells4 r.data.toList W).all cellB
def rowAt (W : Nat) (R : List ByteArray) (k : Nat) : Bool := match R[k]? with | some r => rowB W r | none => false
theorem rowAt_at (W : Nat) (R : List ByteArray) (k : Nat) (h : k < R.length) : rowAt W R k = rowB W R[k] := by unfold rowAt; rw [List.getElem?_eq_getElem h]
/-- Just H rows, each right. -/
def rowsB (W H : Nat) (R : List ByteArray) : Bool := decide (R.length = H) && R.all (rowB W)
theorem rows_set {W : Nat} {R : List ByteArray} {n : Nat} (hn : R.length = n) : decide (bset (rowAt W R) n = 2 ^ n - 1) = R.all (rowB W) := by
  subst hn
  by_cases h : ∀ q (hq : q < R.length), rowB W R[q] = true
  · rw [all_take h, decide_eq_true (bset_all fun i hi => by rw [rowAt_at W R i hi]; exact h i hi)]
  · have h2 : ∃ q, ∃ hq : q < R.length, rowB W R[q] = false := by
      apply Classical.byContradiction
      intro hc
      apply h
      intro q hq
      cases hb : rowB W R[q]
      · exact absurd ⟨q, hq, hb⟩ hc
      · rfl
    obtain ⟨q, hq, hb⟩ := h2
    rw [all_bad hq hb, decide_eq_false]
    exact Nat.ne_of_lt (bset_less hq (by rw [rowAt_at W R q hq]; exact hb))
theorem rowB_len {W : Nat} {r : ByteArray} (h : r.size ≠ 4 * W) : rowB W r = false := by unfold rowB; rw [decide_eq_false h]; rfl
theorem rowB_yes {W : Nat} {r : ByteArray} (h : r.size = 4 * W) (h2 : ∀ q (hq : q < (cells4 r.data.toList W).length), cellB (cells4 r.data.toList W)[q] = true) : rowB W r = true := by unfold rowB; rw [decide_eq_true h, all_take h2]; rfl
theorem rowB_no {W : Nat} {r : ByteArray} {q : Nat} (hq : q < (cells4 r.data.toList W).length) (h : cellB (cells4 r.data.toList W)[q] = false) : rowB W r = false := by unfold rowB; rw [all_bad hq h, Bool.and_false]
theorem rowB_noD {W : Nat} {r : ByteArray} {d : List UInt8} {q : Nat} (hd : d = r.data.toList) (hq : q < (cells4 d W).length) (h : cellB (cells4 d W)[q] = false) : rowB W r = false := by subst hd; exact rowB_no hq h
end Go.Proofs.YtilnpkonhbmdpaaDoor
