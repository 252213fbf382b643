/- A tree whose parts stand in a row. -/
import Derived.Test.YthbkpdlcegakfaaDoorPrsM
namespace Go.Proofs.YthbkpdlcegakfaaDoor
open Go.ChangeShapes Go.WideShapes Go.ChangeAt Go.RowKit
/-- The tree t's parts stand from place k on. -/
def Sits (l : List Pt) (k : Nat) (t : Tr) : Prop := ∃ rest, l.drop k = t.flat k ++ rest
theorem drop_head {l : List Pt} {k : Nat} {p : Pt} {r : List Pt} (h : l.drop k = p :: r) : l[k]? = some p ∧ l.drop (k + 1) = r ∧ k < l.length := by
  have hk : k < l.length := by
    by_cases e : k < l.length
    · exact e
    · rw [List.drop_of_length_le (by omega)] at h; cases h
  rw [List.drop_eq_getElem_cons hk] at h
  injection h with h1 h2
  exact ⟨by rw [List.getElem?_eq_getElem hk, h1], h2, hk⟩
theorem Sits.pane {l : List Pt} {k : Nat} {n : Int} (h : Sits l k (.pane n)) : l[k]? = some ⟨n, false, 0, -1, -1⟩ ∧ k < l.length := by
  obtain ⟨r, h⟩ := h
  have := drop_head (p := ⟨n, false, 0, -1, -1⟩) (r := r) h
  exact ⟨this.1, this.2.2⟩
theorem Sits.split {l : List Pt} {k : Nat} {b : Bool} {s : Int} {a c : Tr} (h : Sits l k (.split b s a c)) : l[k]? = some ⟨0, b, s, ((k + 1 : Nat) : Int), ((k + 1 + a.cnt : Nat) : Int)⟩ ∧ k < l.length ∧ Sits l (k + 1) a ∧ Sits l (k + 1 + a.cnt) c := by
  obtain ⟨r, h⟩ := h
  have h' : l.drop k = ⟨0, b, s, ((k + 1 : Nat) : Int), ((k + 1 + a.cnt : Nat) : Int)⟩ :: (a.flat (k + 1) ++ (c.flat (k + 1 + a.cnt) ++ r)) := by rw [h]; simp only [Tr.flat, List.cons_append, List.append_assoc]
  obtain ⟨h1, h2, h3⟩ := drop_head h'
  refine ⟨h1, h3, ⟨_, h2⟩, ⟨r, ?_⟩⟩
  have := congrArg (List.drop a.cnt) h2
  rw [List.drop_drop] at this
  rw [this, List.drop_append_of_le_length (by rw [Tr.flat_len]; omega), List.drop_of_length_le (by rw [Tr.flat_len]; omega), List.nil_append]
end Go.Proofs.YthbkpdlcegakfaaDoor
