/- Entries that two logs have alike from the front on. Plain mathematics. -/
import Derived.Test.YtloblilbmdiafaaSteM
namespace Go.Proofs.Ytloblilbmdiafaa
open Go.ChangeShapes Go.WideShapes Go.ChangeAt Go.RowKit
def comN : List Ent → List Ent → Nat
  | e :: l, f :: m => if e = f then comN l m + 1 else 0
  | _, _ => 0
theorem comN_step {l m : List Ent} {k : Nat} (h1 : k < l.length) (h2 : k < m.length) (h : l[k] = m[k]) : comN (l.drop k) (m.drop k) = comN (l.drop (k + 1)) (m.drop (k + 1)) + 1 := by
  rw [List.drop_eq_getElem_cons h1, List.drop_eq_getElem_cons h2, comN, if_pos h]
theorem comN_stop {l m : List Ent} {k : Nat} (h1 : k < l.length) (h2 : k < m.length) (h : l[k] ≠ m[k]) : comN (l.drop k) (m.drop k) = 0 := by
  rw [List.drop_eq_getElem_cons h1, List.drop_eq_getElem_cons h2, comN, if_neg h]
theorem comN_nil1 (l m : List Ent) (k : Nat) (h : l.length ≤ k) : comN (l.drop k) (m.drop k) = 0 := by
  rw [List.drop_eq_nil_of_le h]; rfl
theorem comN_nil2 (l m : List Ent) (k : Nat) (h : m.length ≤ k) : comN (l.drop k) (m.drop k) = 0 := by
  rw [List.drop_eq_nil_of_le h]; cases l.drop k <;> rfl
theorem comN_le (l m : List Ent) : comN l m ≤ l.length ∧ comN l m ≤ m.length := by
  induction l generalizing m with
  | nil => simp [comN]
  | cons e l ih =>
    cases m with
    | nil => simp [comN]
    | cons f m =>
      unfold comN; split
      · have := ih m; simp; exact this
      · simp
theorem comN_eq (l m : List Ent) (hl : l.length = m.length) : comN l m = l.length ↔ l = m := by
  induction l generalizing m with
  | nil => cases m with
    | nil => simp [comN]
    | cons f m => simp at hl
  | cons e l ih =>
    cases m with
    | nil => simp at hl
    | cons f m =>
      have := ih m (by simpa using hl)
      unfold comN; split
      · rename_i h; subst h; simp [this]
      · rename_i h; simp [h]
end Go.Proofs.Ytloblilbmdiafaa
