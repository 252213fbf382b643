/- Fields that are few and short. -/
import Derived.Test.YtoplijjddhecgaaDoorFieldsM
namespace Go.Proofs.YtoplijjddhecgaaDoor
open Go.ChangeShapes Go.WideShapes Go.ChangeAt Go.RowKit
set_option linter.unusedVariables false
theorem fieldsL_le (l : List ByteArray) (c : Nat) (h : ∀ x ∈ l, x.size ≤ c) : (fieldsL l).length ≤ (2 + c) * l.length := by
  induction l with
  | nil => simp [fieldsL]
  | cons x l ih =>
    have h1 := ih (fun y hy => h y (List.mem_cons_of_mem _ hy))
    have h2 := h x (List.mem_cons_self ..)
    have e : fieldsL (x :: l) = fieldB x ++ fieldsL l := rfl
    rw [e, List.length_append, fieldB_len, List.length_cons, Nat.mul_add, Nat.mul_one]
    omega
theorem short_of {l : List ByteArray} {c : Nat} (h : ∀ x ∈ l, x.size ≤ c) (hc : c ≤ 20000) : allShort l := fun k hk => Nat.le_trans (h _ (List.getElem_mem hk)) hc
theorem fsum_of {l : List ByteArray} {c n : Nat} (h : ∀ x ∈ l, x.size ≤ c) (hn : l.length ≤ n) (hc : (2 + c) * n ≤ 65535) : ¬ 65536 < fsum l := by
  unfold fsum
  have h1 := fieldsL_le l c h
  have h2 : (2 + c) * l.length ≤ (2 + c) * n := Nat.mul_le_mul (Nat.le_refl _) hn
  omega
end Go.Proofs.YtoplijjddhecgaaDoor
