/- States held against each other. Plain mathematics. -/
import Derived.Test.YtkpipnccjiahjaaComM
namespace Go.Proofs.Ytkpipnccjiahjaa
open Go.ChangeShapes Go.WideShapes Go.ChangeAt Go.RowKit
set_option linter.unusedVariables false
def SameIs (tm vt : Int) (l : List Ent) (tm2 vt2 : Int) (m : List Ent) (R : Bool) (c : Int) : Prop :=
  (stateB tm vt l = true ∧ stateB tm2 vt2 m = true ∧ R = decide (tm = tm2 ∧ vt = vt2 ∧ l = m) ∧ c = 0) ∨ ((stateB tm vt l = false ∨ (stateB tm vt l = true ∧ stateB tm2 vt2 m = false)) ∧ R = false ∧ c = 1)
theorem same_ex (tm vt : Int) (l : List Ent) (tm2 vt2 : Int) (m : List Ent) : ∃ R c, SameIs tm vt l tm2 vt2 m R c := by
  cases h : stateB tm vt l with
  | false => exact ⟨_, _, .inr ⟨.inl h, rfl, rfl⟩⟩
  | true => cases h2 : stateB tm2 vt2 m with
    | false => exact ⟨_, _, .inr ⟨.inr ⟨h, h2⟩, rfl, rfl⟩⟩
    | true => exact ⟨_, _, .inl ⟨h, h2, rfl, rfl⟩⟩
theorem sm1 {tm tm2 vt vt2 : Int} {l m : List Ent} (h : ¬ tm = tm2) : decide (tm = tm2 ∧ vt = vt2 ∧ l = m) = false := decide_eq_false fun x => h x.1
theorem sm2 {tm tm2 vt vt2 : Int} {l m : List Ent} (h : ¬ vt = vt2) : decide (tm = tm2 ∧ vt = vt2 ∧ l = m) = false := decide_eq_false fun x => h x.2.1
theorem sm3 {tm tm2 vt vt2 : Int} {l m : List Ent} (h : ¬ l.length = m.length) : decide (tm = tm2 ∧ vt = vt2 ∧ l = m) = false := decide_eq_false fun x => h (by rw [x.2.2])
theorem sm4 {tm vt : Int} {l m : List Ent} : decide (tm = tm ∧ vt = vt ∧ l = m) = decide (l = m) := by simp
end Go.Proofs.Ytkpipnccjiahjaa
