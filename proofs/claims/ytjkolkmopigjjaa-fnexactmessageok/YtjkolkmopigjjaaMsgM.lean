/- Which messages are right. Plain mathematics. -/
import Derived.Test.YtjkolkmopigjjaaSteM
namespace Go.Proofs.Ytjkolkmopigjjaa
open Go.ChangeShapes Go.WideShapes Go.ChangeAt Go.RowKit
set_option linter.unusedVariables false
/-- The first one's term is not below. -/
def firstB (lt : Int) : List Ent → Bool
  | [] => true
  | e :: _ => decide (lt ≤ e.1)
def entsB (kd tm ix lt : Int) (l : List Ent) : Bool := if kd = 3 then (decide (ix ≠ 0) || decide (lt = 0)) && decide (ix + (l.length : Int) ≤ 60) && firstB lt l && stateB tm (-1) l else decide (l.length = 0)
def msgB (kd fr dst tm ix lt cm : Int) (l : List Ent) : Bool := inB kd 1 4 && inB fr 0 4 && inB dst 0 4 && decide (fr ≠ dst) && inB tm 1 1000 && inB ix 0 60 && inB cm 0 60 && inB lt 0 tm && entsB kd tm ix lt l
theorem stateB_vote (tm : Int) (l : List Ent) : stateB tm 0 l = stateB tm (-1) l := by unfold stateB inB; simp
theorem firstB_at {lt : Int} {l : List Ent} (h : 0 < l.length) : firstB lt l = decide (lt ≤ l[0].1) := by cases l with | nil => simp at h | cons e l => rfl
theorem firstB_nil {lt : Int} {l : List Ent} (h : l.length = 0) : firstB lt l = true := by cases l with | nil => rfl | cons e l => simp at h
theorem ents_not {kd tm ix lt : Int} {l : List Ent} (h : kd ≠ 3) : entsB kd tm ix lt l = decide (l.length = 0) := by unfold entsB; rw [if_neg h]
theorem ents_app {tm ix lt : Int} {l : List Ent} : entsB 3 tm ix lt l = ((decide (ix ≠ 0) || decide (lt = 0)) && decide (ix + (l.length : Int) ≤ 60) && firstB lt l && stateB tm (-1) l) := by unfold entsB; rw [if_pos rfl]
end Go.Proofs.Ytjkolkmopigjjaa
