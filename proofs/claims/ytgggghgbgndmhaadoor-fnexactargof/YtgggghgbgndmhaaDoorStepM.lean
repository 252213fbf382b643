/- The table of steps: which one a state has for a byte. Plain mathematics. -/
import Derived.Test.YtgggghgbgndmhaaDoorIntS
namespace Go.Proofs.YtgggghgbgndmhaaDoor
open Go.ChangeShapes Go.WideShapes Go.ChangeAt Go.RowKit
/-- One step: state, first byte, last byte, what is done, the next state. -/
structure StepRow where
  (st fi la dd nx : Int)
def rowOf (r : Int × Int × Int × Int × Int) : StepRow := ⟨r.1, r.2.1, r.2.2.1, r.2.2.2.1, r.2.2.2.2⟩
def stepRaw : List (Int × Int × Int × Int × Int) := [(0, 27, 27, 0, 1), (0, 7, 10, 3, 0), (0, 13, 13, 3, 0), (0, 32, 126, 1, 0), (0, 0, 127, 0, 0), (0, 194, 244, 12, 6), (0, 0, 255, 2, 0), (1, 91, 91, 7, 2), (1, 93, 93, 0, 4), (1, 27, 27, 0, 1), (1, 55, 56, 4, 0), (1, 68, 69, 4, 0), (1, 77, 77, 4, 0), (1, 99, 99, 4, 0), (1, 0, 255, 0, 0), (2, 27, 27, 0, 1), (2, 7, 10, 3, 2), (2, 13, 13, 3, 2), (2, 48, 57, 8, 2), (2, 59, 59, 9, 3), (2, 63, 63, 10, 3), (2, 64, 126, 5, 0), (2, 0, 255, 0, 3), (3, 27, 27, 0, 1), (3, 64, 126, 0, 0), (3, 0, 255, 0, 3), (4, 7, 7, 6, 0), (4, 27, 27, 0, 5), (4, 32, 126, 11, 4), (4, 0, 255, 0, 4), (5, 92, 92, 6, 0), (5, 0, 255, 14, 1), (6, 0, 255, 13, 0)]
def stepTab : List StepRow := stepRaw.map rowOf
def stepHit (s b : Int) (r : StepRow) : Bool := r.st == s && (decide (r.fi ≤ b) && decide (b ≤ r.la))
def stepFrom (s b : Int) : List StepRow → StepRow
  | [] => ⟨0, 0, 0, 0, 0⟩
  | r :: l => if stepHit s b r then r else stepFrom s b l
def stepAt (s b : Int) : StepRow := stepFrom s b stepTab
theorem stepTab_len : stepTab.length = 33 := rfl
theorem drop_tab (k : Nat) (h : k < 33) : ∃ r, stepTab[k]? = some r ∧ stepTab.drop k = r :: stepTab.drop (k + 1) := by
  have hl : k < stepTab.length := h
  exact ⟨stepTab[k], List.getElem?_eq_getElem hl, List.drop_eq_getElem_cons hl⟩
theorem from_hit {s b : Int} {r : StepRow} {l : List StepRow} (h : stepHit s b r = true) : stepFrom s b (r :: l) = r := by rw [stepFrom, if_pos h]
theorem from_miss {s b : Int} {r : StepRow} {l : List StepRow} (h : stepHit s b r = false) : stepFrom s b (r :: l) = stepFrom s b l := by rw [stepFrom, if_neg (by rw [h]; decide)]
theorem step_ground (n : Int) : ((stepAt 0 n).dd == 3) = decide (n = 7 ∨ n = 8 ∨ n = 9 ∨ n = 10 ∨ n = 13) := by
  unfold stepAt stepTab stepRaw
  simp only [List.map_cons, List.map_nil, rowOf, stepFrom, stepHit]
  simp
  repeat' split
  all_goals first | omega | (simp; omega)
theorem step_escape (n : Int) : ((stepAt 1 n).dd == 4) = decide (n = 55 ∨ n = 56 ∨ n = 68 ∨ n = 69 ∨ n = 77 ∨ n = 99) := by
  unfold stepAt stepTab stepRaw
  simp only [List.map_cons, List.map_nil, rowOf, stepFrom, stepHit]
  simp
  repeat' split
  all_goals first | omega | (simp; omega)
theorem step_csi (n : Int) : ((stepAt 2 n).dd == 5) = decide (64 ≤ n ∧ n ≤ 126) := by
  unfold stepAt stepTab stepRaw
  simp only [List.map_cons, List.map_nil, rowOf, stepFrom, stepHit]
  simp
  repeat' split
  all_goals first | omega | (simp; omega)
end Go.Proofs.YtgggghgbgndmhaaDoor
