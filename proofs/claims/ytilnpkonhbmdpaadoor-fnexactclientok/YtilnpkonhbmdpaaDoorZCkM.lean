/- ClientOK. Plain mathematics. -/
import Derived.Test.YtilnpkonhbmdpaaDoorZG20
import Derived.Test.YtilnpkonhbmdpaaDoorZMrI
namespace Go.Proofs.YtilnpkonhbmdpaaDoor
open Go.ChangeShapes Go.WideShapes Go.ChangeAt Go.RowKit
set_option linter.unusedVariables false
theorem eq_list (a b : ByteArray) : (a.toList == b.toList) = decide (a = b) := by
  rw [ByteArray.toList_eq, ByteArray.toList_eq, Bool.eq_iff_iff]
  simp only [beq_iff_eq, decide_eq_true_eq]
  exact ⟨fun h => by apply ByteArray.ext; exact Array.toList_inj.1 h, fun h => by rw [h]⟩
/-- A token that is the one of a client, a window and a number. -/
def htB (key : ByteArray) (id : Int) (win : ByteArray) (n : Int) (t : ByteArray) : Bool := decide (tmC key id win n = 0) && decide (itkS key id win n = t)
/-- A right client. -/
def clB (key : ByteArray) (id : Int) (win tok : ByteArray) (nb vw vh : Int) (R : List ByteArray) : Bool := mirB nb vw vh R && htB key id win nb tok
theorem mir_num {nb vw vh : Int} {R : List ByteArray} (h : mirB nb vw vh R = true) : -1 ≤ nb ∧ nb ≤ 60 := by
  unfold mirB at h
  split at h
  · omega
  · rw [Bool.and_eq_true] at h
    have h1 := h.1
    unfold inB at h1
    have := of_decide_eq_true h1
    omega
theorem tok_num {c : Int} {win : ByteArray} {n : Int} (h0 : -1 ≤ n) (h1 : n ≤ 60) : tokB c win n = tokB c win 0 := by
  unfold tokB
  rw [show inB n (-1) 60 = true from by unfold inB; exact decide_eq_true ⟨h0, h1⟩, show inB 0 (-1) 60 = true from by unfold inB; decide]
theorem cl_long {key : ByteArray} (h : 65536 < key.size) (id : Int) (win tok : ByteArray) (nb vw vh : Int) (R : List ByteArray) : clB key id win tok nb vw vh R = false := by
  unfold clB htB tmC tmL
  rw [decide_eq_true (p := 65536 < key.size ∨ 65536 < win.size) (.inl h)]
  simp
theorem cl_ask {key : ByteArray} {id : Int} {win : ByteArray} (h : tokB id win 0 = false) (tok : ByteArray) (nb vw vh : Int) (R : List ByteArray) : clB key id win tok nb vw vh R = false := by
  unfold clB
  cases hm : mirB nb vw vh R with
  | false => rfl
  | true =>
    obtain ⟨n0, n1⟩ := mir_num hm
    rw [Bool.true_and]
    unfold htB
    have hne : tmC key id win nb ≠ 0 := fun h0 => by
      have := (tm_parts h0).2
      rw [tok_num n0 n1, h] at this
      cases this
    rw [decide_eq_false hne, Bool.false_and]
theorem cl_mir {nb vw vh : Int} {R : List ByteArray} (h : mirB nb vw vh R = false) (key : ByteArray) (id : Int) (win tok : ByteArray) : clB key id win tok nb vw vh R = false := by
  unfold clB; rw [h]; rfl
theorem cl_yes {key : ByteArray} {id : Int} {win : ByteArray} {nb vw vh : Int} {R : List ByteArray} (hk : key.size ≤ 65536) (ha : tokB id win 0 = true) (hm : mirB nb vw vh R = true) (tok : ByteArray) : clB key id win tok nb vw vh R = decide (tok = issT key id win nb) := by
  obtain ⟨n0, n1⟩ := mir_num hm
  have ht : tokB id win nb = true := by rw [tok_num n0 n1]; exact ha
  have hl : tmL key win = false := by
    have := (tok_parts ht).2.2.1
    unfold tmL; simp; omega
  unfold clB htB tmC itkS
  rw [hm, hl, ht]
  simp only [Bool.true_and, if_true, Bool.false_eq_true, if_false, decide_true]
  rw [Bool.eq_iff_iff, decide_eq_true_eq, decide_eq_true_eq]
  exact ⟨fun h => h.symm, fun h => h.symm⟩
end Go.Proofs.YtilnpkonhbmdpaaDoor
