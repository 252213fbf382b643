/- ResizeScreen: what it answers, told once for both sides. -/
import Derived.Test.YteeklocaaidimaaRszM
import Derived.Test.YteeklocaaidimaaOkM
import Derived.Test.YteeklocaaidimaaMinM
namespace Go.Proofs.Yteeklocaaidimaa
open Go.ChangeShapes Go.WideShapes Go.ChangeAt Go.RowKit
set_option linter.unusedVariables false
/-- The answer's numbers, code, title, cells and history. -/
structure RsIs (i0 i1 i2 i3 i4 i5 i6 i7 i8 : Int) (t : ByteArray) (l : List (Int × Int)) (m : List ByteArray) (x1 x2 j0 j1 j2 j3 j4 j6 j7 j8 c : Int) (t2 : ByteArray) (l2 : List (Int × Int)) (m2 : List ByteArray) : Prop where
  no : (okB i0 i1 i2 i3 i4 i5 i6 i7 i8 t.data.toList l m && sizeB x1 x2) = false → j0 = 0 ∧ j1 = 0 ∧ j2 = 0 ∧ j3 = 0 ∧ j4 = 0 ∧ j6 = 0 ∧ j7 = 0 ∧ j8 = 0 ∧ t2 = ⟨#[]⟩ ∧ l2 = [] ∧ m2 = [] ∧ c = if okB i0 i1 i2 i3 i4 i5 i6 i7 i8 t.data.toList l m then 4 else 1
  ok : (okB i0 i1 i2 i3 i4 i5 i6 i7 i8 t.data.toList l m && sizeB x1 x2) = true → j0 = x1 ∧ j1 = x2 ∧ j2 = mn i2 x1 ∧ j3 = mn i3 (x2 - 1) ∧ j4 = i4 ∧ j6 = x2 - 1 ∧ j7 = mn i7 x1 ∧ j8 = mn i8 (x2 - 1) ∧ t2 = t ∧ l2 = rz l i0.toNat x1.toNat (x1.toNat * x2.toNat) (min i1.toNat x2.toNat) ∧ m2 = m ∧ c = 0
theorem rs_is (i0 i1 i2 i3 i4 i5 i6 i7 i8 : Int) (t : ByteArray) (l : List (Int × Int)) (m : List ByteArray) (x1 x2 : Int) : ∃ j0 j1 j2 j3 j4 j6 j7 j8 c : Int, ∃ (t2 : ByteArray) (l2 : List (Int × Int)) (m2 : List ByteArray), RsIs i0 i1 i2 i3 i4 i5 i6 i7 i8 t l m x1 x2 j0 j1 j2 j3 j4 j6 j7 j8 c t2 l2 m2 ∧ l2.length ≤ 240 ∧ m2.length ≤ 6 := by
  cases h : (okB i0 i1 i2 i3 i4 i5 i6 i7 i8 t.data.toList l m && sizeB x1 x2)
  · exact ⟨0, 0, 0, 0, 0, 0, 0, 0, _, ⟨#[]⟩, [], [], ⟨fun _ => ⟨rfl, rfl, rfl, rfl, rfl, rfl, rfl, rfl, rfl, rfl, rfl, rfl⟩, fun h2 => (by rw [h] at h2; cases h2)⟩, by simp, by simp⟩
  · refine ⟨_, _, _, _, _, _, _, _, _, t, _, m, ⟨fun h2 => (by rw [h] at h2; cases h2), fun _ => ⟨rfl, rfl, rfl, rfl, rfl, rfl, rfl, rfl, rfl, rfl, rfl, rfl⟩⟩, ?_, ?_⟩
    · rw [Bool.and_eq_true] at h
      have hs : 2 ≤ x1 ∧ x1 ≤ 24 ∧ 2 ≤ x2 ∧ x2 ≤ 10 := of_decide_eq_true h.2
      rw [rz_len l i0.toNat x1.toNat x2.toNat _ rfl _ (Nat.min_le_right _ _)]
      exact Nat.mul_le_mul (show x1.toNat ≤ 24 by omega) (show x2.toNat ≤ 10 by omega)
    · unfold okB at h
      simp only [Bool.and_eq_true] at h
      have h8 := h.1.2.2.2.2.2.2.2
      unfold histB at h8
      rw [Bool.and_eq_true] at h8
      exact of_decide_eq_true h8.1
end Go.Proofs.Yteeklocaaidimaa
