/- Fields and numbers are read back; what is read is just the bytes of what was read. Plain mathematics. -/
import Derived.Test.YtpcdjpfffanlbaaDoorZReadFI
import Derived.Test.YtpcdjpfffanlbaaDoorZG35
import Derived.Test.YtpcdjpfffanlbaaDoorZG17
namespace Go.Proofs.YtpcdjpfffanlbaaDoor
open Go.ChangeShapes Go.WideShapes Go.ChangeAt Go.RowKit
theorem fld_back {l x r : List UInt8} (h : fld l = some (x, r)) : fieldB ⟨x.toArray⟩ ++ r = l ∧ x.length ≤ 20000 := by
 obtain ⟨h1, h2, h3, rfl, rfl⟩ := fld_some h
 have hx : ((l.drop 2).take (ofBE (l.take 2))).length = ofBE (l.take 2) := by rw [List.length_take, List.length_drop]; omega
 have e : be (ofBE (l.take 2)) 2 = l.take 2 := by
  have := be_ofBE (l.take 2)
  rwa [List.length_take, Nat.min_eq_left h1] at this
 refine ⟨?_, by omega⟩
 unfold fieldB
 rw [show (ByteArray.mk ((l.drop 2).take (ofBE (l.take 2))).toArray).size = ofBE (l.take 2) from by show ((l.drop 2).take (ofBE (l.take 2))).toArray.size = _; rw [List.size_toArray, hx], e]
 show l.take 2 ++ (l.drop 2).take (ofBE (l.take 2)) ++ (l.drop 2).drop (ofBE (l.take 2)) = l
 rw [List.append_assoc, List.take_append_drop, List.take_append_drop]
theorem fieldsL_app (l m : List ByteArray) : fieldsL (l ++ m) = fieldsL l ++ fieldsL m := by simp [fieldsL]
theorem fldN_back (l : List UInt8) : ∀ k m r, fldN l k = some (m, r) → fieldsL m ++ r = l ∧ allShort m
 | 0, m, r, h => by
  simp only [fldN, Option.some.injEq, Prod.mk.injEq] at h
  obtain ⟨rfl, rfl⟩ := h
  exact ⟨rfl, fun k h => absurd h (by simp)⟩
 | k + 1, m, r, h => by
  simp only [fldN] at h
  cases hk : fldN l k with
  | none => rw [hk] at h; simp at h
  | some p =>
   obtain ⟨m', r'⟩ := p
   obtain ⟨ih, is⟩ := fldN_back l k m' r' hk
   rw [hk, Option.bind_some] at h
   cases hf : fld r' with
   | none => simp only [hf] at h; simp at h
   | some q =>
    obtain ⟨x, y⟩ := q
    simp only [hf, Option.bind_some, Option.some.injEq, Prod.mk.injEq] at h
    obtain ⟨rfl, rfl⟩ := h
    obtain ⟨e, hx⟩ := fld_back hf
    refine ⟨?_, fun j hj => ?_⟩
    ·rw [fieldsL_app, List.append_assoc, show fieldsL [(⟨x.toArray⟩ : ByteArray)] = fieldB ⟨x.toArray⟩ from by simp [fieldsL], e, ih]
    ·rw [List.length_append, List.length_singleton] at hj
     by_cases hj2 : j < m'.length
     ·rw [List.getElem_append_left hj2]; exact is j hj2
     ·have : j = m'.length := by omega
      subst this
      rw [List.getElem_concat_length rfl]
      show x.toArray.size ≤ 20000
      rw [List.size_toArray]; exact hx
theorem rf_short (l : List UInt8) : allShort (rfL l) := by
 unfold rfL
 by_cases h1 : 65536 < l.length
 ·rw [if_pos h1]; exact fun k h => absurd h (by simp)
 ·rw [if_neg h1]
  unfold rfOf
  by_cases h2 : l.length < 1
  ·rw [if_pos h2]; exact fun k h => absurd h (by simp)
  ·rw [if_neg h2]
   by_cases h3 : 60 < ofBE (l.take 1)
   ·rw [if_pos h3]; exact fun k h => absurd h (by simp)
   ·rw [if_neg h3]
    cases hn : fldN (l.drop 1) (ofBE (l.take 1)) with
    | none => exact fun k h => absurd h (by simp)
    | some q =>
     obtain ⟨m, r⟩ := q
     rw [Option.bind_some]
     by_cases h4 : r = []
     ·simp only [h4, if_true, Option.getD_some]
      exact (fldN_back _ _ _ _ hn).2
     ·simp only [h4, if_false, Option.getD_none]
      exact fun k h => absurd h (by simp)
end Go.Proofs.YtpcdjpfffanlbaaDoor
