/- Texts put together: ApI FieldsM NumbersM FldRT. -/
import Derived.Test.YtamjljhbnhdgdaaDoorZG13
import Derived.Test.YtamjljhbnhdgdaaDoorZG9
import Derived.Test.YtamjljhbnhdgdaaDoorZG1
import Derived.Test.YtamjljhbnhdgdaaDoorZG2
import Derived.Test.YtamjljhbnhdgdaaDoorZG3
import Derived.Test.YtamjljhbnhdgdaaDoorZG5
/- ApplyRecord: what the program answers. -/
namespace Go.Proofs.YtamjljhbnhdgdaaDoor
open Go.ChangeShapes Go.WideShapes Go.ChangeAt Go.RowKit
set_option linter.unusedVariables false
/-- What ApplyRecord answers. -/
def ApIs (tm vt : Int) (l : List Ent) (t : ByteArray) (tm' vt' : Int) (l' : List Ent) (c : Int) : Prop :=
 if 65536 < t.size then (tm', vt', l', c) = (0, 0, [], 2)
 else if stateB tm vt l = false then (tm', vt', l', c) = (0, 0, [], 1)
 else match apF tm vt l t with
  | none => (tm', vt', l', c) = (tm, vt, l, 3)
  | some (tm2, vt2, l2) => (tm', vt', l', c) = (tm2, vt2, l2, 0)
end Go.Proofs.YtamjljhbnhdgdaaDoor

/- Fields as bytes: the plain mathematics. -/
namespace Go.Proofs.YtamjljhbnhdgdaaDoor
open Go.ChangeShapes Go.WideShapes Go.ChangeAt Go.RowKit
def fieldB (s : ByteArray) : List UInt8 := be s.size 2 ++ s.data.toList
def fieldsL (l : List ByteArray) : List UInt8 := l.flatMap fieldB
def fsum (l : List ByteArray) : Nat := 1 + (fieldsL l).length
theorem fieldB_len (s : ByteArray) : (fieldB s).length = 2 + s.size := by unfold fieldB; rw [List.length_append, be_len, Array.length_toList]; rfl
theorem fieldsL_snoc (l : List ByteArray) (k : Nat) (h : k < l.length) : fieldsL (l.take (k + 1)) = fieldsL (l.take k) ++ fieldB l[k] := by
 unfold fieldsL; rw [List.take_succ_eq_append_getElem h, List.flatMap_append]; simp
theorem fsum_mono (l : List ByteArray) (k : Nat) : fsum (l.take k) ≤ fsum l := by
 have : fieldsL l = fieldsL (l.take k) ++ fieldsL (l.drop k) := by unfold fieldsL; rw [← List.flatMap_append, List.take_append_drop]
 unfold fsum; rw [this, List.length_append]; omega
def shortB (l : List ByteArray) : Bool := l.all fun s => decide (s.size ≤ 20000)
def allShort (l : List ByteArray) : Prop := ∀ k (h : k < l.length), l[k].size ≤ 20000
def ffC (l : List ByteArray) : Int := if 60 < l.length then 6 else if shortB l then (if 65536 < fsum l then 7 else 0) else 4
def fbC (l : List ByteArray) : Int := if 4096 < l.length then 2 else ffC l
def fbL (l : List ByteArray) : List UInt8 := if 60 < l.length then [] else if shortB l then (if 65536 < fsum l then [] else be l.length 1 ++ fieldsL l) else []
end Go.Proofs.YtamjljhbnhdgdaaDoor

/- Numbers as three bytes each: the plain mathematics. -/
namespace Go.Proofs.YtamjljhbnhdgdaaDoor
open Go.ChangeShapes Go.WideShapes Go.ChangeAt Go.RowKit
def fitsN (x : Int) : Prop := -1 ≤ x ∧ x ≤ 16777214
def numsL (l : List Int) : List UInt8 := l.flatMap fun x => be (x + 1).toNat 3
theorem numsL_len (l : List Int) : (numsL l).length = 3 * l.length := by
 induction l with
 | nil => rfl
 | cons x l ih => unfold numsL at *; rw [List.flatMap_cons, List.length_append, be_len, ih, List.length_cons]; omega
theorem numsL_snoc (l : List Int) (k : Nat) (h : k < l.length) : numsL (l.take (k + 1)) = numsL (l.take k) ++ be (l[k] + 1).toNat 3 := by
 unfold numsL; rw [List.take_succ_eq_append_getElem h, List.flatMap_append]; simp
def fitB (l : List Int) : Bool := l.all fun x => decide (-1 ≤ x ∧ x ≤ 16777214)
def allFit (l : List Int) : Prop := ∀ k (h : k < l.length), fitsN l[k]
theorem fitB_iff (l : List Int) : fitB l = true ↔ allFit l := by
 unfold fitB allFit fitsN
 rw [List.all_eq_true]
 constructor
 ·intro h k hk; exact of_decide_eq_true (h _ (List.getElem_mem hk))
 ·intro h x hx
  obtain ⟨k, hk, rfl⟩ := List.getElem_of_mem hx
  exact decide_eq_true (h k hk)
def nbL (l : List Int) : List UInt8 := if 4096 < l.length then [] else if fitB l then numsL l else []
def nbC (l : List Int) : Int := if 4096 < l.length then 2 else if fitB l then 0 else 4
theorem nb_ok {l : List Int} (h : ¬ 4096 < l.length) (h2 : allFit l) : nbL l = numsL l ∧ nbC l = 0 := by unfold nbL nbC; have h3 := (fitB_iff l).2 h2; rw [if_neg h, if_neg h, if_pos h3, if_pos h3]; exact ⟨rfl, rfl⟩
theorem fit_nat (x : Int) (h : fitsN x) : ∃ n : Nat, x = (n : Int) - 1 ∧ n ≤ 16777215 ∧ n = (x + 1).toNat := ⟨(x + 1).toNat, by unfold fitsN at h; omega, by unfold fitsN at h; omega, rfl⟩
end Go.Proofs.YtamjljhbnhdgdaaDoor

/- Fields and numbers are read back; what is read is just the bytes of what was read. Plain mathematics. -/
namespace Go.Proofs.YtamjljhbnhdgdaaDoor
open Go.ChangeShapes Go.WideShapes Go.ChangeAt Go.RowKit
theorem fld_field (s : ByteArray) (r : List UInt8) (h : s.size ≤ 20000) : fld (fieldB s ++ r) = some (s.data.toList, r) := by
 have hl : s.data.toList.length = s.size := Array.length_toList
 have h2 : (fieldB s ++ r).take 2 = be s.size 2 := by unfold fieldB; rw [List.append_assoc]; exact List.take_left' (be_len _ _)
 have h3 : (fieldB s ++ r).drop 2 = s.data.toList ++ r := by unfold fieldB; rw [List.append_assoc]; exact List.drop_left' (be_len _ _)
 have h4 : ofBE (be s.size 2) = s.size := by rw [ofBE_be]; exact Nat.mod_eq_of_lt (by omega)
 have h5 : (fieldB s ++ r).length = 2 + s.size + r.length := by rw [List.length_append, fieldB_len]
 unfold fld
 rw [h2, h3, h4, h5, if_neg (by omega), if_neg (by omega), if_neg (by omega), List.take_left' hl, List.drop_left' hl]
theorem fieldsL_drop (l : List ByteArray) (k : Nat) (h : k < l.length) : fieldsL (l.drop k) = fieldB l[k] ++ fieldsL (l.drop (k + 1)) := by
 rw [List.drop_eq_getElem_cons h]; rfl
theorem fldN_fields (l : List ByteArray) (r : List UInt8) (hs : allShort l) : ∀ k, k ≤ l.length → fldN (fieldsL l ++ r) k = some (l.take k, fieldsL (l.drop k) ++ r)
 | 0, _ => by simp [fldN]
 | k + 1, h => by
  rw [fldN, fldN_fields l r hs k (by omega), Option.bind_some]
  rw [fieldsL_drop l k (by omega), List.append_assoc, fld_field _ _ (hs k (by omega)), Option.bind_some, List.take_succ_eq_append_getElem (by omega)]
theorem rf_fb (l : List ByteArray) (h : ¬ 60 < l.length) (hs : allShort l) (hf : ¬ 65536 < fsum l) : rfL (be l.length 1 ++ fieldsL l) = l ∧ rfC (be l.length 1 ++ fieldsL l) = 0 := by
 have hl : (be l.length 1 ++ fieldsL l).length = fsum l := by rw [List.length_append, be_len]; rfl
 have h1 : (be l.length 1 ++ fieldsL l).take 1 = be l.length 1 := List.take_left' (be_len _ _)
 have h2 : (be l.length 1 ++ fieldsL l).drop 1 = fieldsL l := List.drop_left' (be_len _ _)
 have h3 : ofBE (be l.length 1) = l.length := by rw [ofBE_be]; exact Nat.mod_eq_of_lt (by omega)
 have h4 := fldN_fields l [] hs l.length (Nat.le_refl _)
 rw [List.append_nil, List.take_length, List.drop_length] at h4
 have e : rfOf (be l.length 1 ++ fieldsL l) = some l := by
  unfold rfOf
  rw [h1, h2, h3, hl, if_neg (by unfold fsum; omega), if_neg h, h4]
  rfl
 unfold rfL rfC
 rw [hl, if_neg hf, if_neg hf, e]
 exact ⟨rfl, rfl⟩
theorem fld_back {l x r : List UInt8} (h : fld l = some (x, r)) : fieldB ⟨x.toArray⟩ ++ r = l ∧ x.length ≤ 20000 := by
 obtain ⟨h1, h2, h3, rfl, rfl⟩ := fld_some h
 have hx : ((l.drop 2).take (ofBE (l.take 2))).length = ofBE (l.take 2) := by rw [List.length_take, List.length_drop]; omega
 have e : be (ofBE (l.take 2)) 2 = l.take 2 := by
  have := be_ofBE (l.take 2)
  rwa [List.length_take, Nat.min_eq_left h1] at this
 refine ⟨?_, by omega⟩
 unfold fieldB
 rw [show (ByteArray.mk ((l.drop 2).take (ofBE (l.take 2))).toArray).size = ofBE (l.take 2) from by show ((l.drop 2).take (ofBE (l.take 2))).toArray.size = _; rw [List.size_toArray, hx], e]
 show l.take 2 ++ (l.drop 2).take (ofBE (l.take 2)) ++ (l.drop 2).drop (ofBE (l.take 2)) = l
 rw [List.append_assoc, List.take_append_drop, List.take_append_drop]
theorem fieldsL_app (l m : List ByteArray) : fieldsL (l ++ m) = fieldsL l ++ fieldsL m := by simp [fieldsL]
theorem fldN_back (l : List UInt8) : ∀ k m r, fldN l k = some (m, r) → fieldsL m ++ r = l ∧ allShort m
 | 0, m, r, h => by
  simp only [fldN, Option.some.injEq, Prod.mk.injEq] at h
  obtain ⟨rfl, rfl⟩ := h
  exact ⟨rfl, fun k h => absurd h (by simp)⟩
 | k + 1, m, r, h => by
  simp only [fldN] at h
  cases hk : fldN l k with
  | none => rw [hk] at h; simp at h
  | some p =>
   obtain ⟨m', r'⟩ := p
   obtain ⟨ih, is⟩ := fldN_back l k m' r' hk
   rw [hk, Option.bind_some] at h
   cases hf : fld r' with
   | none => simp only [hf] at h; simp at h
   | some q =>
    obtain ⟨x, y⟩ := q
    simp only [hf, Option.bind_some, Option.some.injEq, Prod.mk.injEq] at h
    obtain ⟨rfl, rfl⟩ := h
    obtain ⟨e, hx⟩ := fld_back hf
    refine ⟨?_, fun j hj => ?_⟩
    ·rw [fieldsL_app, List.append_assoc, show fieldsL [(⟨x.toArray⟩ : ByteArray)] = fieldB ⟨x.toArray⟩ from by simp [fieldsL], e, ih]
    ·rw [List.length_append, List.length_singleton] at hj
     by_cases hj2 : j < m'.length
     ·rw [List.getElem_append_left hj2]; exact is j hj2
     ·have : j = m'.length := by omega
      subst this
      rw [List.getElem_concat_length rfl]
      show x.toArray.size ≤ 20000
      rw [List.size_toArray]; exact hx
theorem numsL_cons (x : Int) (l : List Int) : numsL (x :: l) = be (x + 1).toNat 3 ++ numsL l := rfl
theorem chunk_nums (l : List Int) : ∀ k (h : k < l.length), chunk (numsL l) k = be (l[k] + 1).toNat 3 := by
 induction l with
 | nil => intro k h; cases h
 | cons x l ih =>
  intro k h
  rw [numsL_cons]
  cases k with
  | zero => unfold chunk; rw [Nat.mul_zero, List.drop_zero]; exact List.take_left' (be_len _ _)
  | succ k =>
   have := ih k (by simpa using h)
   unfold chunk at this ⊢
   rw [Nat.mul_succ, Nat.add_comm, ← List.drop_drop, List.drop_left' (be_len _ _), this]
   rfl
theorem rn_nb (l : List Int) (h : ¬ 4096 < l.length) (hf : allFit l) : rnL (nbL l) = l ∧ rnC (nbL l) = 0 ∧ nbC l = 0 := by
 obtain ⟨e1, e2⟩ := nb_ok h hf
 have hlen := numsL_len l
 obtain ⟨r1, r2⟩ := rn_ok (l := numsL l) (by omega) (by omega) (by omega)
 rw [e1, r1, r2, e2, hlen, Nat.mul_div_cancel_left _ (by decide)]
 refine ⟨?_, rfl, rfl⟩
 refine List.ext_getElem (numsR_len _ _) fun k h1 h2 => ?_
 simp only [numsR, List.getElem_map, List.getElem_range]
 rw [chunk_nums l k h2, ofBE_be]
 have := hf k h2
 unfold fitsN at this
 rw [Nat.mod_eq_of_lt (by omega)]
 omega
theorem rf_short (l : List UInt8) : allShort (rfL l) := by
 unfold rfL
 by_cases h1 : 65536 < l.length
 ·rw [if_pos h1]; exact fun k h => absurd h (by simp)
 ·rw [if_neg h1]
  unfold rfOf
  by_cases h2 : l.length < 1
  ·rw [if_pos h2]; exact fun k h => absurd h (by simp)
  ·rw [if_neg h2]
   by_cases h3 : 60 < ofBE (l.take 1)
   ·rw [if_pos h3]; exact fun k h => absurd h (by simp)
   ·rw [if_neg h3]
    cases hn : fldN (l.drop 1) (ofBE (l.take 1)) with
    | none => exact fun k h => absurd h (by simp)
    | some q =>
     obtain ⟨m, r⟩ := q
     rw [Option.bind_some]
     by_cases h4 : r = []
     ·simp only [h4, if_true, Option.getD_some]
      exact (fldN_back _ _ _ _ hn).2
     ·simp only [h4, if_false, Option.getD_none]
      exact fun k h => absurd h (by simp)
end Go.Proofs.YtamjljhbnhdgdaaDoor
