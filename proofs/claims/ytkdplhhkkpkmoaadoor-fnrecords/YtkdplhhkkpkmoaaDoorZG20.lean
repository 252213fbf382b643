/- Texts put together: BeM FldRT. -/
import Derived.Test.YtkdplhhkkpkmoaaDoorZG3
import Derived.Test.YtkdplhhkkpkmoaaDoorZG8
import Derived.Test.YtkdplhhkkpkmoaaDoorZG4
/- Numbers as bytes and back. Plain mathematics. -/
namespace Go.Proofs.YtkdplhhkkpkmoaaDoor
theorem ofBE_from (l : List UInt8) : ∀ n : Nat, l.foldl (fun n c => n * 256 + c.toNat) n = n * 256 ^ l.length + ofBE l := by
 induction l with
 | nil => intro n; simp [ofBE]
 | cons c l ih =>
  intro n
  unfold ofBE
  rw [List.foldl_cons, List.foldl_cons, ih, ih (0 * 256 + c.toNat), List.length_cons, Nat.pow_succ, Nat.add_mul, Nat.zero_mul, Nat.zero_add, Nat.mul_assoc, Nat.mul_comm 256, Nat.add_assoc]
theorem ofBE_cons (c : UInt8) (l : List UInt8) : ofBE (c :: l) = c.toNat * 256 ^ l.length + ofBE l := by
 show List.foldl (fun n c => n * 256 + c.toNat) (0 * 256 + c.toNat) l = _
 rw [ofBE_from, Nat.zero_mul, Nat.zero_add]
theorem ofBE_be (v : Nat) : ∀ s, ofBE (be v s) = v % 256 ^ s
 | 0 => by simp [be, ofBE, Nat.mod_one]
 | s + 1 => by
  rw [be, ofBE_cons, be_len, ofBE_be v s, Nat.mod_pow_succ]
  unfold nb
  rw [UInt8.toNat_ofNat', Nat.mod_mod, Nat.mul_comm, Nat.add_comm]
theorem ofBE_lt2 (l : List UInt8) : ofBE l < 256 ^ l.length := by
 have := ofBE_lt l l.length
 rwa [List.take_length] at this
theorem be_add (a r s : Nat) : ∀ t, t ≤ s → be (a * 256 ^ s + r) t = be r t
 | 0, _ => rfl
 | t + 1, h => by
  rw [be, be, be_add a r s t (by omega)]
  congr 1
  unfold nb
  congr 1
  have e : a * 256 ^ s = 256 ^ t * (a * 256 ^ (s - t - 1) * 256) := by
   rw [Nat.mul_assoc, ← Nat.pow_succ, Nat.mul_left_comm, ← Nat.pow_add]
   congr 2
   omega
  rw [e, Nat.add_comm, Nat.add_mul_div_left _ _ (Nat.pow_pos (by decide))]
  omega
theorem be_ofBE (l : List UInt8) : be (ofBE l) l.length = l := by
 induction l with
 | nil => rfl
 | cons c l ih =>
  rw [List.length_cons, ofBE_cons, be, be_add _ _ _ _ (Nat.le_refl _), ih]
  congr 1
  unfold nb
  rw [Nat.mul_comm, Nat.mul_add_div (Nat.pow_pos (by decide)), Nat.div_eq_of_lt (ofBE_lt2 l), Nat.add_zero, Nat.mod_eq_of_lt c.toNat_lt]
  exact UInt8.ofNat_toNat
end Go.Proofs.YtkdplhhkkpkmoaaDoor

/- Fields and numbers are read back; what is read is just the bytes of what was read. Plain mathematics. -/
namespace Go.Proofs.YtkdplhhkkpkmoaaDoor
open Go.ChangeShapes Go.WideShapes Go.ChangeAt Go.RowKit
theorem fld_field (s : ByteArray) (r : List UInt8) (h : s.size ≤ 20000) : fld (fieldB s ++ r) = some (s.data.toList, r) := by
 have hl : s.data.toList.length = s.size := Array.length_toList
 have h2 : (fieldB s ++ r).take 2 = be s.size 2 := by unfold fieldB; rw [List.append_assoc]; exact List.take_left' (be_len _ _)
 have h3 : (fieldB s ++ r).drop 2 = s.data.toList ++ r := by unfold fieldB; rw [List.append_assoc]; exact List.drop_left' (be_len _ _)
 have h4 : ofBE (be s.size 2) = s.size := by rw [ofBE_be]; exact Nat.mod_eq_of_lt (by omega)
 have h5 : (fieldB s ++ r).length = 2 + s.size + r.length := by rw [List.length_append, fieldB_len]
 unfold fld
 rw [h2, h3, h4, h5, if_neg (by omega), if_neg (by omega), if_neg (by omega), List.take_left' hl, List.drop_left' hl]
theorem fieldsL_drop (l : List ByteArray) (k : Nat) (h : k < l.length) : fieldsL (l.drop k) = fieldB l[k] ++ fieldsL (l.drop (k + 1)) := by
 rw [List.drop_eq_getElem_cons h]; rfl
theorem fldN_fields (l : List ByteArray) (r : List UInt8) (hs : allShort l) : ∀ k, k ≤ l.length → fldN (fieldsL l ++ r) k = some (l.take k, fieldsL (l.drop k) ++ r)
 | 0, _ => by simp [fldN]
 | k + 1, h => by
  rw [fldN, fldN_fields l r hs k (by omega), Option.bind_some]
  rw [fieldsL_drop l k (by omega), List.append_assoc, fld_field _ _ (hs k (by omega)), Option.bind_some, List.take_succ_eq_append_getElem (by omega)]
theorem rf_fb (l : List ByteArray) (h : ¬ 60 < l.length) (hs : allShort l) (hf : ¬ 65536 < fsum l) : rfL (be l.length 1 ++ fieldsL l) = l ∧ rfC (be l.length 1 ++ fieldsL l) = 0 := by
 have hl : (be l.length 1 ++ fieldsL l).length = fsum l := by rw [List.length_append, be_len]; rfl
 have h1 : (be l.length 1 ++ fieldsL l).take 1 = be l.length 1 := List.take_left' (be_len _ _)
 have h2 : (be l.length 1 ++ fieldsL l).drop 1 = fieldsL l := List.drop_left' (be_len _ _)
 have h3 : ofBE (be l.length 1) = l.length := by rw [ofBE_be]; exact Nat.mod_eq_of_lt (by omega)
 have h4 := fldN_fields l [] hs l.length (Nat.le_refl _)
 rw [List.append_nil, List.take_length, List.drop_length] at h4
 have e : rfOf (be l.length 1 ++ fieldsL l) = some l := by
  unfold rfOf
  rw [h1, h2, h3, hl, if_neg (by unfold fsum; omega), if_neg h, h4]
  rfl
 unfold rfL rfC
 rw [hl, if_neg hf, if_neg hf, e]
 exact ⟨rfl, rfl⟩
theorem fld_back {l x r : List UInt8} (h : fld l = some (x, r)) : fieldB ⟨x.toArray⟩ ++ r = l ∧ x.length ≤ 20000 := by
 obtain ⟨h1, h2, h3, rfl, rfl⟩ := fld_some h
 have hx : ((l.drop 2).take (ofBE (l.take 2))).length = ofBE (l.take 2) := by rw [List.length_take, List.length_drop]; omega
 have e : be (ofBE (l.take 2)) 2 = l.take 2 := by
  have := be_ofBE (l.take 2)
  rwa [List.length_take, Nat.min_eq_left h1] at this
 refine ⟨?_, by omega⟩
 unfold fieldB
 rw [show (ByteArray.mk ((l.drop 2).take (ofBE (l.take 2))).toArray).size = ofBE (l.take 2) from by show ((l.drop 2).take (ofBE (l.take 2))).toArray.size = _; rw [List.size_toArray, hx], e]
 show l.take 2 ++ (l.drop 2).take (ofBE (l.take 2)) ++ (l.drop 2).drop (ofBE (l.take 2)) = l
 rw [List.append_assoc, List.take_append_drop, List.take_append_drop]
theorem fieldsL_app (l m : List ByteArray) : fieldsL (l ++ m) = fieldsL l ++ fieldsL m := by simp [fieldsL]
theorem fldN_back (l : List UInt8) : ∀ k m r, fldN l k = some (m, r) → fieldsL m ++ r = l ∧ allShort m
 | 0, m, r, h => by
  simp only [fldN, Option.some.injEq, Prod.mk.injEq] at h
  obtain ⟨rfl, rfl⟩ := h
  exact ⟨rfl, fun k h => absurd h (by simp)⟩
 | k + 1, m, r, h => by
  simp only [fldN] at h
  cases hk : fldN l k with
  | none => rw [hk] at h; simp at h
  | some p =>
   obtain ⟨m', r'⟩ := p
   obtain ⟨ih, is⟩ := fldN_back l k m' r' hk
   rw [hk, Option.bind_some] at h
   cases hf : fld r' with
   | none => simp only [hf] at h; simp at h
   | some q =>
    obtain ⟨x, y⟩ := q
    simp only [hf, Option.bind_some, Option.some.injEq, Prod.mk.injEq] at h
    obtain ⟨rfl, rfl⟩ := h
    obtain ⟨e, hx⟩ := fld_back hf
    refine ⟨?_, fun j hj => ?_⟩
    ·rw [fieldsL_app, List.append_assoc, show fieldsL [(⟨x.toArray⟩ : ByteArray)] = fieldB ⟨x.toArray⟩ from by simp [fieldsL], e, ih]
    ·rw [List.length_append, List.length_singleton] at hj
     by_cases hj2 : j < m'.length
     ·rw [List.getElem_append_left hj2]; exact is j hj2
     ·have : j = m'.length := by omega
      subst this
      rw [List.getElem_concat_length rfl]
      show x.toArray.size ≤ 20000
      rw [List.size_toArray]; exact hx
theorem numsL_cons (x : Int) (l : List Int) : numsL (x :: l) = be (x + 1).toNat 3 ++ numsL l := rfl
theorem chunk_nums (l : List Int) : ∀ k (h : k < l.length), chunk (numsL l) k = be (l[k] + 1).toNat 3 := by
 induction l with
 | nil => intro k h; cases h
 | cons x l ih =>
  intro k h
  rw [numsL_cons]
  cases k with
  | zero => unfold chunk; rw [Nat.mul_zero, List.drop_zero]; exact List.take_left' (be_len _ _)
  | succ k =>
   have := ih k (by simpa using h)
   unfold chunk at this ⊢
   rw [Nat.mul_succ, Nat.add_comm, ← List.drop_drop, List.drop_left' (be_len _ _), this]
   rfl
theorem rn_nb (l : List Int) (h : ¬ 4096 < l.length) (hf : allFit l) : rnL (nbL l) = l ∧ rnC (nbL l) = 0 ∧ nbC l = 0 := by
 obtain ⟨e1, e2⟩ := nb_ok h hf
 have hlen := numsL_len l
 obtain ⟨r1, r2⟩ := rn_ok (l := numsL l) (by omega) (by omega) (by omega)
 rw [e1, r1, r2, e2, hlen, Nat.mul_div_cancel_left _ (by decide)]
 refine ⟨?_, rfl, rfl⟩
 refine List.ext_getElem (numsR_len _ _) fun k h1 h2 => ?_
 simp only [numsR, List.getElem_map, List.getElem_range]
 rw [chunk_nums l k h2, ofBE_be]
 have := hf k h2
 unfold fitsN at this
 rw [Nat.mod_eq_of_lt (by omega)]
 omega
theorem rf_short (l : List UInt8) : allShort (rfL l) := by
 unfold rfL
 by_cases h1 : 65536 < l.length
 ·rw [if_pos h1]; exact fun k h => absurd h (by simp)
 ·rw [if_neg h1]
  unfold rfOf
  by_cases h2 : l.length < 1
  ·rw [if_pos h2]; exact fun k h => absurd h (by simp)
  ·rw [if_neg h2]
   by_cases h3 : 60 < ofBE (l.take 1)
   ·rw [if_pos h3]; exact fun k h => absurd h (by simp)
   ·rw [if_neg h3]
    cases hn : fldN (l.drop 1) (ofBE (l.take 1)) with
    | none => exact fun k h => absurd h (by simp)
    | some q =>
     obtain ⟨m, r⟩ := q
     rw [Option.bind_some]
     by_cases h4 : r = []
     ·simp only [h4, if_true, Option.getD_some]
      exact (fldN_back _ _ _ _ hn).2
     ·simp only [h4, if_false, Option.getD_none]
      exact fun k h => absurd h (by simp)
end Go.Proofs.YtkdplhhkkpkmoaaDoor
