/- Texts put together: MinM StoM ApI FieldsM NumbersM BeM FldRT ApN. -/
import Derived.Test.YtkpbnjlafpcnjaaGreatDoorZG0
import Derived.Test.YtkpbnjlafpcnjaaGreatDoorZG9
import Derived.Test.YtkpbnjlafpcnjaaGreatDoorZG6
import Derived.Test.YtkpbnjlafpcnjaaGreatDoorZG1
import Derived.Test.YtkpbnjlafpcnjaaGreatDoorZG2
import Derived.Test.YtkpbnjlafpcnjaaGreatDoorZG3
/- The lesser and the greater of two numbers. -/
namespace Go.Proofs.YtkpbnjlafpcnjaaGreatDoor
open Go.ChangeShapes Go.WideShapes Go.ChangeAt Go.RowKit
/-- The lesser of two numbers. -/
def mn (x y : Int) : Int := if y < x then y else x
/-- The greater of two numbers. -/
def mx (x y : Int) : Int := if x < y then y else x
end Go.Proofs.YtkpbnjlafpcnjaaGreatDoor

/- Stores: which are right, what a crash leaves. Plain mathematics. -/
namespace Go.Proofs.YtkpbnjlafpcnjaaGreatDoor
open Go.ChangeShapes Go.WideShapes Go.ChangeAt Go.RowKit
def stoB (d : ByteArray) (s : Int) : Bool := decide (d.size ≤ 60000) && inB s 0 (d.size : Int)
/-- How many bytes a crash leaves. -/
def keptN (a : Nat) (s k : Int) : Nat := (s + mn (mx k 0) ((a : Int) - s)).toNat
theorem sto_parts {d : ByteArray} {s : Int} (h : stoB d s = true) : d.size ≤ 60000 ∧ 0 ≤ s ∧ s ≤ (d.size : Int) := by
 unfold stoB inB at h; simp at h; omega
def SyncIs (d : ByteArray) (s : Int) (d2 : ByteArray) (s2 c : Int) : Prop := (stoB d s = true ∧ d2 = d ∧ s2 = (d.size : Int) ∧ c = 0) ∨ (stoB d s = false ∧ d2 = ⟨#[]⟩ ∧ s2 = 0 ∧ c = 1)
def CrashIs (d : ByteArray) (s k : Int) (d2 : ByteArray) (s2 c : Int) : Prop := (stoB d s = true ∧ d2 = d.extract 0 (keptN d.size s k) ∧ s2 = (keptN d.size s k : Int) ∧ c = 0) ∨ (stoB d s = false ∧ d2 = ⟨#[]⟩ ∧ s2 = 0 ∧ c = 1)
end Go.Proofs.YtkpbnjlafpcnjaaGreatDoor

/- ApplyRecord: what the program answers. -/
namespace Go.Proofs.YtkpbnjlafpcnjaaGreatDoor
open Go.ChangeShapes Go.WideShapes Go.ChangeAt Go.RowKit
set_option linter.unusedVariables false
/-- What ApplyRecord answers. -/
def ApIs (tm vt : Int) (l : List Ent) (t : ByteArray) (tm' vt' : Int) (l' : List Ent) (c : Int) : Prop :=
 if 65536 < t.size then (tm', vt', l', c) = (0, 0, [], 2)
 else if stateB tm vt l = false then (tm', vt', l', c) = (0, 0, [], 1)
 else match apF tm vt l t with
  | none => (tm', vt', l', c) = (tm, vt, l, 3)
  | some (tm2, vt2, l2) => (tm', vt', l', c) = (tm2, vt2, l2, 0)
end Go.Proofs.YtkpbnjlafpcnjaaGreatDoor

/- Fields as bytes: the plain mathematics. -/
namespace Go.Proofs.YtkpbnjlafpcnjaaGreatDoor
open Go.ChangeShapes Go.WideShapes Go.ChangeAt Go.RowKit
def fieldB (s : ByteArray) : List UInt8 := be s.size 2 ++ s.data.toList
def fieldsL (l : List ByteArray) : List UInt8 := l.flatMap fieldB
def fsum (l : List ByteArray) : Nat := 1 + (fieldsL l).length
def shortB (l : List ByteArray) : Bool := l.all fun s => decide (s.size ≤ 20000)
def allShort (l : List ByteArray) : Prop := ∀ k (h : k < l.length), l[k].size ≤ 20000
def ffC (l : List ByteArray) : Int := if 60 < l.length then 6 else if shortB l then (if 65536 < fsum l then 7 else 0) else 4
def fbC (l : List ByteArray) : Int := if 4096 < l.length then 2 else ffC l
def fbL (l : List ByteArray) : List UInt8 := if 60 < l.length then [] else if shortB l then (if 65536 < fsum l then [] else be l.length 1 ++ fieldsL l) else []
end Go.Proofs.YtkpbnjlafpcnjaaGreatDoor

/- Numbers as three bytes each: the plain mathematics. -/
namespace Go.Proofs.YtkpbnjlafpcnjaaGreatDoor
open Go.ChangeShapes Go.WideShapes Go.ChangeAt Go.RowKit
def fitsN (x : Int) : Prop := -1 ≤ x ∧ x ≤ 16777214
def numsL (l : List Int) : List UInt8 := l.flatMap fun x => be (x + 1).toNat 3
def fitB (l : List Int) : Bool := l.all fun x => decide (-1 ≤ x ∧ x ≤ 16777214)
def allFit (l : List Int) : Prop := ∀ k (h : k < l.length), fitsN l[k]
def nbL (l : List Int) : List UInt8 := if 4096 < l.length then [] else if fitB l then numsL l else []
def nbC (l : List Int) : Int := if 4096 < l.length then 2 else if fitB l then 0 else 4
end Go.Proofs.YtkpbnjlafpcnjaaGreatDoor

/- Numbers as bytes and back. Plain mathematics. -/
namespace Go.Proofs.YtkpbnjlafpcnjaaGreatDoor
theorem ofBE_from (l : List UInt8) : ∀ n : Nat, l.foldl (fun n c => n * 256 + c.toNat) n = n * 256 ^ l.length + ofBE l := by
 induction l with
 | nil => intro n; simp [ofBE]
 | cons c l ih =>
  intro n
  unfold ofBE
  rw [List.foldl_cons, List.foldl_cons, ih, ih (0 * 256 + c.toNat), List.length_cons, Nat.pow_succ, Nat.add_mul, Nat.zero_mul, Nat.zero_add, Nat.mul_assoc, Nat.mul_comm 256, Nat.add_assoc]
theorem ofBE_cons (c : UInt8) (l : List UInt8) : ofBE (c :: l) = c.toNat * 256 ^ l.length + ofBE l := by
 show List.foldl (fun n c => n * 256 + c.toNat) (0 * 256 + c.toNat) l = _
 rw [ofBE_from, Nat.zero_mul, Nat.zero_add]
theorem ofBE_lt2 (l : List UInt8) : ofBE l < 256 ^ l.length := by
 have := ofBE_lt l l.length
 rwa [List.take_length] at this
theorem be_add (a r s : Nat) : ∀ t, t ≤ s → be (a * 256 ^ s + r) t = be r t
 | 0, _ => rfl
 | t + 1, h => by
  rw [be, be, be_add a r s t (by omega)]
  congr 1
  unfold nb
  congr 1
  have e : a * 256 ^ s = 256 ^ t * (a * 256 ^ (s - t - 1) * 256) := by
   rw [Nat.mul_assoc, ← Nat.pow_succ, Nat.mul_left_comm, ← Nat.pow_add]
   congr 2
   omega
  rw [e, Nat.add_comm, Nat.add_mul_div_left _ _ (Nat.pow_pos (by decide))]
  omega
theorem be_ofBE (l : List UInt8) : be (ofBE l) l.length = l := by
 induction l with
 | nil => rfl
 | cons c l ih =>
  rw [List.length_cons, ofBE_cons, be, be_add _ _ _ _ (Nat.le_refl _), ih]
  congr 1
  unfold nb
  rw [Nat.mul_comm, Nat.mul_add_div (Nat.pow_pos (by decide)), Nat.div_eq_of_lt (ofBE_lt2 l), Nat.add_zero, Nat.mod_eq_of_lt c.toNat_lt]
  exact UInt8.ofNat_toNat
end Go.Proofs.YtkpbnjlafpcnjaaGreatDoor

/- Fields and numbers are read back; what is read is just the bytes of what was read. Plain mathematics. -/
namespace Go.Proofs.YtkpbnjlafpcnjaaGreatDoor
open Go.ChangeShapes Go.WideShapes Go.ChangeAt Go.RowKit
theorem fld_back {l x r : List UInt8} (h : fld l = some (x, r)) : fieldB ⟨x.toArray⟩ ++ r = l ∧ x.length ≤ 20000 := by
 obtain ⟨h1, h2, h3, rfl, rfl⟩ := fld_some h
 have hx : ((l.drop 2).take (ofBE (l.take 2))).length = ofBE (l.take 2) := by rw [List.length_take, List.length_drop]; omega
 have e : be (ofBE (l.take 2)) 2 = l.take 2 := by
  have := be_ofBE (l.take 2)
  rwa [List.length_take, Nat.min_eq_left h1] at this
 refine ⟨?_, by omega⟩
 unfold fieldB
 rw [show (ByteArray.mk ((l.drop 2).take (ofBE (l.take 2))).toArray).size = ofBE (l.take 2) from by show ((l.drop 2).take (ofBE (l.take 2))).toArray.size = _; rw [List.size_toArray, hx], e]
 show l.take 2 ++ (l.drop 2).take (ofBE (l.take 2)) ++ (l.drop 2).drop (ofBE (l.take 2)) = l
 rw [List.append_assoc, List.take_append_drop, List.take_append_drop]
theorem fieldsL_app (l m : List ByteArray) : fieldsL (l ++ m) = fieldsL l ++ fieldsL m := by simp [fieldsL]
theorem fldN_back (l : List UInt8) : ∀ k m r, fldN l k = some (m, r) → fieldsL m ++ r = l ∧ allShort m
 | 0, m, r, h => by
  simp only [fldN, Option.some.injEq, Prod.mk.injEq] at h
  obtain ⟨rfl, rfl⟩ := h
  exact ⟨rfl, fun k h => absurd h (by simp)⟩
 | k + 1, m, r, h => by
  simp only [fldN] at h
  cases hk : fldN l k with
  | none => rw [hk] at h; simp at h
  | some p =>
   obtain ⟨m', r'⟩ := p
   obtain ⟨ih, is⟩ := fldN_back l k m' r' hk
   rw [hk, Option.bind_some] at h
   cases hf : fld r' with
   | none => simp only [hf] at h; simp at h
   | some q =>
    obtain ⟨x, y⟩ := q
    simp only [hf, Option.bind_some, Option.some.injEq, Prod.mk.injEq] at h
    obtain ⟨rfl, rfl⟩ := h
    obtain ⟨e, hx⟩ := fld_back hf
    refine ⟨?_, fun j hj => ?_⟩
    ·rw [fieldsL_app, List.append_assoc, show fieldsL [(⟨x.toArray⟩ : ByteArray)] = fieldB ⟨x.toArray⟩ from by simp [fieldsL], e, ih]
    ·rw [List.length_append, List.length_singleton] at hj
     by_cases hj2 : j < m'.length
     ·rw [List.getElem_append_left hj2]; exact is j hj2
     ·have : j = m'.length := by omega
      subst this
      rw [List.getElem_concat_length rfl]
      show x.toArray.size ≤ 20000
      rw [List.size_toArray]; exact hx
theorem rf_short (l : List UInt8) : allShort (rfL l) := by
 unfold rfL
 by_cases h1 : 65536 < l.length
 ·rw [if_pos h1]; exact fun k h => absurd h (by simp)
 ·rw [if_neg h1]
  unfold rfOf
  by_cases h2 : l.length < 1
  ·rw [if_pos h2]; exact fun k h => absurd h (by simp)
  ·rw [if_neg h2]
   by_cases h3 : 60 < ofBE (l.take 1)
   ·rw [if_pos h3]; exact fun k h => absurd h (by simp)
   ·rw [if_neg h3]
    cases hn : fldN (l.drop 1) (ofBE (l.take 1)) with
    | none => exact fun k h => absurd h (by simp)
    | some q =>
     obtain ⟨m, r⟩ := q
     rw [Option.bind_some]
     by_cases h4 : r = []
     ·simp only [h4, if_true, Option.getD_some]
      exact (fldN_back _ _ _ _ hn).2
     ·simp only [h4, if_false, Option.getD_none]
      exact fun k h => absurd h (by simp)
end Go.Proofs.YtkpbnjlafpcnjaaGreatDoor

/- What ApplyRecord's contract asks of a record and of a state: plain mathematics. -/
namespace Go.Proofs.YtkpbnjlafpcnjaaGreatDoor
open Go.ChangeShapes Go.WideShapes Go.ChangeAt Go.RowKit
theorem rf_sizesA {l : List UInt8} {m : List ByteArray} (hl : ¬ 65536 < l.length) (h : rfOf l = some m) : ∀ k (hk : k < m.length), m[k].size ≤ 20000 := by
 have h1 := rf_short l
 have h2 : rfL l = m := by unfold rfL; rw [if_neg hl, h]; rfl
 rw [h2] at h1
 exact h1
theorem ap_fields (t : ByteArray) (h : t.size ≤ 65536) : ∀ m, rfOf t.data.toList = some m → ∀ k (hk : k < m.length), m[k].size ≤ 20000 := by
 intro m hm
 have hl : ¬ 65536 < t.data.toList.length := by
  have : t.data.toList.length = t.size := by simp
  omega
 exact rf_sizesA hl hm
theorem rf_few {l : List UInt8} {m : List ByteArray} (h : rfOf l = some m) : m.length ≤ 60 := by
 unfold rfOf at h
 split at h
 ·cases h
 ·split at h
  ·cases h
  ·cases hf : fldN (l.drop 1) (ofBE (l.take 1)) with
   | none => rw [hf] at h; cases h
   | some p =>
    rw [hf] at h
    simp only [Option.bind_some] at h
    split at h
    ·injection h with h
     rw [← h, (fldN_len _ _ p.1 p.2 hf).1]
     omega
    ·cases h
theorem ap_counts (t : ByteArray) : ∀ f L r, recP t = some (f, L, r) → L.length ≤ 65536 ∧ r.length ≤ 65536 := by
 intro f L r h
 obtain ⟨f1, h1, h2, h3⟩ := recP_parts h
 have h4 := rf_few h1
 have h5 := rnL_le f1.data.toList
 rw [h2]
 simp at h4
 omega
theorem ap_state (tm vt : Int) (l : List Ent) (t : ByteArray) (ht : t.size ≤ 65536) (hsz : ∀ k (h : k < l.length), l[k].2.size ≤ 1048576) (hs : stateB tm vt l = true) : ∀ tm2 vt2 l2, apR tm vt l t = some (tm2, vt2, l2) → l2.length ≤ 1048576 ∧ ∀ k (h : k < l2.length), l2[k].2.size ≤ 1048576 := by
 intro tm2 vt2 l2 h
 have hl := (state_parts hs).2.2.1
 unfold apR at h
 cases hR : recP t with
 | none => rw [hR] at h; cases h
 | some q =>
  obtain ⟨f, L, r⟩ := q
  rw [hR] at h
  obtain ⟨f1, h1, -, -⟩ := recP_parts hR
  have hf := ap_fields t ht _ h1
  simp only at h
  unfold apK at h
  split at h
  ·split at h
   ·injection h with h; injection h with _ h; injection h with _ h; subst h
    exact ⟨by omega, hsz⟩
   ·cases h
  ·split at h
   ·injection h with h; injection h with _ h; injection h with _ h; subst h
    refine ⟨by rw [List.length_take]; omega, fun k hk => ?_⟩
    rw [List.getElem_take]; exact hsz _ _
   ·cases h
  ·rename_i x d
   split at h
   ·injection h with h; injection h with _ h; injection h with _ h; subst h
    refine ⟨by rw [List.length_append]; simp; omega, fun k hk => ?_⟩
    rw [List.length_append] at hk
    by_cases hk2 : k < l.length
    ·rw [List.getElem_append_left hk2]; exact hsz k hk2
    ·rw [List.getElem_append_right (by omega)]
     have hd := hf 2 (by simp)
     simp at hd ⊢
     omega
   ·cases h
  ·cases h
end Go.Proofs.YtkpbnjlafpcnjaaGreatDoor
