/- Texts put together: MinM StoM ApI FieldsM NumbersM BeM FldRT ApN RvM ComM SamM. -/
import Derived.Test.YtfogppnijdjakaaGreatDoorZG0
import Derived.Test.YtfogppnijdjakaaGreatDoorZG1
import Derived.Test.YtfogppnijdjakaaGreatDoorZG16
import Derived.Test.YtfogppnijdjakaaGreatDoorZG14
import Derived.Test.YtfogppnijdjakaaGreatDoorZG9
import Derived.Test.YtfogppnijdjakaaGreatDoorZG2
import Derived.Test.YtfogppnijdjakaaGreatDoorZG11
import Derived.Test.YtfogppnijdjakaaGreatDoorZG12
/- The lesser and the greater of two numbers. -/
namespace Go.Proofs.YtfogppnijdjakaaGreatDoor
open Go.ChangeShapes Go.WideShapes Go.ChangeAt Go.RowKit
/-- The lesser of two numbers. -/
def mn (x y : Int) : Int := if y < x then y else x
/-- The greater of two numbers. -/
def mx (x y : Int) : Int := if x < y then y else x
end Go.Proofs.YtfogppnijdjakaaGreatDoor

/- Stores: which are right, what a crash leaves. Plain mathematics. -/
namespace Go.Proofs.YtfogppnijdjakaaGreatDoor
open Go.ChangeShapes Go.WideShapes Go.ChangeAt Go.RowKit
def stoB (d : ByteArray) (s : Int) : Bool := decide (d.size ≤ 60000) && inB s 0 (d.size : Int)
/-- How many bytes a crash leaves. -/
def keptN (a : Nat) (s k : Int) : Nat := (s + mn (mx k 0) ((a : Int) - s)).toNat
theorem sto_parts {d : ByteArray} {s : Int} (h : stoB d s = true) : d.size ≤ 60000 ∧ 0 ≤ s ∧ s ≤ (d.size : Int) := by
 unfold stoB inB at h; simp at h; omega
def SyncIs (d : ByteArray) (s : Int) (d2 : ByteArray) (s2 c : Int) : Prop := (stoB d s = true ∧ d2 = d ∧ s2 = (d.size : Int) ∧ c = 0) ∨ (stoB d s = false ∧ d2 = ⟨#[]⟩ ∧ s2 = 0 ∧ c = 1)
def CrashIs (d : ByteArray) (s k : Int) (d2 : ByteArray) (s2 c : Int) : Prop := (stoB d s = true ∧ d2 = d.extract 0 (keptN d.size s k) ∧ s2 = (keptN d.size s k : Int) ∧ c = 0) ∨ (stoB d s = false ∧ d2 = ⟨#[]⟩ ∧ s2 = 0 ∧ c = 1)
end Go.Proofs.YtfogppnijdjakaaGreatDoor

/- ApplyRecord: what the program answers. -/
namespace Go.Proofs.YtfogppnijdjakaaGreatDoor
open Go.ChangeShapes Go.WideShapes Go.ChangeAt Go.RowKit
set_option linter.unusedVariables false
/-- What ApplyRecord answers. -/
def ApIs (tm vt : Int) (l : List Ent) (t : ByteArray) (tm' vt' : Int) (l' : List Ent) (c : Int) : Prop :=
 if 65536 < t.size then (tm', vt', l', c) = (0, 0, [], 2)
 else if stateB tm vt l = false then (tm', vt', l', c) = (0, 0, [], 1)
 else match apF tm vt l t with
  | none => (tm', vt', l', c) = (tm, vt, l, 3)
  | some (tm2, vt2, l2) => (tm', vt', l', c) = (tm2, vt2, l2, 0)
end Go.Proofs.YtfogppnijdjakaaGreatDoor

/- Fields as bytes: the plain mathematics. -/
namespace Go.Proofs.YtfogppnijdjakaaGreatDoor
open Go.ChangeShapes Go.WideShapes Go.ChangeAt Go.RowKit
def fieldB (s : ByteArray) : List UInt8 := be s.size 2 ++ s.data.toList
def fieldsL (l : List ByteArray) : List UInt8 := l.flatMap fieldB
def fsum (l : List ByteArray) : Nat := 1 + (fieldsL l).length
def shortB (l : List ByteArray) : Bool := l.all fun s => decide (s.size ≤ 20000)
def allShort (l : List ByteArray) : Prop := ∀ k (h : k < l.length), l[k].size ≤ 20000
def ffC (l : List ByteArray) : Int := if 60 < l.length then 6 else if shortB l then (if 65536 < fsum l then 7 else 0) else 4
def fbC (l : List ByteArray) : Int := if 4096 < l.length then 2 else ffC l
def fbL (l : List ByteArray) : List UInt8 := if 60 < l.length then [] else if shortB l then (if 65536 < fsum l then [] else be l.length 1 ++ fieldsL l) else []
end Go.Proofs.YtfogppnijdjakaaGreatDoor

/- Numbers as three bytes each: the plain mathematics. -/
namespace Go.Proofs.YtfogppnijdjakaaGreatDoor
open Go.ChangeShapes Go.WideShapes Go.ChangeAt Go.RowKit
def fitsN (x : Int) : Prop := -1 ≤ x ∧ x ≤ 16777214
def numsL (l : List Int) : List UInt8 := l.flatMap fun x => be (x + 1).toNat 3
def fitB (l : List Int) : Bool := l.all fun x => decide (-1 ≤ x ∧ x ≤ 16777214)
def allFit (l : List Int) : Prop := ∀ k (h : k < l.length), fitsN l[k]
def nbL (l : List Int) : List UInt8 := if 4096 < l.length then [] else if fitB l then numsL l else []
def nbC (l : List Int) : Int := if 4096 < l.length then 2 else if fitB l then 0 else 4
end Go.Proofs.YtfogppnijdjakaaGreatDoor

/- Numbers as bytes and back. Plain mathematics. -/
namespace Go.Proofs.YtfogppnijdjakaaGreatDoor
theorem ofBE_from (l : List UInt8) : ∀ n : Nat, l.foldl (fun n c => n * 256 + c.toNat) n = n * 256 ^ l.length + ofBE l := by
 induction l with
 | nil => intro n; simp [ofBE]
 | cons c l ih =>
  intro n
  unfold ofBE
  rw [List.foldl_cons, List.foldl_cons, ih, ih (0 * 256 + c.toNat), List.length_cons, Nat.pow_succ, Nat.add_mul, Nat.zero_mul, Nat.zero_add, Nat.mul_assoc, Nat.mul_comm 256, Nat.add_assoc]
theorem ofBE_cons (c : UInt8) (l : List UInt8) : ofBE (c :: l) = c.toNat * 256 ^ l.length + ofBE l := by
 show List.foldl (fun n c => n * 256 + c.toNat) (0 * 256 + c.toNat) l = _
 rw [ofBE_from, Nat.zero_mul, Nat.zero_add]
theorem ofBE_lt2 (l : List UInt8) : ofBE l < 256 ^ l.length := by
 have := ofBE_lt l l.length
 rwa [List.take_length] at this
theorem be_add (a r s : Nat) : ∀ t, t ≤ s → be (a * 256 ^ s + r) t = be r t
 | 0, _ => rfl
 | t + 1, h => by
  rw [be, be, be_add a r s t (by omega)]
  congr 1
  unfold nb
  congr 1
  have e : a * 256 ^ s = 256 ^ t * (a * 256 ^ (s - t - 1) * 256) := by
   rw [Nat.mul_assoc, ← Nat.pow_succ, Nat.mul_left_comm, ← Nat.pow_add]
   congr 2
   omega
  rw [e, Nat.add_comm, Nat.add_mul_div_left _ _ (Nat.pow_pos (by decide))]
  omega
theorem be_ofBE (l : List UInt8) : be (ofBE l) l.length = l := by
 induction l with
 | nil => rfl
 | cons c l ih =>
  rw [List.length_cons, ofBE_cons, be, be_add _ _ _ _ (Nat.le_refl _), ih]
  congr 1
  unfold nb
  rw [Nat.mul_comm, Nat.mul_add_div (Nat.pow_pos (by decide)), Nat.div_eq_of_lt (ofBE_lt2 l), Nat.add_zero, Nat.mod_eq_of_lt c.toNat_lt]
  exact UInt8.ofNat_toNat
end Go.Proofs.YtfogppnijdjakaaGreatDoor

/- Fields and numbers are read back; what is read is just the bytes of what was read. Plain mathematics. -/
namespace Go.Proofs.YtfogppnijdjakaaGreatDoor
open Go.ChangeShapes Go.WideShapes Go.ChangeAt Go.RowKit
theorem fld_back {l x r : List UInt8} (h : fld l = some (x, r)) : fieldB ⟨x.toArray⟩ ++ r = l ∧ x.length ≤ 20000 := by
 obtain ⟨h1, h2, h3, rfl, rfl⟩ := fld_some h
 have hx : ((l.drop 2).take (ofBE (l.take 2))).length = ofBE (l.take 2) := by rw [List.length_take, List.length_drop]; omega
 have e : be (ofBE (l.take 2)) 2 = l.take 2 := by
  have := be_ofBE (l.take 2)
  rwa [List.length_take, Nat.min_eq_left h1] at this
 refine ⟨?_, by omega⟩
 unfold fieldB
 rw [show (ByteArray.mk ((l.drop 2).take (ofBE (l.take 2))).toArray).size = ofBE (l.take 2) from by show ((l.drop 2).take (ofBE (l.take 2))).toArray.size = _; rw [List.size_toArray, hx], e]
 show l.take 2 ++ (l.drop 2).take (ofBE (l.take 2)) ++ (l.drop 2).drop (ofBE (l.take 2)) = l
 rw [List.append_assoc, List.take_append_drop, List.take_append_drop]
theorem fieldsL_app (l m : List ByteArray) : fieldsL (l ++ m) = fieldsL l ++ fieldsL m := by simp [fieldsL]
theorem fldN_back (l : List UInt8) : ∀ k m r, fldN l k = some (m, r) → fieldsL m ++ r = l ∧ allShort m
 | 0, m, r, h => by
  simp only [fldN, Option.some.injEq, Prod.mk.injEq] at h
  obtain ⟨rfl, rfl⟩ := h
  exact ⟨rfl, fun k h => absurd h (by simp)⟩
 | k + 1, m, r, h => by
  simp only [fldN] at h
  cases hk : fldN l k with
  | none => rw [hk] at h; simp at h
  | some p =>
   obtain ⟨m', r'⟩ := p
   obtain ⟨ih, is⟩ := fldN_back l k m' r' hk
   rw [hk, Option.bind_some] at h
   cases hf : fld r' with
   | none => simp only [hf] at h; simp at h
   | some q =>
    obtain ⟨x, y⟩ := q
    simp only [hf, Option.bind_some, Option.some.injEq, Prod.mk.injEq] at h
    obtain ⟨rfl, rfl⟩ := h
    obtain ⟨e, hx⟩ := fld_back hf
    refine ⟨?_, fun j hj => ?_⟩
    ·rw [fieldsL_app, List.append_assoc, show fieldsL [(⟨x.toArray⟩ : ByteArray)] = fieldB ⟨x.toArray⟩ from by simp [fieldsL], e, ih]
    ·rw [List.length_append, List.length_singleton] at hj
     by_cases hj2 : j < m'.length
     ·rw [List.getElem_append_left hj2]; exact is j hj2
     ·have : j = m'.length := by omega
      subst this
      rw [List.getElem_concat_length rfl]
      show x.toArray.size ≤ 20000
      rw [List.size_toArray]; exact hx
theorem rf_short (l : List UInt8) : allShort (rfL l) := by
 unfold rfL
 by_cases h1 : 65536 < l.length
 ·rw [if_pos h1]; exact fun k h => absurd h (by simp)
 ·rw [if_neg h1]
  unfold rfOf
  by_cases h2 : l.length < 1
  ·rw [if_pos h2]; exact fun k h => absurd h (by simp)
  ·rw [if_neg h2]
   by_cases h3 : 60 < ofBE (l.take 1)
   ·rw [if_pos h3]; exact fun k h => absurd h (by simp)
   ·rw [if_neg h3]
    cases hn : fldN (l.drop 1) (ofBE (l.take 1)) with
    | none => exact fun k h => absurd h (by simp)
    | some q =>
     obtain ⟨m, r⟩ := q
     rw [Option.bind_some]
     by_cases h4 : r = []
     ·simp only [h4, if_true, Option.getD_some]
      exact (fldN_back _ _ _ _ hn).2
     ·simp only [h4, if_false, Option.getD_none]
      exact fun k h => absurd h (by simp)
end Go.Proofs.YtfogppnijdjakaaGreatDoor

/- What ApplyRecord's contract asks of a record and of a state: plain mathematics. -/
namespace Go.Proofs.YtfogppnijdjakaaGreatDoor
open Go.ChangeShapes Go.WideShapes Go.ChangeAt Go.RowKit
theorem rf_sizesA {l : List UInt8} {m : List ByteArray} (hl : ¬ 65536 < l.length) (h : rfOf l = some m) : ∀ k (hk : k < m.length), m[k].size ≤ 20000 := by
 have h1 := rf_short l
 have h2 : rfL l = m := by unfold rfL; rw [if_neg hl, h]; rfl
 rw [h2] at h1
 exact h1
theorem ap_fields (t : ByteArray) (h : t.size ≤ 65536) : ∀ m, rfOf t.data.toList = some m → ∀ k (hk : k < m.length), m[k].size ≤ 20000 := by
 intro m hm
 have hl : ¬ 65536 < t.data.toList.length := by
  have : t.data.toList.length = t.size := by simp
  omega
 exact rf_sizesA hl hm
theorem rf_few {l : List UInt8} {m : List ByteArray} (h : rfOf l = some m) : m.length ≤ 60 := by
 unfold rfOf at h
 split at h
 ·cases h
 ·split at h
  ·cases h
  ·cases hf : fldN (l.drop 1) (ofBE (l.take 1)) with
   | none => rw [hf] at h; cases h
   | some p =>
    rw [hf] at h
    simp only [Option.bind_some] at h
    split at h
    ·injection h with h
     rw [← h, (fldN_len _ _ p.1 p.2 hf).1]
     omega
    ·cases h
theorem ap_counts (t : ByteArray) : ∀ f L r, recP t = some (f, L, r) → L.length ≤ 65536 ∧ r.length ≤ 65536 := by
 intro f L r h
 obtain ⟨f1, h1, h2, h3⟩ := recP_parts h
 have h4 := rf_few h1
 have h5 := rnL_le f1.data.toList
 rw [h2]
 simp at h4
 omega
theorem ap_state (tm vt : Int) (l : List Ent) (t : ByteArray) (ht : t.size ≤ 65536) (hsz : ∀ k (h : k < l.length), l[k].2.size ≤ 1048576) (hs : stateB tm vt l = true) : ∀ tm2 vt2 l2, apR tm vt l t = some (tm2, vt2, l2) → l2.length ≤ 1048576 ∧ ∀ k (h : k < l2.length), l2[k].2.size ≤ 1048576 := by
 intro tm2 vt2 l2 h
 have hl := (state_parts hs).2.2.1
 unfold apR at h
 cases hR : recP t with
 | none => rw [hR] at h; cases h
 | some q =>
  obtain ⟨f, L, r⟩ := q
  rw [hR] at h
  obtain ⟨f1, h1, -, -⟩ := recP_parts hR
  have hf := ap_fields t ht _ h1
  simp only at h
  unfold apK at h
  split at h
  ·split at h
   ·injection h with h; injection h with _ h; injection h with _ h; subst h
    exact ⟨by omega, hsz⟩
   ·cases h
  ·split at h
   ·injection h with h; injection h with _ h; injection h with _ h; subst h
    refine ⟨by rw [List.length_take]; omega, fun k hk => ?_⟩
    rw [List.getElem_take]; exact hsz _ _
   ·cases h
  ·rename_i x d
   split at h
   ·injection h with h; injection h with _ h; injection h with _ h; subst h
    refine ⟨by rw [List.length_append]; simp; omega, fun k hk => ?_⟩
    rw [List.length_append] at hk
    by_cases hk2 : k < l.length
    ·rw [List.getElem_append_left hk2]; exact hsz k hk2
    ·rw [List.getElem_append_right (by omega)]
     have hd := hf 2 (by simp)
     simp at hd ⊢
     omega
   ·cases h
  ·cases h
end Go.Proofs.YtfogppnijdjakaaGreatDoor

/- What a store's records make, from the beginning on. Plain mathematics. -/
namespace Go.Proofs.YtfogppnijdjakaaGreatDoor
open Go.ChangeShapes Go.WideShapes Go.ChangeAt Go.RowKit
set_option linter.unusedVariables false
/-- What records make of a state, one by one. -/
def apAll : Int × Int × List Ent → List ByteArray → Option (Int × Int × List Ent)
 | s, [] => some s
 | s, d :: r => match apF s.1 s.2.1 s.2.2 d with
  | none => none
  | some s2 => apAll s2 r
theorem apAll_no {tm vt : Int} {l : List Ent} {d : ByteArray} {r : List ByteArray} (h : apF tm vt l d = none) : apAll (tm, vt, l) (d :: r) = none := by simp only [apAll, h]
theorem apAll_yes {tm vt : Int} {l : List Ent} {d : ByteArray} {r : List ByteArray} {s2 : Int × Int × List Ent} (h : apF tm vt l d = some s2) : apAll (tm, vt, l) (d :: r) = apAll s2 r := by simp only [apAll, h]
theorem apF_right {tm vt tm2 vt2 : Int} {l l2 : List Ent} {t : ByteArray} (h : apF tm vt l t = some (tm2, vt2, l2)) : stateB tm2 vt2 l2 = true := by
 unfold apF at h
 split at h
 ·split at h
  ·rename_i h4 h5
   injection h with h; injection h with e1 h; injection h with e2 e3
   subst e1 e2 e3
   exact h5.1
  ·cases h
 ·cases h
theorem apAll_right : ∀ (r : List ByteArray) (tm vt : Int) (l : List Ent) (tm2 vt2 : Int) (l2 : List Ent), stateB tm vt l = true → apAll (tm, vt, l) r = some (tm2, vt2, l2) → stateB tm2 vt2 l2 = true
 | [], tm, vt, l, tm2, vt2, l2, h, he => by
  injection he with he; injection he with e1 he; injection he with e2 e3
  subst e1 e2 e3; exact h
 | d :: r, tm, vt, l, tm2, vt2, l2, h, he => by
  cases hF : apF tm vt l d with
  | none => rw [apAll_no hF] at he; cases he
  | some q =>
   obtain ⟨a, b, c⟩ := q
   rw [apAll_yes hF] at he
   exact apAll_right r a b c tm2 vt2 l2 (apF_right hF) he
theorem logB_sz : ∀ (l : List Ent) (T p : Int), logB T p l = true → ∀ k (h : k < l.length), l[k].2.size ≤ 400
 | [], _, _, _, k, h => absurd h (by simp)
 | e :: l, T, p, hb, k, h => by
  unfold logB at hb
  simp only [Bool.and_eq_true] at hb
  cases k with
  | zero => have := hb.1; unfold entB at this; simp at this; simpa using this.2
  | succ k => simpa using logB_sz l T e.1 hb.2 k (by simpa using h)
theorem state_sz {tm vt : Int} {l : List Ent} (h : stateB tm vt l = true) : ∀ k (h : k < l.length), l[k].2.size ≤ 1048576 := fun k hk => by
 have := logB_sz l tm 1 (state_parts h).2.2.2 k hk
 omega
/-- How many bytes frames of these data are. -/
def szs : List ByteArray → Nat
 | [] => 0
 | d :: r => 7 + d.size + szs r
theorem frD_size (l : List UInt8) (h : frC l = 0) : (⟨(frD l).toArray⟩ : ByteArray).size = frN l := by
 rw [← frD_len h]; rfl
theorem frs_szs : ∀ (f : Nat) (l : List UInt8), (frs f l).2.1 = szs (frs f l).1
 | 0, l => by simp [frs, szs]
 | f + 1, l => by
  by_cases h0 : l = []
  ·subst h0; rw [frs_nil]; rfl
  ·by_cases h1 : frC l = 0
   ·rw [frs_step f h0 h1]
    show 7 + frN l + (frs f (frT l)).2.1 = 7 + (⟨(frD l).toArray⟩ : ByteArray).size + szs (frs f (frT l)).1
    rw [frD_size l h1, frs_szs f (frT l)]
   ·rw [frs_bad f h0 h1]; rfl
theorem frs_small : ∀ (f : Nat) (l : List UInt8), ∀ d ∈ (frs f l).1, d.size ≤ 65536
 | 0, l => by simp [frs]
 | f + 1, l => by
  by_cases h0 : l = []
  ·subst h0; rw [frs_nil]; simp
  ·by_cases h1 : frC l = 0
   ·rw [frs_step f h0 h1]
    intro d hd
    rcases List.mem_cons.1 hd with rfl | hd
    ·rw [frD_size l h1]; exact (frC_ok h1).2.2.1
    ·exact frs_small f (frT l) d hd
   ·rw [frs_bad f h0 h1]; simp
theorem frs_in : ∀ (f : Nat) (l : List UInt8), (frs f l).2.1 ≤ l.length
 | 0, l => by simp [frs]
 | f + 1, l => by
  by_cases h0 : l = []
  ·subst h0; rw [frs_nil]; simp
  ·by_cases h1 : frC l = 0
   ·rw [frs_step f h0 h1]
    have h2 := frs_in f (frT l)
    have h3 := frT_len h1
    show 7 + frN l + (frs f (frT l)).2.1 ≤ _
    omega
   ·rw [frs_bad f h0 h1]; simp
/-- What Recover answers. -/
def RvIs (d : ByteArray) (s : Int) (tm vt : Int) (l : List Ent) (d2 : ByteArray) (s2 c : Int) : Prop :=
 if stoB d s = false then (tm, vt, l, d2, s2, c) = (0, 0, [], ⟨#[]⟩, 0, 1)
 else if (frs d.size d.data.toList).2.2 = 8 then (tm, vt, l, d2, s2, c) = (0, 0, [], ⟨#[]⟩, 0, 8)
 else match apAll (0, -1, []) (frs d.size d.data.toList).1 with
  | none => (tm, vt, l, d2, s2, c) = (0, 0, [], ⟨#[]⟩, 0, 3)
  | some (tm2, vt2, l2) => (tm, vt, l, d2, s2, c) = (tm2, vt2, l2, d.extract 0 (frs d.size d.data.toList).2.1, ((frs d.size d.data.toList).2.1 : Int), 0)
theorem state0 : stateB 0 (-1) [] = true := by decide
theorem rv_ex (d : ByteArray) (s : Int) : ∃ tm vt l d2 s2 c, RvIs d s tm vt l d2 s2 c ∧ l.length ≤ 60 := by
 by_cases h1 : stoB d s = false
 ·exact ⟨0, 0, [], ⟨#[]⟩, 0, 1, by unfold RvIs; rw [if_pos h1], by decide⟩
 ·by_cases h2 : (frs d.size d.data.toList).2.2 = 8
  ·exact ⟨0, 0, [], ⟨#[]⟩, 0, 8, by unfold RvIs; rw [if_neg h1, if_pos h2], by decide⟩
  ·cases hF : apAll (0, -1, []) (frs d.size d.data.toList).1 with
   | none => exact ⟨0, 0, [], ⟨#[]⟩, 0, 3, by unfold RvIs; rw [if_neg h1, if_neg h2, hF], by decide⟩
   | some q =>
    obtain ⟨tm2, vt2, l2⟩ := q
    exact ⟨tm2, vt2, l2, _, _, 0, by unfold RvIs; rw [if_neg h1, if_neg h2, hF], (state_parts (apAll_right _ _ _ _ _ _ _ state0 hF)).2.2.1⟩
theorem own_ne2 {w : World} {base : Nat} {e : TypeId} {v : Value} {m : Nat} {xs : List Value} (h : w.ownsRow base e 2 v m xs) {p : Nat} {u0 u1 u2 : Value} (hp : BF p #[u0, u1, u2] w) : v.ownBlock ≠ some p := by
 intro hb
 rcases h.2 with ⟨h0, _⟩ | ⟨g, cap', cur, hv, hbg, hg, hnc, hcm, hcs, htake⟩
 ·rw [h0] at hb; cases hb
 ·rw [hv] at hb
  have e1 : g = p := Option.some.inj hb
  subst e1
  have h2 := hp.S 2
  have h3 := hp.S 3
  simp [World.cell?, hg] at h2 h3
  obtain ⟨h4, -⟩ := Array.getElem?_eq_some_iff.1 h2
  omega
end Go.Proofs.YtfogppnijdjakaaGreatDoor

/- Entries that two logs have alike from the front on. Plain mathematics. -/
namespace Go.Proofs.YtfogppnijdjakaaGreatDoor
open Go.ChangeShapes Go.WideShapes Go.ChangeAt Go.RowKit
def comN : List Ent → List Ent → Nat
 | e :: l, f :: m => if e = f then comN l m + 1 else 0
 | _, _ => 0
theorem comN_step {l m : List Ent} {k : Nat} (h1 : k < l.length) (h2 : k < m.length) (h : l[k] = m[k]) : comN (l.drop k) (m.drop k) = comN (l.drop (k + 1)) (m.drop (k + 1)) + 1 := by
 rw [List.drop_eq_getElem_cons h1, List.drop_eq_getElem_cons h2, comN, if_pos h]
theorem comN_stop {l m : List Ent} {k : Nat} (h1 : k < l.length) (h2 : k < m.length) (h : l[k] ≠ m[k]) : comN (l.drop k) (m.drop k) = 0 := by
 rw [List.drop_eq_getElem_cons h1, List.drop_eq_getElem_cons h2, comN, if_neg h]
theorem comN_nil1 (l m : List Ent) (k : Nat) (h : l.length ≤ k) : comN (l.drop k) (m.drop k) = 0 := by
 rw [List.drop_eq_nil_of_le h]; rfl
theorem comN_nil2 (l m : List Ent) (k : Nat) (h : m.length ≤ k) : comN (l.drop k) (m.drop k) = 0 := by
 rw [List.drop_eq_nil_of_le h]; cases l.drop k <;> rfl
theorem comN_eq (l m : List Ent) (hl : l.length = m.length) : comN l m = l.length ↔ l = m := by
 induction l generalizing m with
 | nil => cases m with
  | nil => simp [comN]
  | cons f m => simp at hl
 | cons e l ih =>
  cases m with
  | nil => simp at hl
  | cons f m =>
   have := ih m (by simpa using hl)
   unfold comN; split
   ·rename_i h; subst h; simp [this]
   ·rename_i h; simp [h]
end Go.Proofs.YtfogppnijdjakaaGreatDoor

/- States held against each other. Plain mathematics. -/
namespace Go.Proofs.YtfogppnijdjakaaGreatDoor
open Go.ChangeShapes Go.WideShapes Go.ChangeAt Go.RowKit
set_option linter.unusedVariables false
def SameIs (tm vt : Int) (l : List Ent) (tm2 vt2 : Int) (m : List Ent) (R : Bool) (c : Int) : Prop :=
 (stateB tm vt l = true ∧ stateB tm2 vt2 m = true ∧ R = decide (tm = tm2 ∧ vt = vt2 ∧ l = m) ∧ c = 0) ∨ ((stateB tm vt l = false ∨ (stateB tm vt l = true ∧ stateB tm2 vt2 m = false)) ∧ R = false ∧ c = 1)
theorem sm1 {tm tm2 vt vt2 : Int} {l m : List Ent} (h : ¬ tm = tm2) : decide (tm = tm2 ∧ vt = vt2 ∧ l = m) = false := decide_eq_false fun x => h x.1
theorem sm2 {tm tm2 vt vt2 : Int} {l m : List Ent} (h : ¬ vt = vt2) : decide (tm = tm2 ∧ vt = vt2 ∧ l = m) = false := decide_eq_false fun x => h x.2.1
theorem sm4 {tm vt : Int} {l m : List Ent} : decide (tm = tm ∧ vt = vt ∧ l = m) = decide (l = m) := by simp
end Go.Proofs.YtfogppnijdjakaaGreatDoor
