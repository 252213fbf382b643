/- Texts put together: MinM StoM ApI FieldsM NumbersM BeM FldRT ApN RvM ComM SamM FlM. -/
import Derived.Test.YtjjdeejajbmecaaGreatDoorZG0
import Derived.Test.YtjjdeejajbmecaaGreatDoorZG9
import Derived.Test.YtjjdeejajbmecaaGreatDoorZG6
import Derived.Test.YtjjdeejajbmecaaGreatDoorZG1
import Derived.Test.YtjjdeejajbmecaaGreatDoorZG2
import Derived.Test.YtjjdeejajbmecaaGreatDoorZG3
import Derived.Test.YtjjdeejajbmecaaGreatDoorZG5
import Derived.Lib.SmallJoins
/- The lesser and the greater of two numbers. -/
namespace Go.Proofs.YtjjdeejajbmecaaGreatDoor
open Go.ChangeShapes Go.WideShapes Go.ChangeAt Go.RowKit
/-- The lesser of two numbers. -/
def mn (x y : Int) : Int := if y < x then y else x
/-- The greater of two numbers. -/
def mx (x y : Int) : Int := if x < y then y else x
end Go.Proofs.YtjjdeejajbmecaaGreatDoor

/- Stores: which are right, what a crash leaves. Plain mathematics. -/
namespace Go.Proofs.YtjjdeejajbmecaaGreatDoor
open Go.ChangeShapes Go.WideShapes Go.ChangeAt Go.RowKit
def stoB (d : ByteArray) (s : Int) : Bool := decide (d.size ≤ 60000) && inB s 0 (d.size : Int)
/-- How many bytes a crash leaves. -/
def keptN (a : Nat) (s k : Int) : Nat := (s + mn (mx k 0) ((a : Int) - s)).toNat
theorem sto_parts {d : ByteArray} {s : Int} (h : stoB d s = true) : d.size ≤ 60000 ∧ 0 ≤ s ∧ s ≤ (d.size : Int) := by
 unfold stoB inB at h; simp at h; omega
def SyncIs (d : ByteArray) (s : Int) (d2 : ByteArray) (s2 c : Int) : Prop := (stoB d s = true ∧ d2 = d ∧ s2 = (d.size : Int) ∧ c = 0) ∨ (stoB d s = false ∧ d2 = ⟨#[]⟩ ∧ s2 = 0 ∧ c = 1)
def CrashIs (d : ByteArray) (s k : Int) (d2 : ByteArray) (s2 c : Int) : Prop := (stoB d s = true ∧ d2 = d.extract 0 (keptN d.size s k) ∧ s2 = (keptN d.size s k : Int) ∧ c = 0) ∨ (stoB d s = false ∧ d2 = ⟨#[]⟩ ∧ s2 = 0 ∧ c = 1)
end Go.Proofs.YtjjdeejajbmecaaGreatDoor

/- ApplyRecord: what the program answers. -/
namespace Go.Proofs.YtjjdeejajbmecaaGreatDoor
open Go.ChangeShapes Go.WideShapes Go.ChangeAt Go.RowKit
set_option linter.unusedVariables false
/-- What ApplyRecord answers. -/
def ApIs (tm vt : Int) (l : List Ent) (t : ByteArray) (tm' vt' : Int) (l' : List Ent) (c : Int) : Prop :=
 if 65536 < t.size then (tm', vt', l', c) = (0, 0, [], 2)
 else if stateB tm vt l = false then (tm', vt', l', c) = (0, 0, [], 1)
 else match apF tm vt l t with
  | none => (tm', vt', l', c) = (tm, vt, l, 3)
  | some (tm2, vt2, l2) => (tm', vt', l', c) = (tm2, vt2, l2, 0)
end Go.Proofs.YtjjdeejajbmecaaGreatDoor

/- Fields as bytes: the plain mathematics. -/
namespace Go.Proofs.YtjjdeejajbmecaaGreatDoor
open Go.ChangeShapes Go.WideShapes Go.ChangeAt Go.RowKit
def fieldB (s : ByteArray) : List UInt8 := be s.size 2 ++ s.data.toList
def fieldsL (l : List ByteArray) : List UInt8 := l.flatMap fieldB
def fsum (l : List ByteArray) : Nat := 1 + (fieldsL l).length
def shortB (l : List ByteArray) : Bool := l.all fun s => decide (s.size ≤ 20000)
def allShort (l : List ByteArray) : Prop := ∀ k (h : k < l.length), l[k].size ≤ 20000
def ffC (l : List ByteArray) : Int := if 60 < l.length then 6 else if shortB l then (if 65536 < fsum l then 7 else 0) else 4
def fbC (l : List ByteArray) : Int := if 4096 < l.length then 2 else ffC l
def fbL (l : List ByteArray) : List UInt8 := if 60 < l.length then [] else if shortB l then (if 65536 < fsum l then [] else be l.length 1 ++ fieldsL l) else []
end Go.Proofs.YtjjdeejajbmecaaGreatDoor

/- Numbers as three bytes each: the plain mathematics. -/
namespace Go.Proofs.YtjjdeejajbmecaaGreatDoor
open Go.ChangeShapes Go.WideShapes Go.ChangeAt Go.RowKit
def fitsN (x : Int) : Prop := -1 ≤ x ∧ x ≤ 16777214
def numsL (l : List Int) : List UInt8 := l.flatMap fun x => be (x + 1).toNat 3
def fitB (l : List Int) : Bool := l.all fun x => decide (-1 ≤ x ∧ x ≤ 16777214)
def allFit (l : List Int) : Prop := ∀ k (h : k < l.length), fitsN l[k]
def nbL (l : List Int) : List UInt8 := if 4096 < l.length then [] else if fitB l then numsL l else []
def nbC (l : List Int) : Int := if 4096 < l.length then 2 else if fitB l then 0 else 4
end Go.Proofs.YtjjdeejajbmecaaGreatDoor

/- Numbers as bytes and back. Plain mathematics. -/
namespace Go.Proofs.YtjjdeejajbmecaaGreatDoor
theorem ofBE_from (l : List UInt8) : ∀ n : Nat, l.foldl (fun n c => n * 256 + c.toNat) n = n * 256 ^ l.length + ofBE l := by
 induction l with
 | nil => intro n; simp [ofBE]
 | cons c l ih =>
  intro n
  unfold ofBE
  rw [List.foldl_cons, List.foldl_cons, ih, ih (0 * 256 + c.toNat), List.length_cons, Nat.pow_succ, Nat.add_mul, Nat.zero_mul, Nat.zero_add, Nat.mul_assoc, Nat.mul_comm 256, Nat.add_assoc]
theorem ofBE_cons (c : UInt8) (l : List UInt8) : ofBE (c :: l) = c.toNat * 256 ^ l.length + ofBE l := by
 show List.foldl (fun n c => n * 256 + c.toNat) (0 * 256 + c.toNat) l = _
 rw [ofBE_from, Nat.zero_mul, Nat.zero_add]
theorem ofBE_lt2 (l : List UInt8) : ofBE l < 256 ^ l.length := by
 have := ofBE_lt l l.length
 rwa [List.take_length] at this
theorem be_add (a r s : Nat) : ∀ t, t ≤ s → be (a * 256 ^ s + r) t = be r t
 | 0, _ => rfl
 | t + 1, h => by
  rw [be, be, be_add a r s t (by omega)]
  congr 1
  unfold nb
  congr 1
  have e : a * 256 ^ s = 256 ^ t * (a * 256 ^ (s - t - 1) * 256) := by
   rw [Nat.mul_assoc, ← Nat.pow_succ, Nat.mul_left_comm, ← Nat.pow_add]
   congr 2
   omega
  rw [e, Nat.add_comm, Nat.add_mul_div_left _ _ (Nat.pow_pos (by decide))]
  omega
theorem be_ofBE (l : List UInt8) : be (ofBE l) l.length = l := by
 induction l with
 | nil => rfl
 | cons c l ih =>
  rw [List.length_cons, ofBE_cons, be, be_add _ _ _ _ (Nat.le_refl _), ih]
  congr 1
  unfold nb
  rw [Nat.mul_comm, Nat.mul_add_div (Nat.pow_pos (by decide)), Nat.div_eq_of_lt (ofBE_lt2 l), Nat.add_zero, Nat.mod_eq_of_lt c.toNat_lt]
  exact UInt8.ofNat_toNat
end Go.Proofs.YtjjdeejajbmecaaGreatDoor

/- Fields and numbers are read back; what is read is just the bytes of what was read. Plain mathematics. -/
namespace Go.Proofs.YtjjdeejajbmecaaGreatDoor
open Go.ChangeShapes Go.WideShapes Go.ChangeAt Go.RowKit
theorem fld_back {l x r : List UInt8} (h : fld l = some (x, r)) : fieldB ⟨x.toArray⟩ ++ r = l ∧ x.length ≤ 20000 := by
 obtain ⟨h1, h2, h3, rfl, rfl⟩ := fld_some h
 have hx : ((l.drop 2).take (ofBE (l.take 2))).length = ofBE (l.take 2) := by rw [List.length_take, List.length_drop]; omega
 have e : be (ofBE (l.take 2)) 2 = l.take 2 := by
  have := be_ofBE (l.take 2)
  rwa [List.length_take, Nat.min_eq_left h1] at this
 refine ⟨?_, by omega⟩
 unfold fieldB
 rw [show (ByteArray.mk ((l.drop 2).take (ofBE (l.take 2))).toArray).size = ofBE (l.take 2) from by show ((l.drop 2).take (ofBE (l.take 2))).toArray.size = _; rw [List.size_toArray, hx], e]
 show l.take 2 ++ (l.drop 2).take (ofBE (l.take 2)) ++ (l.drop 2).drop (ofBE (l.take 2)) = l
 rw [List.append_assoc, List.take_append_drop, List.take_append_drop]
theorem fieldsL_app (l m : List ByteArray) : fieldsL (l ++ m) = fieldsL l ++ fieldsL m := by simp [fieldsL]
theorem fldN_back (l : List UInt8) : ∀ k m r, fldN l k = some (m, r) → fieldsL m ++ r = l ∧ allShort m
 | 0, m, r, h => by
  simp only [fldN, Option.some.injEq, Prod.mk.injEq] at h
  obtain ⟨rfl, rfl⟩ := h
  exact ⟨rfl, fun k h => absurd h (by simp)⟩
 | k + 1, m, r, h => by
  simp only [fldN] at h
  cases hk : fldN l k with
  | none => rw [hk] at h; simp at h
  | some p =>
   obtain ⟨m', r'⟩ := p
   obtain ⟨ih, is⟩ := fldN_back l k m' r' hk
   rw [hk, Option.bind_some] at h
   cases hf : fld r' with
   | none => simp only [hf] at h; simp at h
   | some q =>
    obtain ⟨x, y⟩ := q
    simp only [hf, Option.bind_some, Option.some.injEq, Prod.mk.injEq] at h
    obtain ⟨rfl, rfl⟩ := h
    obtain ⟨e, hx⟩ := fld_back hf
    refine ⟨?_, fun j hj => ?_⟩
    ·rw [fieldsL_app, List.append_assoc, show fieldsL [(⟨x.toArray⟩ : ByteArray)] = fieldB ⟨x.toArray⟩ from by simp [fieldsL], e, ih]
    ·rw [List.length_append, List.length_singleton] at hj
     by_cases hj2 : j < m'.length
     ·rw [List.getElem_append_left hj2]; exact is j hj2
     ·have : j = m'.length := by omega
      subst this
      rw [List.getElem_concat_length rfl]
      show x.toArray.size ≤ 20000
      rw [List.size_toArray]; exact hx
theorem rf_short (l : List UInt8) : allShort (rfL l) := by
 unfold rfL
 by_cases h1 : 65536 < l.length
 ·rw [if_pos h1]; exact fun k h => absurd h (by simp)
 ·rw [if_neg h1]
  unfold rfOf
  by_cases h2 : l.length < 1
  ·rw [if_pos h2]; exact fun k h => absurd h (by simp)
  ·rw [if_neg h2]
   by_cases h3 : 60 < ofBE (l.take 1)
   ·rw [if_pos h3]; exact fun k h => absurd h (by simp)
   ·rw [if_neg h3]
    cases hn : fldN (l.drop 1) (ofBE (l.take 1)) with
    | none => exact fun k h => absurd h (by simp)
    | some q =>
     obtain ⟨m, r⟩ := q
     rw [Option.bind_some]
     by_cases h4 : r = []
     ·simp only [h4, if_true, Option.getD_some]
      exact (fldN_back _ _ _ _ hn).2
     ·simp only [h4, if_false, Option.getD_none]
      exact fun k h => absurd h (by simp)
end Go.Proofs.YtjjdeejajbmecaaGreatDoor

/- What ApplyRecord's contract asks of a record and of a state: plain mathematics. -/
namespace Go.Proofs.YtjjdeejajbmecaaGreatDoor
open Go.ChangeShapes Go.WideShapes Go.ChangeAt Go.RowKit
theorem rf_sizesA {l : List UInt8} {m : List ByteArray} (hl : ¬ 65536 < l.length) (h : rfOf l = some m) : ∀ k (hk : k < m.length), m[k].size ≤ 20000 := by
 have h1 := rf_short l
 have h2 : rfL l = m := by unfold rfL; rw [if_neg hl, h]; rfl
 rw [h2] at h1
 exact h1
theorem ap_fields (t : ByteArray) (h : t.size ≤ 65536) : ∀ m, rfOf t.data.toList = some m → ∀ k (hk : k < m.length), m[k].size ≤ 20000 := by
 intro m hm
 have hl : ¬ 65536 < t.data.toList.length := by
  have : t.data.toList.length = t.size := by simp
  omega
 exact rf_sizesA hl hm
theorem rf_few {l : List UInt8} {m : List ByteArray} (h : rfOf l = some m) : m.length ≤ 60 := by
 unfold rfOf at h
 split at h
 ·cases h
 ·split at h
  ·cases h
  ·cases hf : fldN (l.drop 1) (ofBE (l.take 1)) with
   | none => rw [hf] at h; cases h
   | some p =>
    rw [hf] at h
    simp only [Option.bind_some] at h
    split at h
    ·injection h with h
     rw [← h, (fldN_len _ _ p.1 p.2 hf).1]
     omega
    ·cases h
theorem ap_counts (t : ByteArray) : ∀ f L r, recP t = some (f, L, r) → L.length ≤ 65536 ∧ r.length ≤ 65536 := by
 intro f L r h
 obtain ⟨f1, h1, h2, h3⟩ := recP_parts h
 have h4 := rf_few h1
 have h5 := rnL_le f1.data.toList
 rw [h2]
 simp at h4
 omega
theorem ap_state (tm vt : Int) (l : List Ent) (t : ByteArray) (ht : t.size ≤ 65536) (hsz : ∀ k (h : k < l.length), l[k].2.size ≤ 1048576) (hs : stateB tm vt l = true) : ∀ tm2 vt2 l2, apR tm vt l t = some (tm2, vt2, l2) → l2.length ≤ 1048576 ∧ ∀ k (h : k < l2.length), l2[k].2.size ≤ 1048576 := by
 intro tm2 vt2 l2 h
 have hl := (state_parts hs).2.2.1
 unfold apR at h
 cases hR : recP t with
 | none => rw [hR] at h; cases h
 | some q =>
  obtain ⟨f, L, r⟩ := q
  rw [hR] at h
  obtain ⟨f1, h1, -, -⟩ := recP_parts hR
  have hf := ap_fields t ht _ h1
  simp only at h
  unfold apK at h
  split at h
  ·split at h
   ·injection h with h; injection h with _ h; injection h with _ h; subst h
    exact ⟨by omega, hsz⟩
   ·cases h
  ·split at h
   ·injection h with h; injection h with _ h; injection h with _ h; subst h
    refine ⟨by rw [List.length_take]; omega, fun k hk => ?_⟩
    rw [List.getElem_take]; exact hsz _ _
   ·cases h
  ·rename_i x d
   split at h
   ·injection h with h; injection h with _ h; injection h with _ h; subst h
    refine ⟨by rw [List.length_append]; simp; omega, fun k hk => ?_⟩
    rw [List.length_append] at hk
    by_cases hk2 : k < l.length
    ·rw [List.getElem_append_left hk2]; exact hsz k hk2
    ·rw [List.getElem_append_right (by omega)]
     have hd := hf 2 (by simp)
     simp at hd ⊢
     omega
   ·cases h
  ·cases h
end Go.Proofs.YtjjdeejajbmecaaGreatDoor

/- What a store's records make, from the beginning on. Plain mathematics. -/
namespace Go.Proofs.YtjjdeejajbmecaaGreatDoor
open Go.ChangeShapes Go.WideShapes Go.ChangeAt Go.RowKit
set_option linter.unusedVariables false
/-- What records make of a state, one by one. -/
def apAll : Int × Int × List Ent → List ByteArray → Option (Int × Int × List Ent)
 | s, [] => some s
 | s, d :: r => match apF s.1 s.2.1 s.2.2 d with
  | none => none
  | some s2 => apAll s2 r
theorem apAll_no {tm vt : Int} {l : List Ent} {d : ByteArray} {r : List ByteArray} (h : apF tm vt l d = none) : apAll (tm, vt, l) (d :: r) = none := by simp only [apAll, h]
theorem apAll_yes {tm vt : Int} {l : List Ent} {d : ByteArray} {r : List ByteArray} {s2 : Int × Int × List Ent} (h : apF tm vt l d = some s2) : apAll (tm, vt, l) (d :: r) = apAll s2 r := by simp only [apAll, h]
theorem apF_right {tm vt tm2 vt2 : Int} {l l2 : List Ent} {t : ByteArray} (h : apF tm vt l t = some (tm2, vt2, l2)) : stateB tm2 vt2 l2 = true := by
 unfold apF at h
 split at h
 ·split at h
  ·rename_i h4 h5
   injection h with h; injection h with e1 h; injection h with e2 e3
   subst e1 e2 e3
   exact h5.1
  ·cases h
 ·cases h
theorem apAll_right : ∀ (r : List ByteArray) (tm vt : Int) (l : List Ent) (tm2 vt2 : Int) (l2 : List Ent), stateB tm vt l = true → apAll (tm, vt, l) r = some (tm2, vt2, l2) → stateB tm2 vt2 l2 = true
 | [], tm, vt, l, tm2, vt2, l2, h, he => by
  injection he with he; injection he with e1 he; injection he with e2 e3
  subst e1 e2 e3; exact h
 | d :: r, tm, vt, l, tm2, vt2, l2, h, he => by
  cases hF : apF tm vt l d with
  | none => rw [apAll_no hF] at he; cases he
  | some q =>
   obtain ⟨a, b, c⟩ := q
   rw [apAll_yes hF] at he
   exact apAll_right r a b c tm2 vt2 l2 (apF_right hF) he
theorem logB_sz : ∀ (l : List Ent) (T p : Int), logB T p l = true → ∀ k (h : k < l.length), l[k].2.size ≤ 400
 | [], _, _, _, k, h => absurd h (by simp)
 | e :: l, T, p, hb, k, h => by
  unfold logB at hb
  simp only [Bool.and_eq_true] at hb
  cases k with
  | zero => have := hb.1; unfold entB at this; simp at this; simpa using this.2
  | succ k => simpa using logB_sz l T e.1 hb.2 k (by simpa using h)
theorem state_sz {tm vt : Int} {l : List Ent} (h : stateB tm vt l = true) : ∀ k (h : k < l.length), l[k].2.size ≤ 1048576 := fun k hk => by
 have := logB_sz l tm 1 (state_parts h).2.2.2 k hk
 omega
/-- How many bytes frames of these data are. -/
def szs : List ByteArray → Nat
 | [] => 0
 | d :: r => 7 + d.size + szs r
theorem frD_size (l : List UInt8) (h : frC l = 0) : (⟨(frD l).toArray⟩ : ByteArray).size = frN l := by
 rw [← frD_len h]; rfl
theorem frs_szs : ∀ (f : Nat) (l : List UInt8), (frs f l).2.1 = szs (frs f l).1
 | 0, l => by simp [frs, szs]
 | f + 1, l => by
  by_cases h0 : l = []
  ·subst h0; rw [frs_nil]; rfl
  ·by_cases h1 : frC l = 0
   ·rw [frs_step f h0 h1]
    show 7 + frN l + (frs f (frT l)).2.1 = 7 + (⟨(frD l).toArray⟩ : ByteArray).size + szs (frs f (frT l)).1
    rw [frD_size l h1, frs_szs f (frT l)]
   ·rw [frs_bad f h0 h1]; rfl
theorem frs_small : ∀ (f : Nat) (l : List UInt8), ∀ d ∈ (frs f l).1, d.size ≤ 65536
 | 0, l => by simp [frs]
 | f + 1, l => by
  by_cases h0 : l = []
  ·subst h0; rw [frs_nil]; simp
  ·by_cases h1 : frC l = 0
   ·rw [frs_step f h0 h1]
    intro d hd
    rcases List.mem_cons.1 hd with rfl | hd
    ·rw [frD_size l h1]; exact (frC_ok h1).2.2.1
    ·exact frs_small f (frT l) d hd
   ·rw [frs_bad f h0 h1]; simp
theorem frs_in : ∀ (f : Nat) (l : List UInt8), (frs f l).2.1 ≤ l.length
 | 0, l => by simp [frs]
 | f + 1, l => by
  by_cases h0 : l = []
  ·subst h0; rw [frs_nil]; simp
  ·by_cases h1 : frC l = 0
   ·rw [frs_step f h0 h1]
    have h2 := frs_in f (frT l)
    have h3 := frT_len h1
    show 7 + frN l + (frs f (frT l)).2.1 ≤ _
    omega
   ·rw [frs_bad f h0 h1]; simp
/-- What Recover answers. -/
def RvIs (d : ByteArray) (s : Int) (tm vt : Int) (l : List Ent) (d2 : ByteArray) (s2 c : Int) : Prop :=
 if stoB d s = false then (tm, vt, l, d2, s2, c) = (0, 0, [], ⟨#[]⟩, 0, 1)
 else if (frs d.size d.data.toList).2.2 = 8 then (tm, vt, l, d2, s2, c) = (0, 0, [], ⟨#[]⟩, 0, 8)
 else match apAll (0, -1, []) (frs d.size d.data.toList).1 with
  | none => (tm, vt, l, d2, s2, c) = (0, 0, [], ⟨#[]⟩, 0, 3)
  | some (tm2, vt2, l2) => (tm, vt, l, d2, s2, c) = (tm2, vt2, l2, d.extract 0 (frs d.size d.data.toList).2.1, ((frs d.size d.data.toList).2.1 : Int), 0)
theorem state0 : stateB 0 (-1) [] = true := by decide
theorem rv_ex (d : ByteArray) (s : Int) : ∃ tm vt l d2 s2 c, RvIs d s tm vt l d2 s2 c ∧ l.length ≤ 60 := by
 by_cases h1 : stoB d s = false
 ·exact ⟨0, 0, [], ⟨#[]⟩, 0, 1, by unfold RvIs; rw [if_pos h1], by decide⟩
 ·by_cases h2 : (frs d.size d.data.toList).2.2 = 8
  ·exact ⟨0, 0, [], ⟨#[]⟩, 0, 8, by unfold RvIs; rw [if_neg h1, if_pos h2], by decide⟩
  ·cases hF : apAll (0, -1, []) (frs d.size d.data.toList).1 with
   | none => exact ⟨0, 0, [], ⟨#[]⟩, 0, 3, by unfold RvIs; rw [if_neg h1, if_neg h2, hF], by decide⟩
   | some q =>
    obtain ⟨tm2, vt2, l2⟩ := q
    exact ⟨tm2, vt2, l2, _, _, 0, by unfold RvIs; rw [if_neg h1, if_neg h2, hF], (state_parts (apAll_right _ _ _ _ _ _ _ state0 hF)).2.2.1⟩
theorem own_ne2 {w : World} {base : Nat} {e : TypeId} {v : Value} {m : Nat} {xs : List Value} (h : w.ownsRow base e 2 v m xs) {p : Nat} {u0 u1 u2 : Value} (hp : BF p #[u0, u1, u2] w) : v.ownBlock ≠ some p := by
 intro hb
 rcases h.2 with ⟨h0, _⟩ | ⟨g, cap', cur, hv, hbg, hg, hnc, hcm, hcs, htake⟩
 ·rw [h0] at hb; cases hb
 ·rw [hv] at hb
  have e1 : g = p := Option.some.inj hb
  subst e1
  have h2 := hp.S 2
  have h3 := hp.S 3
  simp [World.cell?, hg] at h2 h3
  obtain ⟨h4, -⟩ := Array.getElem?_eq_some_iff.1 h2
  omega
end Go.Proofs.YtjjdeejajbmecaaGreatDoor

/- Entries that two logs have alike from the front on. Plain mathematics. -/
namespace Go.Proofs.YtjjdeejajbmecaaGreatDoor
open Go.ChangeShapes Go.WideShapes Go.ChangeAt Go.RowKit
def comN : List Ent → List Ent → Nat
 | e :: l, f :: m => if e = f then comN l m + 1 else 0
 | _, _ => 0
theorem comN_step {l m : List Ent} {k : Nat} (h1 : k < l.length) (h2 : k < m.length) (h : l[k] = m[k]) : comN (l.drop k) (m.drop k) = comN (l.drop (k + 1)) (m.drop (k + 1)) + 1 := by
 rw [List.drop_eq_getElem_cons h1, List.drop_eq_getElem_cons h2, comN, if_pos h]
theorem comN_stop {l m : List Ent} {k : Nat} (h1 : k < l.length) (h2 : k < m.length) (h : l[k] ≠ m[k]) : comN (l.drop k) (m.drop k) = 0 := by
 rw [List.drop_eq_getElem_cons h1, List.drop_eq_getElem_cons h2, comN, if_neg h]
theorem comN_nil1 (l m : List Ent) (k : Nat) (h : l.length ≤ k) : comN (l.drop k) (m.drop k) = 0 := by
 rw [List.drop_eq_nil_of_le h]; rfl
theorem comN_nil2 (l m : List Ent) (k : Nat) (h : m.length ≤ k) : comN (l.drop k) (m.drop k) = 0 := by
 rw [List.drop_eq_nil_of_le h]; cases l.drop k <;> rfl
theorem comN_eq (l m : List Ent) (hl : l.length = m.length) : comN l m = l.length ↔ l = m := by
 induction l generalizing m with
 | nil => cases m with
  | nil => simp [comN]
  | cons f m => simp at hl
 | cons e l ih =>
  cases m with
  | nil => simp at hl
  | cons f m =>
   have := ih m (by simpa using hl)
   unfold comN; split
   ·rename_i h; subst h; simp [this]
   ·rename_i h; simp [h]
end Go.Proofs.YtjjdeejajbmecaaGreatDoor

/- States held against each other. Plain mathematics. -/
namespace Go.Proofs.YtjjdeejajbmecaaGreatDoor
open Go.ChangeShapes Go.WideShapes Go.ChangeAt Go.RowKit
set_option linter.unusedVariables false
def SameIs (tm vt : Int) (l : List Ent) (tm2 vt2 : Int) (m : List Ent) (R : Bool) (c : Int) : Prop :=
 (stateB tm vt l = true ∧ stateB tm2 vt2 m = true ∧ R = decide (tm = tm2 ∧ vt = vt2 ∧ l = m) ∧ c = 0) ∨ ((stateB tm vt l = false ∨ (stateB tm vt l = true ∧ stateB tm2 vt2 m = false)) ∧ R = false ∧ c = 1)
theorem sm1 {tm tm2 vt vt2 : Int} {l m : List Ent} (h : ¬ tm = tm2) : decide (tm = tm2 ∧ vt = vt2 ∧ l = m) = false := decide_eq_false fun x => h x.1
theorem sm2 {tm tm2 vt vt2 : Int} {l m : List Ent} (h : ¬ vt = vt2) : decide (tm = tm2 ∧ vt = vt2 ∧ l = m) = false := decide_eq_false fun x => h x.2.1
theorem sm4 {tm vt : Int} {l m : List Ent} : decide (tm = tm ∧ vt = vt ∧ l = m) = decide (l = m) := by simp
end Go.Proofs.YtjjdeejajbmecaaGreatDoor

/- Rows of records: each element is so many cells; rows in a heap, all apart. Plain mathematics. -/
namespace Go.Proofs.YtjjdeejajbmecaaGreatDoor
open Go.ChangeShapes Go.WideShapes Go.ChangeAt Go.RowKit
set_option linter.unusedVariables false
section
variable {A : Type} {c : A → List Value} {z : Nat}
theorem flat_len (hz : ∀ p, (c p).length = z) (L : List A) : (L.flatMap c).length = L.length * z := by
 induction L with
 | nil => simp
 | cons p L ih => rw [List.flatMap_cons, List.length_append, ih, hz, List.length_cons, Nat.succ_mul, Nat.add_comm]
theorem flat_at (hz : ∀ p, (c p).length = z) (L : List A) (k : Nat) (h : k < L.length) (j : Nat) (hj : j < z) : (L.flatMap c)[k * z + j]? = (c L[k])[j]? := by
 induction L generalizing k with
 | nil => simp at h
 | cons p L ih =>
  rw [List.flatMap_cons]
  cases k with
  | zero => rw [Nat.zero_mul, Nat.zero_add, List.getElem?_append_left (by rw [hz]; exact hj)]; rfl
  | succ k =>
   have e : (k + 1) * z + j = z + (k * z + j) := by rw [Nat.succ_mul]; omega
   rw [e, List.getElem?_append_right (by rw [hz]; omega), hz, Nat.add_sub_cancel_left, ih k (by simpa using h)]
   rfl
/-- us in the place of what stands from o on. -/
def putA (xs : List Value) (o : Nat) (us : List Value) : List Value := xs.take o ++ us ++ xs.drop (o + us.length)
theorem putA_nil (xs : List Value) (o : Nat) : putA xs o [] = xs := by simp [putA]
theorem putA_cons (xs : List Value) (o : Nat) (u : Value) (us : List Value) (h : o < xs.length) : putA (xs.set o u) (o + 1) us = putA xs o (u :: us) := by
 unfold putA
 have e1 : (xs.set o u).take (o + 1) = xs.take o ++ [u] := by
  rw [List.take_add_one, List.take_set_of_le (Nat.le_refl _), List.getElem?_set_self h]; rfl
 have e2 : (xs.set o u).drop (o + 1 + us.length) = xs.drop (o + (u :: us).length) := by
  rw [List.drop_set_of_lt (by omega)]; congr 1; simp; omega
 rw [e1, e2]; simp
/-- us stored one behind the other from o on. -/
def setsA (xs : List Value) : Nat → List Value → List Value
 | _, [] => xs
 | o, u :: us => setsA (xs.set o u) (o + 1) us
theorem setsA_put (xs : List Value) (o : Nat) (us : List Value) (h : o + us.length ≤ xs.length) : setsA xs o us = putA xs o us := by
 induction us generalizing xs o with
 | nil => rw [setsA, putA_nil]
 | cons u us ih =>
  rw [setsA, ih _ _ (by simp at h ⊢; omega), putA_cons _ _ _ _ (by simp at h; omega)]
theorem flat_put (hz : ∀ p, (c p).length = z) (L : List A) (k : Nat) (h : k < L.length) (p : A) : putA (L.flatMap c) (k * z) (c p) = (L.set k p).flatMap c := by
 induction L generalizing k with
 | nil => simp at h
 | cons q L ih =>
  unfold putA
  rw [hz]
  cases k with
  | zero =>
   rw [Nat.zero_mul, List.take_zero, List.set_cons_zero, List.flatMap_cons, List.flatMap_cons, Nat.zero_add, List.drop_append_of_le_length (by rw [hz]; exact Nat.le_refl _), List.drop_of_length_le (by rw [hz]; exact Nat.le_refl _)]
   simp
  | succ k =>
   have := ih k (by simpa using h)
   unfold putA at this
   rw [hz] at this
   rw [List.set_cons_succ, List.flatMap_cons, List.flatMap_cons, ← this]
   have e : (k + 1) * z = z + k * z := by rw [Nat.succ_mul]; omega
   rw [e, List.take_append, List.drop_append, hz, show z + k * z - z = k * z from by omega, show z + k * z + z - z = k * z + z from by omega, List.take_of_length_le (by rw [hz]; omega), List.drop_of_length_le (by rw [hz]; omega)]
   simp
end
theorem own_eq {w : World} {lo : Nat} {e : TypeId} {z : Nat} {v : Value} {n : Nat} {xs ys : List Value} (h : w.ownsRow lo e z v n xs) (he : xs = ys) : w.ownsRow lo e z v n ys := he ▸ h
/-- A row in the heap. -/
structure RD where
 t : TypeId
 z : Nat
 v : Value
 n : Nat
 xs : List Value
def RD.own (w : World) (lo : Nat) (r : RD) : Prop := w.ownsRow lo r.t r.z r.v r.n r.xs
/-- Rows that a call owns, all apart. -/
structure FOwn (w : World) (lo : Nat) (F : List RD) : Prop where
 own : ∀ r ∈ F, r.own w lo
 apart : F.Pairwise (fun r s => ∀ j, r.v.ownBlock = some j → s.v.ownBlock ≠ some j)
theorem FOwn.nil (w : World) (lo : Nat) : FOwn w lo [] := ⟨fun r h => (by cases h), List.Pairwise.nil⟩
theorem FOwn.one {w : World} {lo : Nat} {r : RD} (h : r.own w lo) : FOwn w lo [r] := ⟨fun s hs => (by have e := List.mem_singleton.1 hs; subst e; exact h), by simp⟩
theorem FOwn.below {w w' : World} {lo : Nat} {F : List RD} (h : FOwn w lo F) (hb : Below w.heap.size w w') : FOwn w' lo F :=
 ⟨fun r hr => ((heldZ_of (h.own r hr)).below hb (Nat.le_refl _)).own, h.apart⟩
theorem FOwn.low {w : World} {lo lo2 : Nat} {F : List RD} (h : FOwn w lo F) (hb : lo2 ≤ lo) : FOwn w lo2 F :=
 ⟨fun r hr => Go.Joins.ownsRow_le (h.own r hr) hb, h.apart⟩
theorem FOwn.lt {w : World} {lo : Nat} {F : List RD} (h : FOwn w lo F) : ∀ r ∈ F, ∀ j, r.v.ownBlock = some j → lo ≤ j ∧ j < w.heap.size := fun r hr j hj => (show w.ownsRow lo r.t r.z r.v r.n r.xs from h.own r hr).lt j hj
/-- Rows of before and rows that were made behind m. -/
theorem FOwn.app {w : World} {lo m : Nat} {F G : List RD} (h1 : FOwn w lo F) (h2 : FOwn w m G) (hlo : lo ≤ m) (hm : ∀ r ∈ F, ∀ j, r.v.ownBlock = some j → j < m) : FOwn w lo (F ++ G) := by
 refine ⟨fun r hr => ?_, ?_⟩
 ·rcases List.mem_append.1 hr with hr | hr
  ·exact h1.own r hr
  ·exact Go.Joins.ownsRow_le (h2.own r hr) hlo
 ·rw [List.pairwise_append]
  refine ⟨h1.apart, h2.apart, fun r hr s hs j hj e => ?_⟩
  have a := hm r hr j hj
  have b := (h2.lt s hs j e).1
  omega
theorem FOwn.left {w : World} {lo : Nat} {F G : List RD} (h : FOwn w lo (F ++ G)) : FOwn w lo F := ⟨fun r hr => h.own r (List.mem_append_left _ hr), (List.pairwise_append.1 h.apart).1⟩
theorem FOwn.right {w : World} {lo : Nat} {F G : List RD} (h : FOwn w lo (F ++ G)) : FOwn w lo G := ⟨fun r hr => h.own r (List.mem_append_right _ hr), (List.pairwise_append.1 h.apart).2.1⟩
/-- A store into a block below them all. -/
theorem FOwn.setC {w : World} {lo : Nat} {F : List RD} (h : FOwn w lo F) {a : Addr} (ha : a.block < lo) (u : Value) : FOwn (w.setCell a u) lo F :=
 ⟨fun r hr => ownsRow_setCell_below (h.own r hr) ha u, h.apart⟩
/-- A row of theirs turns, the others stand. -/
theorem FOwn.turn {w w' : World} {lo : Nat} {F G : List RD} {r s : RD} (h : FOwn w lo (F ++ r :: G)) (hg : w.grownBy w' r.v.ownBlock) (hs : s.own w' lo) (hv : s.v.ownBlock = r.v.ownBlock) : FOwn w' lo (F ++ s :: G) := by
 have hp := List.pairwise_append.1 h.apart
 have hq := List.pairwise_cons.1 hp.2.1
 have keep : ∀ q : RD, q.own w lo → (∀ j, q.v.ownBlock = some j → r.v.ownBlock ≠ some j) → q.own w' lo := fun q hq hn => by
  refine (show w.ownsRow lo q.t q.z q.v q.n q.xs from hq).kept hg ?_
  cases hb : q.v.ownBlock with
  | none => exact .inl rfl
  | some j => exact .inr fun e => hn j hb e.symm
 refine ⟨fun q hq' => ?_, ?_⟩
 ·rcases List.mem_append.1 hq' with h1 | h1
  ·exact keep q (h.own q (List.mem_append_left _ h1)) fun j hj e => hp.2.2 q h1 r (List.mem_cons_self ..) j hj e
  ·rcases List.mem_cons.1 h1 with rfl | h1
   ·exact hs
   ·exact keep q (h.own q (List.mem_append_right _ (List.mem_cons_of_mem _ h1))) fun j hj e => hq.1 q h1 j e hj
 ·rw [List.pairwise_append, List.pairwise_cons]
  refine ⟨hp.1, ⟨fun q h1 j hj => hq.1 q h1 j (hv ▸ hj), hq.2⟩, fun q h1 p h2 j hj => ?_⟩
  rcases List.mem_cons.1 h2 with rfl | h2
  ·rw [hv]; exact hp.2.2 q h1 r (List.mem_cons_self ..) j hj
  ·exact hp.2.2 q h1 p (List.mem_cons_of_mem _ h2) j hj
end Go.Proofs.YtjjdeejajbmecaaGreatDoor
