/- Texts put together: ApN RvM LeadM. -/
import Derived.Test.YtkdplhhkkpkmoaaDoorZApI
import Derived.Test.YtkdplhhkkpkmoaaDoorZG20
import Derived.Test.YtkdplhhkkpkmoaaDoorZG18
import Derived.Test.YtkdplhhkkpkmoaaDoorZG10
import Derived.Test.YtkdplhhkkpkmoaaDoorZG4
/- What ApplyRecord's contract asks of a record and of a state: plain mathematics. -/
namespace Go.Proofs.YtkdplhhkkpkmoaaDoor
open Go.ChangeShapes Go.WideShapes Go.ChangeAt Go.RowKit
theorem rf_sizesA {l : List UInt8} {m : List ByteArray} (hl : ¬ 65536 < l.length) (h : rfOf l = some m) : ∀ k (hk : k < m.length), m[k].size ≤ 20000 := by
 have h1 := rf_short l
 have h2 : rfL l = m := by unfold rfL; rw [if_neg hl, h]; rfl
 rw [h2] at h1
 exact h1
theorem ap_fields (t : ByteArray) (h : t.size ≤ 65536) : ∀ m, rfOf t.data.toList = some m → ∀ k (hk : k < m.length), m[k].size ≤ 20000 := by
 intro m hm
 have hl : ¬ 65536 < t.data.toList.length := by
  have : t.data.toList.length = t.size := by simp
  omega
 exact rf_sizesA hl hm
theorem rf_few {l : List UInt8} {m : List ByteArray} (h : rfOf l = some m) : m.length ≤ 60 := by
 unfold rfOf at h
 split at h
 ·cases h
 ·split at h
  ·cases h
  ·cases hf : fldN (l.drop 1) (ofBE (l.take 1)) with
   | none => rw [hf] at h; cases h
   | some p =>
    rw [hf] at h
    simp only [Option.bind_some] at h
    split at h
    ·injection h with h
     rw [← h, (fldN_len _ _ p.1 p.2 hf).1]
     omega
    ·cases h
theorem ap_counts (t : ByteArray) : ∀ f L r, recP t = some (f, L, r) → L.length ≤ 65536 ∧ r.length ≤ 65536 := by
 intro f L r h
 obtain ⟨f1, h1, h2, h3⟩ := recP_parts h
 have h4 := rf_few h1
 have h5 := rnL_le f1.data.toList
 rw [h2]
 simp at h4
 omega
theorem ap_state (tm vt : Int) (l : List Ent) (t : ByteArray) (ht : t.size ≤ 65536) (hsz : ∀ k (h : k < l.length), l[k].2.size ≤ 1048576) (hs : stateB tm vt l = true) : ∀ tm2 vt2 l2, apR tm vt l t = some (tm2, vt2, l2) → l2.length ≤ 1048576 ∧ ∀ k (h : k < l2.length), l2[k].2.size ≤ 1048576 := by
 intro tm2 vt2 l2 h
 have hl := (state_parts hs).2.2.1
 unfold apR at h
 cases hR : recP t with
 | none => rw [hR] at h; cases h
 | some q =>
  obtain ⟨f, L, r⟩ := q
  rw [hR] at h
  obtain ⟨f1, h1, -, -⟩ := recP_parts hR
  have hf := ap_fields t ht _ h1
  simp only at h
  unfold apK at h
  split at h
  ·split at h
   ·injection h with h; injection h with _ h; injection h with _ h; subst h
    exact ⟨by omega, hsz⟩
   ·cases h
  ·split at h
   ·injection h with h; injection h with _ h; injection h with _ h; subst h
    refine ⟨by rw [List.length_take]; omega, fun k hk => ?_⟩
    rw [List.getElem_take]; exact hsz _ _
   ·cases h
  ·rename_i x d
   split at h
   ·injection h with h; injection h with _ h; injection h with _ h; subst h
    refine ⟨by rw [List.length_append]; simp; omega, fun k hk => ?_⟩
    rw [List.length_append] at hk
    by_cases hk2 : k < l.length
    ·rw [List.getElem_append_left hk2]; exact hsz k hk2
    ·rw [List.getElem_append_right (by omega)]
     have hd := hf 2 (by simp)
     simp at hd ⊢
     omega
   ·cases h
  ·cases h
end Go.Proofs.YtkdplhhkkpkmoaaDoor

/- What a store's records make, from the beginning on. Plain mathematics. -/
namespace Go.Proofs.YtkdplhhkkpkmoaaDoor
open Go.ChangeShapes Go.WideShapes Go.ChangeAt Go.RowKit
set_option linter.unusedVariables false
/-- What records make of a state, one by one. -/
def apAll : Int × Int × List Ent → List ByteArray → Option (Int × Int × List Ent)
 | s, [] => some s
 | s, d :: r => match apF s.1 s.2.1 s.2.2 d with
  | none => none
  | some s2 => apAll s2 r
theorem apAll_nil (s : Int × Int × List Ent) : apAll s [] = some s := rfl
theorem apAll_yes {tm vt : Int} {l : List Ent} {d : ByteArray} {r : List ByteArray} {s2 : Int × Int × List Ent} (h : apF tm vt l d = some s2) : apAll (tm, vt, l) (d :: r) = apAll s2 r := by simp only [apAll, h]
/-- How many bytes frames of these data are. -/
def szs : List ByteArray → Nat
 | [] => 0
 | d :: r => 7 + d.size + szs r
/-- What Recover answers. -/
def RvIs (d : ByteArray) (s : Int) (tm vt : Int) (l : List Ent) (d2 : ByteArray) (s2 c : Int) : Prop :=
 if stoB d s = false then (tm, vt, l, d2, s2, c) = (0, 0, [], ⟨#[]⟩, 0, 1)
 else if (frs d.size d.data.toList).2.2 = 8 then (tm, vt, l, d2, s2, c) = (0, 0, [], ⟨#[]⟩, 0, 8)
 else match apAll (0, -1, []) (frs d.size d.data.toList).1 with
  | none => (tm, vt, l, d2, s2, c) = (0, 0, [], ⟨#[]⟩, 0, 3)
  | some (tm2, vt2, l2) => (tm, vt, l, d2, s2, c) = (tm2, vt2, l2, d.extract 0 (frs d.size d.data.toList).2.1, ((frs d.size d.data.toList).2.1 : Int), 0)
end Go.Proofs.YtkdplhhkkpkmoaaDoor

/- The records between two states lead from the one to the other. Plain mathematics. -/
namespace Go.Proofs.YtkdplhhkkpkmoaaDoor
open Go.ChangeShapes Go.WideShapes Go.ChangeAt Go.RowKit
set_option linter.unusedVariables false
theorem rec_read {f0 : ByteArray} {L : List Int} {r : List ByteArray} (hs : ∀ x ∈ (f0 :: recN L :: r), x.size ≤ 400) (hr : r.length ≤ 1) (hf : allFit L) (hl : L.length ≤ 4096) : recP (recT (f0 :: recN L :: r)) = some (f0, L, r) := by
 have h1 := rf_fb (f0 :: recN L :: r) (by simp; omega) (short_of hs (by decide)) (fsum_of (n := 3) hs (by simp; omega) (by decide))
 have h2 : rfOf (recT (f0 :: recN L :: r)).data.toList = some (f0 :: recN L :: r) := by
  have e : (recT (f0 :: recN L :: r)).data.toList = be (f0 :: recN L :: r).length 1 ++ fieldsL (f0 :: recN L :: r) := by simp [recT]
  rw [e]
  obtain ⟨h3, h4⟩ := h1
  unfold rfL rfC at *
  split at h4
  ·cases h4
  ·rename_i h5
   rw [if_neg h5] at h3
   split at h4
   ·rename_i h6
    obtain ⟨m, hm⟩ := Option.isSome_iff_exists.1 h6
    rw [hm] at h3 ⊢
    simpa using h3
   ·cases h4
 have h3 := rn_nb L (by omega) hf
 have h4 : nbL L = numsL L := by unfold nbL; rw [if_neg (by omega), if_pos ((fitB_iff L).2 hf)]
 have h5 : (recN L).data.toList = numsL L := by simp [recN]
 have h6 := recP_some h2 (by rw [h5, ← h4]; exact h3.2.1)
 rw [h6, h5, ← h4, h3.1]
theorem ap_t {tm vt tm2 vt2 : Int} {l : List Ent} (h : stateB tm2 vt2 l = true) (ht : tm ≤ tm2) : apF tm vt l (tRec tm2 vt2) = some (tm2, vt2, l) := by
 have hp := state_parts h
 refine apF_ok ?_ ⟨h, ht⟩
 unfold apR tRec
 rw [rec_read (f_t tm2 vt2) (by simp) (fit2 (by omega) (by omega) (by omega) (by omega)) (by simp)]
 simp [apK]
theorem ap_c {tm vt : Int} {l : List Ent} {k : Nat} (hl : stateB tm vt l = true) (h : stateB tm vt (l.take k) = true) (hk : k < l.length) : apF tm vt l (cRec k) = some (tm, vt, l.take k) := by
 have hp := (state_parts hl).2.2.1
 refine apF_ok ?_ ⟨h, Int.le_refl _⟩
 unfold apR cRec
 rw [rec_read (f_c (k : Int)) (by simp) (fit1 (by omega) (by omega)) (by simp)]
 simp only [apK]
 rw [if_pos ⟨trivial, by omega, by omega⟩]
 simp
theorem ap_e {tm vt : Int} {l : List Ent} {e : Ent} (h : stateB tm vt (l ++ [e]) = true) : apF tm vt l (eRec e) = some (tm, vt, l ++ [e]) := by
 obtain ⟨⟨p0, p1⟩, -, -, p2⟩ := state_parts h
 obtain ⟨q1, q2⟩ := log_ent (Int.le_refl 1) p2 l.length (by simp)
 simp at q1 q2
 refine apF_ok ?_ ⟨h, Int.le_refl _⟩
 unfold apR eRec
 rw [rec_read (f_e e.1 e.2 q2) (by simp) (fit1 (by omega) (by omega)) (by simp)]
 simp [apK]
theorem logB_take {T : Int} : ∀ {l : List Ent} {p : Int} (k : Nat), logB T p l = true → logB T p (l.take k) = true
 | [], p, k, h => by simpa using h
 | e :: l, p, 0, h => rfl
 | e :: l, p, k + 1, h => by
  unfold logB at h
  simp only [Bool.and_eq_true] at h
  simp only [List.take_succ_cons, logB, Bool.and_eq_true]
  exact ⟨h.1, logB_take k h.2⟩
theorem logB_mono {T T2 : Int} (hT : T ≤ T2) : ∀ {l : List Ent} {p : Int}, logB T p l = true → logB T2 p l = true
 | [], p, h => rfl
 | e :: l, p, h => by
  unfold logB at h ⊢
  simp only [Bool.and_eq_true] at h ⊢
  refine ⟨?_, logB_mono hT h.2⟩
  have h1 := h.1
  unfold entB inB at h1 ⊢
  simp at h1 ⊢
  omega
theorem state_of {tm vt : Int} {l : List Ent} (h0 : 0 ≤ tm ∧ tm ≤ 1000) (h1 : -1 ≤ vt ∧ vt ≤ 4) (h2 : l.length ≤ 60) (h3 : logB tm 1 l = true) : stateB tm vt l = true := by
 unfold stateB inB
 simp [h0, h1, h2, h3]
theorem state_take {tm vt : Int} {l : List Ent} (k : Nat) (h : stateB tm vt l = true) : stateB tm vt (l.take k) = true := by
 obtain ⟨h0, h1, h2, h3⟩ := state_parts h
 exact state_of h0 h1 (by rw [List.length_take]; omega) (logB_take k h3)
theorem comN_take : ∀ (l m : List Ent), l.take (comN l m) = m.take (comN l m) ∧ comN l m ≤ l.length ∧ comN l m ≤ m.length
 | [], m => by simp [comN]
 | e :: l, [] => by simp [comN]
 | e :: l, f :: m => by
  unfold comN
  split
  ·rename_i h
   subst h
   have h1 := comN_take l m
   simp
   exact h1
  ·simp
theorem apAll_app : ∀ (a b : List ByteArray) (s s2 : Int × Int × List Ent), apAll s a = some s2 → apAll s (a ++ b) = apAll s2 b
 | [], b, s, s2, h => by injection h with h; rw [h]; rfl
 | d :: a, b, s, s2, h => by
  simp only [apAll, List.cons_append] at h ⊢
  cases hF : apF s.1 s.2.1 s.2.2 d with
  | none => rw [hF] at h; cases h
  | some q => rw [hF] at h; exact apAll_app a b q s2 h
theorem apAll_es {tm vt : Int} {m : List Ent} (h : stateB tm vt m = true) : ∀ (j k : Nat), m.length - k = j → k ≤ m.length → apAll (tm, vt, m.take k) ((m.drop k).map eRec) = some (tm, vt, m)
 | 0, k, hj, hk => by
  have e : k = m.length := by omega
  subst e
  rw [List.drop_eq_nil_of_le (Nat.le_refl _), List.take_of_length_le (Nat.le_refl _)]
  rfl
 | j + 1, k, hj, hk => by
  have hlt : k < m.length := by omega
  rw [List.drop_eq_getElem_cons hlt, List.map_cons]
  have hs := state_take (k + 1) h
  rw [List.take_succ_eq_append_getElem hlt] at hs
  rw [apAll_yes (ap_e hs), ← List.take_succ_eq_append_getElem hlt]
  exact apAll_es h j (k + 1) (by omega) (by omega)
/-- The records between two right states lead from the one to the other, if the Term does not fall. -/
theorem recs_lead {tm vt tm2 vt2 : Int} {l m : List Ent} (hl : stateB tm vt l = true) (hm : stateB tm2 vt2 m = true) (ht : tm ≤ tm2) : apAll (tm, vt, l) (recsL tm vt l tm2 vt2 m) = some (tm2, vt2, m) := by
 obtain ⟨a0, a1, a2, a3⟩ := state_parts hl
 obtain ⟨b0, b1, b2, b3⟩ := state_parts hm
 have hmid : stateB tm2 vt2 l = true := state_of b0 b1 a2 (logB_mono ht a3)
 obtain ⟨c1, c2, c3⟩ := comN_take l m
 unfold recsL
 have s1 : apAll (tm, vt, l) (tPart tm vt tm2 vt2) = some (tm2, vt2, l) := by
  by_cases h : tm = tm2 ∧ vt = vt2
  ·rw [tP_no h, h.1, h.2]; rfl
  ·rw [tP_yes h, apAll_yes (ap_t hmid ht)]; rfl
 have s2 : apAll (tm2, vt2, l) (cPart l m) = some (tm2, vt2, l.take (comN l m)) := by
  by_cases h : comN l m < l.length
  ·unfold cPart
   rw [if_pos h, apAll_yes (ap_c hmid (state_take _ hmid) h)]; rfl
  ·rw [cP_no h, List.take_of_length_le (by omega)]; rfl
 rw [apAll_app _ _ _ _ (by rw [apAll_app _ _ _ _ s1]; exact s2), c1]
 exact apAll_es hm _ _ rfl c3
end Go.Proofs.YtkdplhhkkpkmoaaDoor
