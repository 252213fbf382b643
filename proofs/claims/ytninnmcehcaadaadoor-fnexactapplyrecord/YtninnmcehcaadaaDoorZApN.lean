/- What ApplyRecord's contract asks of a record and of a state: plain mathematics. -/
import Derived.Test.YtninnmcehcaadaaDoorZApI
import Derived.Test.YtninnmcehcaadaaDoorZFldRT
namespace Go.Proofs.YtninnmcehcaadaaDoor
open Go.ChangeShapes Go.WideShapes Go.ChangeAt Go.RowKit
theorem rf_sizesA {l : List UInt8} {m : List ByteArray} (hl : ¬ 65536 < l.length) (h : rfOf l = some m) : ∀ k (hk : k < m.length), m[k].size ≤ 20000 := by
  have h1 := rf_short l
  have h2 : rfL l = m := by unfold rfL; rw [if_neg hl, h]; rfl
  rw [h2] at h1
  exact h1
theorem ap_fields (t : ByteArray) (h : t.size ≤ 65536) : ∀ m, rfOf t.data.toList = some m → ∀ k (hk : k < m.length), m[k].size ≤ 20000 := by
  intro m hm
  have hl : ¬ 65536 < t.data.toList.length := by
    have : t.data.toList.length = t.size := by simp
    omega
  exact rf_sizesA hl hm
theorem rf_few {l : List UInt8} {m : List ByteArray} (h : rfOf l = some m) : m.length ≤ 60 := by
  unfold rfOf at h
  split at h
  · cases h
  · split at h
    · cases h
    · cases hf : fldN (l.drop 1) (ofBE (l.take 1)) with
      | none => rw [hf] at h; cases h
      | some p =>
        rw [hf] at h
        simp only [Option.bind_some] at h
        split at h
        · injection h with h
          rw [← h, (fldN_len _ _ p.1 p.2 hf).1]
          omega
        · cases h
theorem ap_counts (t : ByteArray) : ∀ f L r, recP t = some (f, L, r) → L.length ≤ 65536 ∧ r.length ≤ 65536 := by
  intro f L r h
  obtain ⟨f1, h1, h2, h3⟩ := recP_parts h
  have h4 := rf_few h1
  have h5 := rnL_le f1.data.toList
  rw [h2]
  simp at h4
  omega
theorem ap_state (tm vt : Int) (l : List Ent) (t : ByteArray) (ht : t.size ≤ 65536) (hsz : ∀ k (h : k < l.length), l[k].2.size ≤ 1048576) (hs : stateB tm vt l = true) : ∀ tm2 vt2 l2, apR tm vt l t = some (tm2, vt2, l2) → l2.length ≤ 1048576 ∧ ∀ k (h : k < l2.length), l2[k].2.size ≤ 1048576 := by
  intro tm2 vt2 l2 h
  have hl := (state_parts hs).2.2.1
  unfold apR at h
  cases hR : recP t with
  | none => rw [hR] at h; cases h
  | some q =>
    obtain ⟨f, L, r⟩ := q
    rw [hR] at h
    obtain ⟨f1, h1, -, -⟩ := recP_parts hR
    have hf := ap_fields t ht _ h1
    simp only at h
    unfold apK at h
    split at h
    · split at h
      · injection h with h; injection h with _ h; injection h with _ h; subst h
        exact ⟨by omega, hsz⟩
      · cases h
    · split at h
      · injection h with h; injection h with _ h; injection h with _ h; subst h
        refine ⟨by rw [List.length_take]; omega, fun k hk => ?_⟩
        rw [List.getElem_take]; exact hsz _ _
      · cases h
    · rename_i x d
      split at h
      · injection h with h; injection h with _ h; injection h with _ h; subst h
        refine ⟨by rw [List.length_append]; simp; omega, fun k hk => ?_⟩
        rw [List.length_append] at hk
        by_cases hk2 : k < l.length
        · rw [List.getElem_append_left hk2]; exact hsz k hk2
        · rw [List.getElem_append_right (by omega)]
          have hd := hf 2 (by simp)
          simp at hd ⊢
          omega
      · cases h
    · cases h
end Go.Proofs.YtninnmcehcaadaaDoor
