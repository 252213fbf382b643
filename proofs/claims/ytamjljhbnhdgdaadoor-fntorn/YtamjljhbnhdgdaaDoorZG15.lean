/- Texts put together: ApN RvM. -/
import Derived.Test.YtamjljhbnhdgdaaDoorZG14
import Derived.Test.YtamjljhbnhdgdaaDoorZG13
import Derived.Test.YtamjljhbnhdgdaaDoorZG1
import Derived.Test.YtamjljhbnhdgdaaDoorZG2
/- What ApplyRecord's contract asks of a record and of a state: plain mathematics. -/
namespace Go.Proofs.YtamjljhbnhdgdaaDoor
open Go.ChangeShapes Go.WideShapes Go.ChangeAt Go.RowKit
theorem rf_sizesA {l : List UInt8} {m : List ByteArray} (hl : ¬ 65536 < l.length) (h : rfOf l = some m) : ∀ k (hk : k < m.length), m[k].size ≤ 20000 := by
 have h1 := rf_short l
 have h2 : rfL l = m := by unfold rfL; rw [if_neg hl, h]; rfl
 rw [h2] at h1
 exact h1
theorem ap_fields (t : ByteArray) (h : t.size ≤ 65536) : ∀ m, rfOf t.data.toList = some m → ∀ k (hk : k < m.length), m[k].size ≤ 20000 := by
 intro m hm
 have hl : ¬ 65536 < t.data.toList.length := by
  have : t.data.toList.length = t.size := by simp
  omega
 exact rf_sizesA hl hm
theorem rf_few {l : List UInt8} {m : List ByteArray} (h : rfOf l = some m) : m.length ≤ 60 := by
 unfold rfOf at h
 split at h
 ·cases h
 ·split at h
  ·cases h
  ·cases hf : fldN (l.drop 1) (ofBE (l.take 1)) with
   | none => rw [hf] at h; cases h
   | some p =>
    rw [hf] at h
    simp only [Option.bind_some] at h
    split at h
    ·injection h with h
     rw [← h, (fldN_len _ _ p.1 p.2 hf).1]
     omega
    ·cases h
theorem ap_counts (t : ByteArray) : ∀ f L r, recP t = some (f, L, r) → L.length ≤ 65536 ∧ r.length ≤ 65536 := by
 intro f L r h
 obtain ⟨f1, h1, h2, h3⟩ := recP_parts h
 have h4 := rf_few h1
 have h5 := rnL_le f1.data.toList
 rw [h2]
 simp at h4
 omega
theorem ap_state (tm vt : Int) (l : List Ent) (t : ByteArray) (ht : t.size ≤ 65536) (hsz : ∀ k (h : k < l.length), l[k].2.size ≤ 1048576) (hs : stateB tm vt l = true) : ∀ tm2 vt2 l2, apR tm vt l t = some (tm2, vt2, l2) → l2.length ≤ 1048576 ∧ ∀ k (h : k < l2.length), l2[k].2.size ≤ 1048576 := by
 intro tm2 vt2 l2 h
 have hl := (state_parts hs).2.2.1
 unfold apR at h
 cases hR : recP t with
 | none => rw [hR] at h; cases h
 | some q =>
  obtain ⟨f, L, r⟩ := q
  rw [hR] at h
  obtain ⟨f1, h1, -, -⟩ := recP_parts hR
  have hf := ap_fields t ht _ h1
  simp only at h
  unfold apK at h
  split at h
  ·split at h
   ·injection h with h; injection h with _ h; injection h with _ h; subst h
    exact ⟨by omega, hsz⟩
   ·cases h
  ·split at h
   ·injection h with h; injection h with _ h; injection h with _ h; subst h
    refine ⟨by rw [List.length_take]; omega, fun k hk => ?_⟩
    rw [List.getElem_take]; exact hsz _ _
   ·cases h
  ·rename_i x d
   split at h
   ·injection h with h; injection h with _ h; injection h with _ h; subst h
    refine ⟨by rw [List.length_append]; simp; omega, fun k hk => ?_⟩
    rw [List.length_append] at hk
    by_cases hk2 : k < l.length
    ·rw [List.getElem_append_left hk2]; exact hsz k hk2
    ·rw [List.getElem_append_right (by omega)]
     have hd := hf 2 (by simp)
     simp at hd ⊢
     omega
   ·cases h
  ·cases h
end Go.Proofs.YtamjljhbnhdgdaaDoor

/- What a store's records make, from the beginning on. Plain mathematics. -/
namespace Go.Proofs.YtamjljhbnhdgdaaDoor
open Go.ChangeShapes Go.WideShapes Go.ChangeAt Go.RowKit
set_option linter.unusedVariables false
/-- What records make of a state, one by one. -/
def apAll : Int × Int × List Ent → List ByteArray → Option (Int × Int × List Ent)
 | s, [] => some s
 | s, d :: r => match apF s.1 s.2.1 s.2.2 d with
  | none => none
  | some s2 => apAll s2 r
theorem apAll_no {tm vt : Int} {l : List Ent} {d : ByteArray} {r : List ByteArray} (h : apF tm vt l d = none) : apAll (tm, vt, l) (d :: r) = none := by simp only [apAll, h]
theorem apAll_yes {tm vt : Int} {l : List Ent} {d : ByteArray} {r : List ByteArray} {s2 : Int × Int × List Ent} (h : apF tm vt l d = some s2) : apAll (tm, vt, l) (d :: r) = apAll s2 r := by simp only [apAll, h]
theorem apF_right {tm vt tm2 vt2 : Int} {l l2 : List Ent} {t : ByteArray} (h : apF tm vt l t = some (tm2, vt2, l2)) : stateB tm2 vt2 l2 = true := by
 unfold apF at h
 split at h
 ·split at h
  ·rename_i h4 h5
   injection h with h; injection h with e1 h; injection h with e2 e3
   subst e1 e2 e3
   exact h5.1
  ·cases h
 ·cases h
theorem apAll_right : ∀ (r : List ByteArray) (tm vt : Int) (l : List Ent) (tm2 vt2 : Int) (l2 : List Ent), stateB tm vt l = true → apAll (tm, vt, l) r = some (tm2, vt2, l2) → stateB tm2 vt2 l2 = true
 | [], tm, vt, l, tm2, vt2, l2, h, he => by
  injection he with he; injection he with e1 he; injection he with e2 e3
  subst e1 e2 e3; exact h
 | d :: r, tm, vt, l, tm2, vt2, l2, h, he => by
  cases hF : apF tm vt l d with
  | none => rw [apAll_no hF] at he; cases he
  | some q =>
   obtain ⟨a, b, c⟩ := q
   rw [apAll_yes hF] at he
   exact apAll_right r a b c tm2 vt2 l2 (apF_right hF) he
theorem logB_sz : ∀ (l : List Ent) (T p : Int), logB T p l = true → ∀ k (h : k < l.length), l[k].2.size ≤ 400
 | [], _, _, _, k, h => absurd h (by simp)
 | e :: l, T, p, hb, k, h => by
  unfold logB at hb
  simp only [Bool.and_eq_true] at hb
  cases k with
  | zero => have := hb.1; unfold entB at this; simp at this; simpa using this.2
  | succ k => simpa using logB_sz l T e.1 hb.2 k (by simpa using h)
theorem state_sz {tm vt : Int} {l : List Ent} (h : stateB tm vt l = true) : ∀ k (h : k < l.length), l[k].2.size ≤ 1048576 := fun k hk => by
 have := logB_sz l tm 1 (state_parts h).2.2.2 k hk
 omega
/-- How many bytes frames of these data are. -/
def szs : List ByteArray → Nat
 | [] => 0
 | d :: r => 7 + d.size + szs r
theorem frD_size (l : List UInt8) (h : frC l = 0) : (⟨(frD l).toArray⟩ : ByteArray).size = frN l := by
 rw [← frD_len h]; rfl
theorem frs_szs : ∀ (f : Nat) (l : List UInt8), (frs f l).2.1 = szs (frs f l).1
 | 0, l => by simp [frs, szs]
 | f + 1, l => by
  by_cases h0 : l = []
  ·subst h0; rw [frs_nil]; rfl
  ·by_cases h1 : frC l = 0
   ·rw [frs_step f h0 h1]
    show 7 + frN l + (frs f (frT l)).2.1 = 7 + (⟨(frD l).toArray⟩ : ByteArray).size + szs (frs f (frT l)).1
    rw [frD_size l h1, frs_szs f (frT l)]
   ·rw [frs_bad f h0 h1]; rfl
theorem frs_small : ∀ (f : Nat) (l : List UInt8), ∀ d ∈ (frs f l).1, d.size ≤ 65536
 | 0, l => by simp [frs]
 | f + 1, l => by
  by_cases h0 : l = []
  ·subst h0; rw [frs_nil]; simp
  ·by_cases h1 : frC l = 0
   ·rw [frs_step f h0 h1]
    intro d hd
    rcases List.mem_cons.1 hd with rfl | hd
    ·rw [frD_size l h1]; exact (frC_ok h1).2.2.1
    ·exact frs_small f (frT l) d hd
   ·rw [frs_bad f h0 h1]; simp
theorem frs_in : ∀ (f : Nat) (l : List UInt8), (frs f l).2.1 ≤ l.length
 | 0, l => by simp [frs]
 | f + 1, l => by
  by_cases h0 : l = []
  ·subst h0; rw [frs_nil]; simp
  ·by_cases h1 : frC l = 0
   ·rw [frs_step f h0 h1]
    have h2 := frs_in f (frT l)
    have h3 := frT_len h1
    show 7 + frN l + (frs f (frT l)).2.1 ≤ _
    omega
   ·rw [frs_bad f h0 h1]; simp
/-- What Recover answers. -/
def RvIs (d : ByteArray) (s : Int) (tm vt : Int) (l : List Ent) (d2 : ByteArray) (s2 c : Int) : Prop :=
 if stoB d s = false then (tm, vt, l, d2, s2, c) = (0, 0, [], ⟨#[]⟩, 0, 1)
 else if (frs d.size d.data.toList).2.2 = 8 then (tm, vt, l, d2, s2, c) = (0, 0, [], ⟨#[]⟩, 0, 8)
 else match apAll (0, -1, []) (frs d.size d.data.toList).1 with
  | none => (tm, vt, l, d2, s2, c) = (0, 0, [], ⟨#[]⟩, 0, 3)
  | some (tm2, vt2, l2) => (tm, vt, l, d2, s2, c) = (tm2, vt2, l2, d.extract 0 (frs d.size d.data.toList).2.1, ((frs d.size d.data.toList).2.1 : Int), 0)
theorem state0 : stateB 0 (-1) [] = true := by decide
theorem own_ne2 {w : World} {base : Nat} {e : TypeId} {v : Value} {m : Nat} {xs : List Value} (h : w.ownsRow base e 2 v m xs) {p : Nat} {u0 u1 u2 : Value} (hp : BF p #[u0, u1, u2] w) : v.ownBlock ≠ some p := by
 intro hb
 rcases h.2 with ⟨h0, _⟩ | ⟨g, cap', cur, hv, hbg, hg, hnc, hcm, hcs, htake⟩
 ·rw [h0] at hb; cases hb
 ·rw [hv] at hb
  have e1 : g = p := Option.some.inj hb
  subst e1
  have h2 := hp.S 2
  have h3 := hp.S 3
  simp [World.cell?, hg] at h2 h3
  obtain ⟨h4, -⟩ := Array.getElem?_eq_some_iff.1 h2
  omega
end Go.Proofs.YtamjljhbnhdgdaaDoor
