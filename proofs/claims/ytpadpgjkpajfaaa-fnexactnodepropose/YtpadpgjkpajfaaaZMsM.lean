/- Rows of messages: how they are read, how they are marked. -/
import Derived.Test.YtpadpgjkpajfaaaZTlM
import Derived.Test.YtpadpgjkpajfaaaZEntK
import Derived.Test.YtpadpgjkpajfaaaZNdR
namespace Go.Proofs.Ytpadpgjkpajfaaa
open Go.ChangeShapes Go.WideShapes Go.ChangeAt Go.RowKit
set_option linter.unusedVariables false
/-- A row of messages that can be read. -/
structure MRow (w : World) (v : Value) (L : List MgA) : Prop where
  row : ∃ a cap, v = .slice a L.length cap ∧ RowV w a (cMs L)
  ent : ∀ p ∈ L, RowV w p.2.1 (cE p.1.es)
theorem MOwn.read {w : World} {lo : Nat} {v : Value} {L : List MgA} (h : MOwn w lo v L) : MRow w v L := ⟨ownZ_rowV h.row, fun p hp => rowZ_at (h.ent p hp)⟩
theorem MRow.below {w w' : World} {v : Value} {L : List MgA} (h : MRow w v L) (hb : Below w.heap.size w w') : MRow w' v L := by
  obtain ⟨⟨a, cap, e, hr⟩, he⟩ := h
  exact ⟨⟨a, cap, e, hr.below hb⟩, fun p hp => (he p hp).below hb⟩
theorem cMs_at (L : List MgA) (k : Nat) (h : k < L.length) (j : Nat) (hj : j < 9) : (cMs L)[k * 9 + j]? = (cM L[k])[j]? := by
  induction L generalizing k with
  | nil => simp at h
  | cons p L ih =>
    have e : cMs (p :: L) = cM p ++ cMs L := rfl
    have hl : (cM p).length = 9 := rfl
    rw [e]
    cases k with
    | zero => rw [List.getElem?_append_left (by omega)]; simp
    | succ k =>
      rw [List.getElem?_append_right (by omega), hl, show (k + 1) * 9 + j - 9 = k * 9 + j from by omega, ih k (by simpa using h)]
      simp
/-- The nine cells of a message. -/
def M9 (w : World) (b o : Nat) (p : MgA) : Prop := w.cell? ⟨b, o, none⟩ = some (.int .i64 p.1.kd) ∧ w.cell? ⟨b, o + 1, none⟩ = some (.int .i64 p.1.fr) ∧ w.cell? ⟨b, o + 2, none⟩ = some (.int .i64 p.1.dst) ∧ w.cell? ⟨b, o + 3, none⟩ = some (.int .i64 p.1.tm) ∧ w.cell? ⟨b, o + 4, none⟩ = some (.int .i64 p.1.ix) ∧ w.cell? ⟨b, o + 5, none⟩ = some (.int .i64 p.1.lt) ∧ w.cell? ⟨b, o + 6, none⟩ = some (.int .i64 p.1.cm) ∧ w.cell? ⟨b, o + 7, none⟩ = some (.bool p.1.ok) ∧ w.cell? ⟨b, o + 8, none⟩ = some (.slice p.2.1 p.1.es.length p.2.2)
theorem row_msg {w : World} {b off : Nat} {L : List MgA} (hc : ∀ i u, (cMs L)[i]? = some u → w.cell? ⟨b, off + i, none⟩ = some u) (k : Nat) (h : k < L.length) : M9 w b (off + k * 9) L[k] := by
  have q : ∀ j u, j < 9 → (cM L[k])[j]? = some u → w.cell? ⟨b, off + k * 9 + j, none⟩ = some u := fun j u hj hu => by
    rw [Nat.add_assoc]; exact hc _ _ ((cMs_at L k h j hj).trans hu)
  exact ⟨q 0 _ (by decide) rfl, q 1 _ (by decide) rfl, q 2 _ (by decide) rfl, q 3 _ (by decide) rfl, q 4 _ (by decide) rfl, q 5 _ (by decide) rfl, q 6 _ (by decide) rfl, q 7 _ (by decide) rfl, q 8 _ (by decide) rfl⟩
theorem M9.below {w w' : World} {b o : Nat} {p : MgA} {B : Nat} (h : M9 w b o p) (hb : Below B w w') (hlt : b < B) : M9 w' b o p := by
  obtain ⟨h0, h1, h2, h3, h4, h5, h6, h7, h8⟩ := h
  have q : ∀ j u, w.cell? ⟨b, j, none⟩ = some u → w'.cell? ⟨b, j, none⟩ = some u := fun j u hu => (hb.cell (p := ⟨b, j, none⟩) hlt).trans hu
  exact ⟨q _ _ h0, q _ _ h1, q _ _ h2, q _ _ h3, q _ _ h4, q _ _ h5, q _ _ h6, q _ _ h7, q _ _ h8⟩
/-- The marks of a row of entries, as entries. -/
def mkEs (k n : Nat) : List Ent := (List.range n).map fun j => (((k + j * 2 : Nat) : Int), mtS (k + (j * 2 + 1)))
theorem mkEs_len (k n : Nat) : (mkEs k n).length = n := by simp [mkEs]
theorem mkEs_ones (k n : Nat) : cE (mkEs k n) = onesEnt k n := by
  apply List.ext_getElem?
  intro i
  by_cases h : i < n * 2
  · obtain ⟨t, ht⟩ : ∃ t, t = i / 2 := ⟨_, rfl⟩
    have htl : t < (mkEs k n).length := by rw [mkEs_len]; omega
    have hc := cE_at (mkEs k n) t htl
    have hr : (onesEnt k n)[i]? = some (mkE k i) := by unfold onesEnt; rw [List.getElem?_map, List.getElem?_range h]; rfl
    rw [hr]
    have hg : (mkEs k n)[t] = (((k + t * 2 : Nat) : Int), mtS (k + (t * 2 + 1))) := by simp [mkEs]
    rw [hg] at hc
    rcases Nat.mod_two_eq_zero_or_one i with h2 | h2
    · have e : i = t * 2 := by omega
      rw [e, hc.1, mkE_even]
    · have e : i = t * 2 + 1 := by omega
      rw [e, hc.2, mkE_odd]
  · rw [List.getElem?_eq_none (by rw [cE_len, mkEs_len]; omega), List.getElem?_eq_none (by unfold onesEnt; simp; omega)]
def okM (k : Nat) : Bool := (k : Int) % 3 == 0
/-- A message marked from k on. -/
def mkMg (k : Nat) (p : MgA) : MgA := (⟨((k : Nat) : Int), ((k + 1 : Nat) : Int), ((k + 2 : Nat) : Int), ((k + 3 : Nat) : Int), ((k + 4 : Nat) : Int), ((k + 5 : Nat) : Int), ((k + 6 : Nat) : Int), okM (k + 7), mkEs (k + 8) p.1.es.length⟩, p.2)
theorem sl_mk (k : Nat) (p : MgA) : sl (mkMg k p) = sl p := by unfold sl mkMg; simp only [mkEs_len]
/-- Where the marks of message t begin. -/
def kAt (k : Nat) : List MgA → Nat → Nat
  | _, 0 => k
  | [], _ + 1 => k
  | p :: L, t + 1 => kAt (k + 8 + p.1.es.length * 2) L t
def markL (k : Nat) : List MgA → List MgA
  | [] => []
  | p :: L => mkMg k p :: markL (k + 8 + p.1.es.length * 2) L
theorem markL_len (k : Nat) (L : List MgA) : (markL k L).length = L.length := by
  induction L generalizing k with
  | nil => rfl
  | cons p L ih => simp [markL, ih]
theorem markL_at (k : Nat) (L : List MgA) (t : Nat) (h : t < L.length) : (markL k L)[t]'(by rw [markL_len]; exact h) = mkMg (kAt k L t) L[t] := by
  induction L generalizing k t with
  | nil => simp at h
  | cons p L ih =>
    cases t with
    | zero => rfl
    | succ t => simp only [markL, List.getElem_cons_succ, kAt]; exact ih _ t (by simpa using h)
theorem kAt_succ (k : Nat) (L : List MgA) (t : Nat) (h : t < L.length) : kAt k L (t + 1) = kAt k L t + 8 + L[t].1.es.length * 2 := by
  induction L generalizing k t with
  | nil => simp at h
  | cons p L ih =>
    cases t with
    | zero => cases L <;> rfl
    | succ t => simp only [kAt, List.getElem_cons_succ]; exact ih _ t (by simpa using h)
theorem kAt_le (k : Nat) (L : List MgA) : ∀ s t, s ≤ t → t ≤ L.length → kAt k L s ≤ kAt k L t
  | s, 0, h, _ => by rw [Nat.le_zero.1 h]; exact Nat.le_refl _
  | s, t + 1, h, hl => by
    by_cases e : s = t + 1
    · rw [e]; exact Nat.le_refl _
    · have h1 := kAt_le k L s t (by omega) (by omega)
      rw [kAt_succ k L t (by omega)]; omega
/-- The first j cells as they become, the others as they were. -/
def mix (xs ys : List Value) (j : Nat) : List Value := ys.take j ++ xs.drop j
theorem mix_zero (xs ys : List Value) : mix xs ys 0 = xs := by simp [mix]
theorem mix_all (xs ys : List Value) (j : Nat) (h : xs.length ≤ j) (h2 : ys.length ≤ j) : mix xs ys j = ys := by simp [mix, List.take_of_length_le h2, List.drop_of_length_le h]
theorem mix_at (xs ys : List Value) (j : Nat) (h : j ≤ ys.length) : (mix xs ys j)[j]? = xs[j]? := by
  unfold mix
  rw [List.getElem?_append_right (by simp; omega), List.length_take, Nat.min_eq_left h, Nat.sub_self, List.getElem?_drop]
  simp
theorem mix_set (xs ys : List Value) (j : Nat) (u : Value) (hx : j < xs.length) (hy : ys[j]? = some u) : (mix xs ys j).set j u = mix xs ys (j + 1) := by
  have hyl : j < ys.length := by
    rcases Nat.lt_or_ge j ys.length with h | h
    · exact h
    · rw [List.getElem?_eq_none h] at hy; cases hy
  have hg : ys[j] = u := by rw [List.getElem?_eq_getElem hyl] at hy; exact Option.some.inj hy
  unfold mix
  rw [List.set_append_right _ _ (by simp; omega), List.length_take, Nat.min_eq_left (Nat.le_of_lt hyl), Nat.sub_self, List.drop_eq_getElem_cons hx, List.set_cons_zero, List.take_succ_eq_append_getElem hyl, hg]
  simp
theorem mix_same (xs ys : List Value) (j : Nat) (hx : j < xs.length) (hy : ys[j]? = xs[j]?) : mix xs ys j = mix xs ys (j + 1) := by
  rw [List.getElem?_eq_getElem hx] at hy
  have := mix_set xs ys j _ hx hy
  rw [← this]
  have hm := mix_at xs ys j (by rcases Nat.lt_or_ge j ys.length with h | h; exact Nat.le_of_lt h; rw [List.getElem?_eq_none h] at hy; cases hy)
  rw [List.getElem?_eq_getElem hx] at hm
  obtain ⟨hl, hv⟩ := List.getElem?_eq_some_iff.1 hm
  rw [← hv, List.set_getElem_self]
end Go.Proofs.Ytpadpgjkpajfaaa
