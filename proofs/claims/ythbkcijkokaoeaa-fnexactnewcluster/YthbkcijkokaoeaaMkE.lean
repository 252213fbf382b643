/- Entries as marks; a row that is turned cell by cell. -/
import Derived.Test.YthbkcijkokaoeaaEntK
import Derived.Test.YthbkcijkokaoeaaSteM
namespace Go.Proofs.Ythbkcijkokaoeaa
open Go.ChangeShapes Go.WideShapes Go.ChangeAt Go.RowKit
set_option linter.unusedVariables false
/-- The marks of a row of entries, as entries. -/
def mkEs (k n : Nat) : List Ent := (List.range n).map fun j => (((k + j * 2 : Nat) : Int), mtS (k + (j * 2 + 1)))
theorem mkEs_len (k n : Nat) : (mkEs k n).length = n := by simp [mkEs]
theorem mkEs_ones (k n : Nat) : cE (mkEs k n) = onesEnt k n := by
  apply List.ext_getElem?
  intro i
  by_cases h : i < n * 2
  · obtain ⟨t, ht⟩ : ∃ t, t = i / 2 := ⟨_, rfl⟩
    have htl : t < (mkEs k n).length := by rw [mkEs_len]; omega
    have hc := cE_at (mkEs k n) t htl
    have hr : (onesEnt k n)[i]? = some (mkE k i) := by unfold onesEnt; rw [List.getElem?_map, List.getElem?_range h]; rfl
    rw [hr]
    have hg : (mkEs k n)[t] = (((k + t * 2 : Nat) : Int), mtS (k + (t * 2 + 1))) := by simp [mkEs]
    rw [hg] at hc
    rcases Nat.mod_two_eq_zero_or_one i with h2 | h2
    · have e : i = t * 2 := by omega
      rw [e, hc.1, mkE_even]
    · have e : i = t * 2 + 1 := by omega
      rw [e, hc.2, mkE_odd]
  · rw [List.getElem?_eq_none (by rw [cE_len, mkEs_len]; omega), List.getElem?_eq_none (by unfold onesEnt; simp; omega)]
def okM (k : Nat) : Bool := (k : Int) % 3 == 0
/-- The first j cells as they become, the others as they were. -/
def mix (xs ys : List Value) (j : Nat) : List Value := ys.take j ++ xs.drop j
theorem mix_zero (xs ys : List Value) : mix xs ys 0 = xs := by simp [mix]
theorem mix_all (xs ys : List Value) (j : Nat) (h : xs.length ≤ j) (h2 : ys.length ≤ j) : mix xs ys j = ys := by simp [mix, List.take_of_length_le h2, List.drop_of_length_le h]
theorem mix_at (xs ys : List Value) (j : Nat) (h : j ≤ ys.length) : (mix xs ys j)[j]? = xs[j]? := by
  unfold mix
  rw [List.getElem?_append_right (by simp; omega), List.length_take, Nat.min_eq_left h, Nat.sub_self, List.getElem?_drop]
  simp
theorem mix_set (xs ys : List Value) (j : Nat) (u : Value) (hx : j < xs.length) (hy : ys[j]? = some u) : (mix xs ys j).set j u = mix xs ys (j + 1) := by
  have hyl : j < ys.length := by
    rcases Nat.lt_or_ge j ys.length with h | h
    · exact h
    · rw [List.getElem?_eq_none h] at hy; cases hy
  have hg : ys[j] = u := by rw [List.getElem?_eq_getElem hyl] at hy; exact Option.some.inj hy
  unfold mix
  rw [List.set_append_right _ _ (by simp; omega), List.length_take, Nat.min_eq_left (Nat.le_of_lt hyl), Nat.sub_self, List.drop_eq_getElem_cons hx, List.set_cons_zero, List.take_succ_eq_append_getElem hyl, hg]
  simp
theorem mix_same (xs ys : List Value) (j : Nat) (hx : j < xs.length) (hy : ys[j]? = xs[j]?) : mix xs ys j = mix xs ys (j + 1) := by
  rw [List.getElem?_eq_getElem hx] at hy
  have := mix_set xs ys j _ hx hy
  rw [← this]
  have hm := mix_at xs ys j (by rcases Nat.lt_or_ge j ys.length with h | h; exact Nat.le_of_lt h; rw [List.getElem?_eq_none h] at hy; cases hy)
  rw [List.getElem?_eq_getElem hx] at hm
  obtain ⟨hl, hv⟩ := List.getElem?_eq_some_iff.1 hm
  rw [← hv, List.set_getElem_self]
end Go.Proofs.Ythbkcijkokaoeaa
