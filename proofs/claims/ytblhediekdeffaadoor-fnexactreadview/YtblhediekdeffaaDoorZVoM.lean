/- Which views are right. Plain mathematics. -/
import Derived.Test.YtblhediekdeffaaDoorZG5
namespace Go.Proofs.YtblhediekdeffaaDoor
open Go.ChangeShapes Go.WideShapes Go.ChangeAt Go.RowKit
set_option linter.unusedVariables false
abbrev Rw := Int × ByteArray
def yAt (l : List Rw) (i : Nat) : Int := match l[i]? with | some c => c.1 | none => 0
theorem yAt_at (l : List Rw) (i : Nat) (h : i < l.length) : yAt l i = l[i].1 := by unfold yAt; rw [List.getElem?_eq_getElem h]
def yPrev (l : List Rw) : Nat → Int
  | 0 => -1
  | i + 1 => yAt l i
theorem yPrev_zero (l : List Rw) : yPrev l 0 = -1 := rfl
theorem yPrev_succ (l : List Rw) (k : Nat) : yPrev l (k + 1) = yAt l k := rfl
def stepB (vh : Int) (l : List Rw) (i : Nat) : Bool := decide (yPrev l i < yAt l i) && decide (yAt l i ≤ vh - 1)
/-- The rows rise, and are in their bounds. -/
def riseB (vh : Int) (l : List Rw) : Bool := (List.range l.length).all (stepB vh l)
def celL (l : List Rw) : List ByteArray := l.map (·.2)
/-- Number, From, Full, W, H, the rows. -/
def vwB (nb fr : Int) (fu : Bool) (vw vh : Int) (l : List Rw) : Bool :=
  inB nb 0 60 && (sizeB vw vh && (riseB vh l && ((celL l).all (rowB vw.toNat) && if fu then decide (fr = 0) && decide ((l.length : Int) = vh) else inB fr 0 (nb - 1))))
theorem rise_yes {vh : Int} {l : List Rw} (h : ∀ i, i < l.length → stepB vh l i = true) : riseB vh l = true := by
  unfold riseB; rw [List.all_eq_true]; intro i hi; exact h i (by simpa using hi)
theorem rise_no {vh : Int} {l : List Rw} {i : Nat} (hi : i < l.length) (h : stepB vh l i = false) : riseB vh l = false := by
  unfold riseB; rw [List.all_eq_false]; exact ⟨i, by simpa using hi, by rw [h]; decide⟩
theorem rise_at {vh : Int} {l : List Rw} (h : riseB vh l = true) (i : Nat) (hi : i < l.length) : stepB vh l i = true := by
  unfold riseB at h; rw [List.all_eq_true] at h; exact h i (by simpa using hi)
theorem step_parts {vh : Int} {l : List Rw} {i : Nat} (h : stepB vh l i = true) : yPrev l i < yAt l i ∧ yAt l i ≤ vh - 1 := by
  unfold stepB at h; simpa using h
/-- Rows that rise stand at their place or behind it. -/
theorem prev_ge {vh : Int} {l : List Rw} (k : Nat) (h : ∀ i, i < k → stepB vh l i = true) : (k : Int) - 1 ≤ yPrev l k := by
  induction k with
  | zero => rw [yPrev_zero]; omega
  | succ k ih =>
    have h1 := ih fun i hi => h i (by omega)
    have h2 := step_parts (h k (by omega))
    rw [yPrev_succ]; omega
theorem rise_len {vh : Int} {l : List Rw} (h0 : 0 ≤ vh) (h : riseB vh l = true) : (l.length : Int) ≤ vh := by
  have h1 := prev_ge l.length fun i hi => rise_at h i hi
  cases hl : l.length with
  | zero => omega
  | succ k =>
    have h2 := step_parts (rise_at h k (by omega))
    rw [hl, yPrev_succ] at h1
    omega
/-- The set of the first k rows' places. -/
def tol (l : List Rw) : Nat → Nat
  | 0 => 0
  | k + 1 => tol l k ||| 2 ^ (yAt l k).toNat
theorem or_top {s y : Nat} (h : s < 2 ^ y) : s ||| 2 ^ y = s + 2 ^ y := by
  have h := Nat.two_pow_add_eq_or_of_lt h 1
  rw [Nat.mul_one] at h
  rw [Nat.or_comm, ← h, Nat.add_comm]
theorem tol_lt {vh : Int} {l : List Rw} (k : Nat) (h : ∀ i, i < k → stepB vh l i = true) : tol l k < 2 ^ (yPrev l k + 1).toNat := by
  induction k with
  | zero => exact Nat.zero_lt_one
  | succ k ih =>
    have h1 := ih fun i hi => h i (by omega)
    have h2 := step_parts (h k (by omega))
    have h3 := prev_ge k fun i hi => h i (by omega)
    have h4 : tol l k < 2 ^ (yAt l k).toNat := Nat.lt_of_lt_of_le h1 (Nat.pow_le_pow_right (by decide) (by omega))
    rw [yPrev_succ]; unfold tol
    rw [or_top h4, show (yAt l k + 1).toNat = (yAt l k).toNat + 1 from by omega, Nat.pow_succ]
    omega
theorem tol_below {vh : Int} {l : List Rw} {k : Nat} {y : Nat} (h : ∀ i, i < k → stepB vh l i = true) (hy : yPrev l k < (y : Int)) : tol l k < 2 ^ y :=
  Nat.lt_of_lt_of_le (tol_lt k h) (Nat.pow_le_pow_right (by decide) (by omega))
theorem tol_cmp {vh : Int} {l : List Rw} (k y : Nat) (h : ∀ i, i < k → stepB vh l i = true) : decide (tol l k < 2 ^ y) = decide (yPrev l k < (y : Int)) := by
  by_cases hy : yPrev l k < (y : Int)
  · rw [decide_eq_true hy, decide_eq_true (tol_below h hy)]
  · rw [decide_eq_false hy, decide_eq_false]
    intro hlt
    apply hy
    cases k with
    | zero => rw [yPrev_zero]; omega
    | succ k =>
      have h2 := step_parts (h k (by omega))
      have h3 := prev_ge k fun i hi => h i (by omega)
      rw [yPrev_succ]
      have h4 : 2 ^ (yAt l k).toNat ≤ tol l (k + 1) := by
        have h5 : tol l k < 2 ^ (yAt l k).toNat := tol_below (fun i hi => h i (by omega)) (by omega)
        unfold tol; rw [or_top h5]; omega
      have h6 : (yAt l k).toNat < y := (Nat.pow_lt_pow_iff_right (by decide : 1 < 2)).1 (Nat.lt_of_le_of_lt h4 hlt)
      omega
theorem tol_small {vh : Int} {l : List Rw} {k : Nat} (hv : vh ≤ 10) (h : ∀ i, i < k → stepB vh l i = true) : tol l k < 1024 := by
  have h1 : yPrev l k < 10 := by
    cases k with
    | zero => rw [yPrev_zero]; omega
    | succ k => have := step_parts (h k (by omega)); rw [yPrev_succ]; omega
  exact tol_below (y := 10) h h1
/-- The numbers that a set holds, in their order. -/
def picks (n : Nat) : List Nat := (List.range 10).filter fun y => n.testBit y
theorem picks_top : ∀ y < 10, ∀ s < 2 ^ y, picks (s + 2 ^ y) = picks s ++ [y] := by decide +kernel
theorem picks_full : ∀ h < 11, ∀ s < 2 ^ h, (picks s).length = h → s = 2 ^ h - 1 := by decide +kernel
theorem picks_first : ∀ h < 11, (picks (2 ^ h - 1)) = List.range h := by decide +kernel
theorem tol_picks {vh : Int} {l : List Rw} (hv : vh ≤ 10) (k : Nat) (h : ∀ i, i < k → stepB vh l i = true) : (picks (tol l k)).length = k := by
  induction k with
  | zero => unfold tol; decide
  | succ k ih =>
    have h1 := ih fun i hi => h i (by omega)
    have h2 := step_parts (h k (by omega))
    have h3 := prev_ge k fun i hi => h i (by omega)
    have h5 : tol l k < 2 ^ (yAt l k).toNat := tol_below (fun i hi => h i (by omega)) (by omega)
    unfold tol
    rw [or_top h5, picks_top _ (by omega) _ h5, List.length_append, h1]
    rfl
theorem tol_full {H : Nat} {l : List Rw} (hv : H ≤ 10) (h : riseB (H : Int) l = true) : decide (tol l l.length = 2 ^ H - 1) = decide ((l.length : Int) = (H : Int)) := by
  have h1 := tol_picks (vh := (H : Int)) (by omega) l.length fun i hi => rise_at h i hi
  have h2 : tol l l.length < 2 ^ H := tol_below (fun i hi => rise_at h i hi) (by
    cases hl : l.length with
    | zero => rw [yPrev_zero]; omega
    | succ k => have := step_parts (rise_at h k (by omega)); rw [yPrev_succ]; omega)
  by_cases e : l.length = H
  · rw [decide_eq_true (by omega : (l.length : Int) = (H : Int)), decide_eq_true]
    exact picks_full H (by omega) _ h2 (h1.trans e)
  · rw [decide_eq_false (by omega : ¬ (l.length : Int) = (H : Int)), decide_eq_false]
    intro e2
    rw [e2, picks_first H (by omega), List.length_range] at h1
    omega
theorem celL_len (l : List Rw) : (celL l).length = l.length := by simp [celL]
theorem celL_at (l : List Rw) (k : Nat) (h : k < l.length) : (celL l)[k]'(by rw [celL_len]; exact h) = l[k].2 := by simp [celL]
theorem celL_snoc (l : List Rw) (k : Nat) (h : k < l.length) : celL (l.take (k + 1)) = celL (l.take k) ++ [l[k].2] := by
  unfold celL; rw [List.take_add_one, List.getElem?_eq_getElem h, List.map_append]; rfl
end Go.Proofs.YtblhediekdeffaaDoor
