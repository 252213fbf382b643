/- Texts put together: VoM AvM. -/
import Derived.Test.YtmmnoepcklfonaaGreatDoorZG15
import Derived.Test.YtmmnoepcklfonaaGreatDoorZG18
import Derived.Test.YtmmnoepcklfonaaGreatDoorZG17
/- Which views are right. Plain mathematics. -/
namespace Go.Proofs.YtmmnoepcklfonaaGreatDoor
open Go.ChangeShapes Go.WideShapes Go.ChangeAt Go.RowKit
set_option linter.unusedVariables false
abbrev Rw := Int × ByteArray
def yAt (l : List Rw) (i : Nat) : Int := match l[i]? with | some c => c.1 | none => 0
theorem yAt_at (l : List Rw) (i : Nat) (h : i < l.length) : yAt l i = l[i].1 := by unfold yAt; rw [List.getElem?_eq_getElem h]
def yPrev (l : List Rw) : Nat → Int
  | 0 => -1
  | i + 1 => yAt l i
theorem yPrev_zero (l : List Rw) : yPrev l 0 = -1 := rfl
theorem yPrev_succ (l : List Rw) (k : Nat) : yPrev l (k + 1) = yAt l k := rfl
def stepB (vh : Int) (l : List Rw) (i : Nat) : Bool := decide (yPrev l i < yAt l i) && decide (yAt l i ≤ vh - 1)
/-- The rows rise, and are in their bounds. -/
def riseB (vh : Int) (l : List Rw) : Bool := (List.range l.length).all (stepB vh l)
def celL (l : List Rw) : List ByteArray := l.map (·.2)
/-- Number, From, Full, W, H, the rows. -/
def vwB (nb fr : Int) (fu : Bool) (vw vh : Int) (l : List Rw) : Bool :=
  inB nb 0 60 && (sizeB vw vh && (riseB vh l && ((celL l).all (rowB vw.toNat) && if fu then decide (fr = 0) && decide ((l.length : Int) = vh) else inB fr 0 (nb - 1))))
theorem rise_yes {vh : Int} {l : List Rw} (h : ∀ i, i < l.length → stepB vh l i = true) : riseB vh l = true := by
  unfold riseB; rw [List.all_eq_true]; intro i hi; exact h i (by simpa using hi)
theorem rise_no {vh : Int} {l : List Rw} {i : Nat} (hi : i < l.length) (h : stepB vh l i = false) : riseB vh l = false := by
  unfold riseB; rw [List.all_eq_false]; exact ⟨i, by simpa using hi, by rw [h]; decide⟩
theorem rise_at {vh : Int} {l : List Rw} (h : riseB vh l = true) (i : Nat) (hi : i < l.length) : stepB vh l i = true := by
  unfold riseB at h; rw [List.all_eq_true] at h; exact h i (by simpa using hi)
theorem step_parts {vh : Int} {l : List Rw} {i : Nat} (h : stepB vh l i = true) : yPrev l i < yAt l i ∧ yAt l i ≤ vh - 1 := by
  unfold stepB at h; simpa using h
/-- Rows that rise stand at their place or behind it. -/
theorem prev_ge {vh : Int} {l : List Rw} (k : Nat) (h : ∀ i, i < k → stepB vh l i = true) : (k : Int) - 1 ≤ yPrev l k := by
  induction k with
  | zero => rw [yPrev_zero]; omega
  | succ k ih =>
    have h1 := ih fun i hi => h i (by omega)
    have h2 := step_parts (h k (by omega))
    rw [yPrev_succ]; omega
theorem rise_len {vh : Int} {l : List Rw} (h0 : 0 ≤ vh) (h : riseB vh l = true) : (l.length : Int) ≤ vh := by
  have h1 := prev_ge l.length fun i hi => rise_at h i hi
  cases hl : l.length with
  | zero => omega
  | succ k =>
    have h2 := step_parts (rise_at h k (by omega))
    rw [hl, yPrev_succ] at h1
    omega
/-- The set of the first k rows' places. -/
def tol (l : List Rw) : Nat → Nat
  | 0 => 0
  | k + 1 => tol l k ||| 2 ^ (yAt l k).toNat
theorem or_top {s y : Nat} (h : s < 2 ^ y) : s ||| 2 ^ y = s + 2 ^ y := by
  have h := Nat.two_pow_add_eq_or_of_lt h 1
  rw [Nat.mul_one] at h
  rw [Nat.or_comm, ← h, Nat.add_comm]
theorem tol_lt {vh : Int} {l : List Rw} (k : Nat) (h : ∀ i, i < k → stepB vh l i = true) : tol l k < 2 ^ (yPrev l k + 1).toNat := by
  induction k with
  | zero => exact Nat.zero_lt_one
  | succ k ih =>
    have h1 := ih fun i hi => h i (by omega)
    have h2 := step_parts (h k (by omega))
    have h3 := prev_ge k fun i hi => h i (by omega)
    have h4 : tol l k < 2 ^ (yAt l k).toNat := Nat.lt_of_lt_of_le h1 (Nat.pow_le_pow_right (by decide) (by omega))
    rw [yPrev_succ]; unfold tol
    rw [or_top h4, show (yAt l k + 1).toNat = (yAt l k).toNat + 1 from by omega, Nat.pow_succ]
    omega
theorem tol_below {vh : Int} {l : List Rw} {k : Nat} {y : Nat} (h : ∀ i, i < k → stepB vh l i = true) (hy : yPrev l k < (y : Int)) : tol l k < 2 ^ y :=
  Nat.lt_of_lt_of_le (tol_lt k h) (Nat.pow_le_pow_right (by decide) (by omega))
theorem tol_cmp {vh : Int} {l : List Rw} (k y : Nat) (h : ∀ i, i < k → stepB vh l i = true) : decide (tol l k < 2 ^ y) = decide (yPrev l k < (y : Int)) := by
  by_cases hy : yPrev l k < (y : Int)
  · rw [decide_eq_true hy, decide_eq_true (tol_below h hy)]
  · rw [decide_eq_false hy, decide_eq_false]
    intro hlt
    apply hy
    cases k with
    | zero => rw [yPrev_zero]; omega
    | succ k =>
      have h2 := step_parts (h k (by omega))
      have h3 := prev_ge k fun i hi => h i (by omega)
      rw [yPrev_succ]
      have h4 : 2 ^ (yAt l k).toNat ≤ tol l (k + 1) := by
        have h5 : tol l k < 2 ^ (yAt l k).toNat := tol_below (fun i hi => h i (by omega)) (by omega)
        unfold tol; rw [or_top h5]; omega
      have h6 : (yAt l k).toNat < y := (Nat.pow_lt_pow_iff_right (by decide : 1 < 2)).1 (Nat.lt_of_le_of_lt h4 hlt)
      omega
theorem tol_small {vh : Int} {l : List Rw} {k : Nat} (hv : vh ≤ 10) (h : ∀ i, i < k → stepB vh l i = true) : tol l k < 1024 := by
  have h1 : yPrev l k < 10 := by
    cases k with
    | zero => rw [yPrev_zero]; omega
    | succ k => have := step_parts (h k (by omega)); rw [yPrev_succ]; omega
  exact tol_below (y := 10) h h1
/-- The numbers that a set holds, in their order. -/
def picks (n : Nat) : List Nat := (List.range 10).filter fun y => n.testBit y
theorem picks_top : ∀ y < 10, ∀ s < 2 ^ y, picks (s + 2 ^ y) = picks s ++ [y] := by decide +kernel
theorem picks_full : ∀ h < 11, ∀ s < 2 ^ h, (picks s).length = h → s = 2 ^ h - 1 := by decide +kernel
theorem picks_first : ∀ h < 11, (picks (2 ^ h - 1)) = List.range h := by decide +kernel
theorem tol_picks {vh : Int} {l : List Rw} (hv : vh ≤ 10) (k : Nat) (h : ∀ i, i < k → stepB vh l i = true) : (picks (tol l k)).length = k := by
  induction k with
  | zero => unfold tol; decide
  | succ k ih =>
    have h1 := ih fun i hi => h i (by omega)
    have h2 := step_parts (h k (by omega))
    have h3 := prev_ge k fun i hi => h i (by omega)
    have h5 : tol l k < 2 ^ (yAt l k).toNat := tol_below (fun i hi => h i (by omega)) (by omega)
    unfold tol
    rw [or_top h5, picks_top _ (by omega) _ h5, List.length_append, h1]
    rfl
theorem tol_full {H : Nat} {l : List Rw} (hv : H ≤ 10) (h : riseB (H : Int) l = true) : decide (tol l l.length = 2 ^ H - 1) = decide ((l.length : Int) = (H : Int)) := by
  have h1 := tol_picks (vh := (H : Int)) (by omega) l.length fun i hi => rise_at h i hi
  have h2 : tol l l.length < 2 ^ H := tol_below (fun i hi => rise_at h i hi) (by
    cases hl : l.length with
    | zero => rw [yPrev_zero]; omega
    | succ k => have := step_parts (rise_at h k (by omega)); rw [yPrev_succ]; omega)
  by_cases e : l.length = H
  · rw [decide_eq_true (by omega : (l.length : Int) = (H : Int)), decide_eq_true]
    exact picks_full H (by omega) _ h2 (h1.trans e)
  · rw [decide_eq_false (by omega : ¬ (l.length : Int) = (H : Int)), decide_eq_false]
    intro e2
    rw [e2, picks_first H (by omega), List.length_range] at h1
    omega
theorem celL_len (l : List Rw) : (celL l).length = l.length := by simp [celL]
theorem celL_at (l : List Rw) (k : Nat) (h : k < l.length) : (celL l)[k]'(by rw [celL_len]; exact h) = l[k].2 := by simp [celL]
theorem celL_snoc (l : List Rw) (k : Nat) (h : k < l.length) : celL (l.take (k + 1)) = celL (l.take k) ++ [l[k].2] := by
  unfold celL; rw [List.take_add_one, List.getElem?_eq_getElem h, List.map_append]; rfl
end Go.Proofs.YtmmnoepcklfonaaGreatDoor

/- What AcceptView answers. Plain mathematics. -/
namespace Go.Proofs.YtmmnoepcklfonaaGreatDoor
open Go.ChangeShapes Go.WideShapes Go.ChangeAt Go.RowKit
set_option linter.unusedVariables false
def cAt (l : List Rw) (i : Nat) : ByteArray := match l[i]? with | some c => c.2 | none => ⟨#[]⟩
theorem cAt_at (l : List Rw) (i : Nat) (h : i < l.length) : cAt l i = l[i].2 := by unfold cAt; rw [List.getElem?_eq_getElem h]
/-- The first k rows set at their places. -/
def setsL (base : List ByteArray) (l : List Rw) : Nat → List ByteArray
  | 0 => base
  | k + 1 => (setsL base l k).set (yAt l k).toNat (cAt l k)
theorem setsL_len (base : List ByteArray) (l : List Rw) : ∀ k, (setsL base l k).length = base.length
  | 0 => rfl
  | k + 1 => by unfold setsL; rw [List.length_set, setsL_len]
def baseL (H : Nat) (R : List ByteArray) : List ByteArray := R.take H ++ List.replicate (H - R.length) ⟨#[]⟩
theorem baseL_len (H : Nat) (R : List ByteArray) : (baseL H R).length = H := by unfold baseL; rw [List.length_append, List.length_take, List.length_replicate]; omega
theorem baseL_same (R : List ByteArray) : baseL R.length R = R := by unfold baseL; simp
theorem rise_down {H : Int} {l : List Rw} (h : riseB H l = true) : ∀ j, j < l.length → yAt l (l.length - 1 - j) ≤ H - 1 - (j : Int) := by
  intro j
  induction j with
  | zero => intro hj; have := (step_parts (rise_at h (l.length - 1) (by omega))).2; simpa using this
  | succ j ih =>
    intro hj
    have h1 := ih (by omega)
    have h2 := (step_parts (rise_at h (l.length - 1 - j) (by omega))).1
    rw [show l.length - 1 - j = (l.length - 1 - (j + 1)) + 1 from by omega, yPrev_succ] at h2
    rw [show l.length - 1 - j = (l.length - 1 - (j + 1)) + 1 from by omega] at h1
    omega
theorem rise_id {H : Nat} {l : List Rw} (h : riseB (H : Int) l = true) (hl : l.length = H) (i : Nat) (hi : i < H) : yAt l i = (i : Int) := by
  have h1 := prev_ge (i + 1) fun q hq => rise_at h q (by omega)
  rw [yPrev_succ] at h1
  have h2 := rise_down h (l.length - 1 - i) (by omega)
  rw [show l.length - 1 - (l.length - 1 - i) = i from by omega] at h2
  omega
theorem sets_full {H : Nat} {l : List Rw} (base : List ByteArray) (hb : base.length = H) (h : riseB (H : Int) l = true) (hl : l.length = H) : setsL base l H = celL l := by
  have key : ∀ k, k ≤ H → ∀ i, (setsL base l k)[i]? = if i < k then some (cAt l i) else base[i]? := by
    intro k
    induction k with
    | zero => intro _ i; simp [setsL]
    | succ k ih =>
      intro hk i
      unfold setsL
      rw [rise_id h hl k (by omega), Int.toNat_natCast, List.getElem?_set, setsL_len, ih (by omega) i]
      by_cases e : k = i
      · subst e; simp [show k < base.length from by omega]
      · rw [if_neg e]
        by_cases e2 : i < k
        · rw [if_pos e2, if_pos (by omega)]
        · rw [if_neg e2, if_neg (by omega)]
  apply List.ext_getElem?
  intro i
  rw [key H (Nat.le_refl _) i]
  by_cases e : i < H
  · rw [if_pos e, cAt_at l i (by omega)]; simp [celL, show i < l.length from by omega]
  · rw [if_neg e, List.getElem?_eq_none (by omega), List.getElem?_eq_none (by rw [celL_len]; omega)]
def avC (Q : Bool) (nb vw vh nbv frv : Int) (fuv : Bool) (vwv vhv : Int) : Int :=
  if Q then (if nbv ≤ nb then 15 else if fuv || (decide (frv = nb) && (decide (vwv = vw) && decide (vhv = vh))) then 0 else 19) else 1
/-- What AcceptView answers: Number, W, H, the rows, the code. -/
def AvIs (nb vw vh : Int) (R : List ByteArray) (nbv frv : Int) (fuv : Bool) (vwv vhv : Int) (l : List Rw) (nb2 w2 h2 : Int) (L : List ByteArray) (c : Int) : Prop :=
  c = avC (mirB nb vw vh R && vwB nbv frv fuv vwv vhv l) nb vw vh nbv frv fuv vwv vhv ∧ (c = 1 → nb2 = 0 ∧ w2 = 0 ∧ h2 = 0 ∧ L = []) ∧ (c = 15 ∨ c = 19 → nb2 = nb ∧ w2 = vw ∧ h2 = vh ∧ L = R) ∧
    (c = 0 → nb2 = nbv ∧ w2 = vwv ∧ h2 = vhv ∧ L = setsL (baseL vhv.toNat R) l l.length)
theorem av_cases (Q : Bool) (nb vw vh nbv frv : Int) (fuv : Bool) (vwv vhv : Int) : avC Q nb vw vh nbv frv fuv vwv vhv = 1 ∨ avC Q nb vw vh nbv frv fuv vwv vhv = 15 ∨ avC Q nb vw vh nbv frv fuv vwv vhv = 19 ∨ avC Q nb vw vh nbv frv fuv vwv vhv = 0 := by
  unfold avC
  cases Q
  · left; rfl
  · rw [if_pos rfl]
    split
    · right; left; rfl
    · split
      · right; right; right; rfl
      · right; right; left; rfl
theorem av_ex (nb vw vh : Int) (R : List ByteArray) (nbv frv : Int) (fuv : Bool) (vwv vhv : Int) (l : List Rw) : ∃ nb2 w2 h2 L c, AvIs nb vw vh R nbv frv fuv vwv vhv l nb2 w2 h2 L c := by
  unfold AvIs
  rcases av_cases (mirB nb vw vh R && vwB nbv frv fuv vwv vhv l) nb vw vh nbv frv fuv vwv vhv with h | h | h | h
  · exact ⟨0, 0, 0, [], 1, h.symm, fun _ => ⟨rfl, rfl, rfl, rfl⟩, fun h => by omega, fun h => by omega⟩
  · exact ⟨nb, vw, vh, R, 15, h.symm, fun h => by omega, fun _ => ⟨rfl, rfl, rfl, rfl⟩, fun h => by omega⟩
  · exact ⟨nb, vw, vh, R, 19, h.symm, fun h => by omega, fun _ => ⟨rfl, rfl, rfl, rfl⟩, fun h => by omega⟩
  · exact ⟨nbv, vwv, vhv, _, 0, h.symm, fun h => by omega, fun h => by omega, fun _ => ⟨rfl, rfl, rfl, rfl⟩⟩
theorem mir_len {nb vw vh : Int} {R : List ByteArray} (h : mirB nb vw vh R = true) : R.length ≤ 10 := by
  unfold mirB at h
  split at h
  · simp only [Bool.and_eq_true, decide_eq_true_eq] at h; omega
  · simp only [Bool.and_eq_true] at h
    obtain ⟨h1, h2, h3⟩ := h
    have h4 : 2 ≤ vw ∧ vw ≤ 24 ∧ 2 ≤ vh ∧ vh ≤ 10 := of_decide_eq_true h2
    unfold rowsB at h3
    rw [Bool.and_eq_true, decide_eq_true_eq] at h3
    omega
theorem vw_parts {nb fr : Int} {fu : Bool} {vw vh : Int} {l : List Rw} (h : vwB nb fr fu vw vh l = true) : 0 ≤ nb ∧ sizeB vw vh = true ∧ riseB vh l = true ∧ (fu = true → (l.length : Int) = vh) ∧ (fu = false → 0 ≤ fr) := by
  unfold vwB at h
  simp only [Bool.and_eq_true] at h
  obtain ⟨h1, h2, h3, -, h5⟩ := h
  have h6 : 0 ≤ nb ∧ nb ≤ 60 := of_decide_eq_true h1
  refine ⟨h6.1, h2, h3, fun e => ?_, fun e => ?_⟩
  · subst e; simpa using (by simpa using h5 : fr = 0 ∧ (l.length : Int) = vh).2
  · subst e; have h8 : inB fr 0 (nb - 1) = true := by simpa using h5
    have h7 : 0 ≤ fr ∧ fr ≤ nb - 1 := of_decide_eq_true h8
    exact h7.1
theorem av_len {nb vw vh : Int} {R : List ByteArray} {nbv frv : Int} {fuv : Bool} {vwv vhv : Int} {l : List Rw} {nb2 w2 h2 : Int} {L : List ByteArray} {c : Int} (h : AvIs nb vw vh R nbv frv fuv vwv vhv l nb2 w2 h2 L c) : L.length ≤ 10 := by
  have hc := h.1
  cases hQ : mirB nb vw vh R && vwB nbv frv fuv vwv vhv l
  · rw [hQ] at hc; rw [(h.2.1 hc).2.2.2]; simp
  · rw [Bool.and_eq_true] at hQ
    rcases av_cases (mirB nb vw vh R && vwB nbv frv fuv vwv vhv l) nb vw vh nbv frv fuv vwv vhv with h1 | h1 | h1 | h1
    · rw [(h.2.1 (hc.trans h1)).2.2.2]; simp
    · rw [(h.2.2.1 (.inl (hc.trans h1))).2.2.2]; exact mir_len hQ.1
    · rw [(h.2.2.1 (.inr (hc.trans h1))).2.2.2]; exact mir_len hQ.1
    · rw [(h.2.2.2 (hc.trans h1)).2.2.2, setsL_len, baseL_len]
      have hs : 2 ≤ vwv ∧ vwv ≤ 24 ∧ 2 ≤ vhv ∧ vhv ≤ 10 := of_decide_eq_true (vw_parts hQ.2).2.1
      omega
end Go.Proofs.YtmmnoepcklfonaaGreatDoor
