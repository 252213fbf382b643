/- What AcceptView answers. Plain mathematics. -/
import Derived.Test.YtfibbhggphmebaaZVoM
import Derived.Test.YtfibbhggphmebaaZMrI
namespace Go.Proofs.Ytfibbhggphmebaa
open Go.ChangeShapes Go.WideShapes Go.ChangeAt Go.RowKit
set_option linter.unusedVariables false
def cAt (l : List Rw) (i : Nat) : ByteArray := match l[i]? with | some c => c.2 | none => ⟨#[]⟩
theorem cAt_at (l : List Rw) (i : Nat) (h : i < l.length) : cAt l i = l[i].2 := by unfold cAt; rw [List.getElem?_eq_getElem h]
/-- The first k rows set at their places. -/
def setsL (base : List ByteArray) (l : List Rw) : Nat → List ByteArray
  | 0 => base
  | k + 1 => (setsL base l k).set (yAt l k).toNat (cAt l k)
theorem setsL_len (base : List ByteArray) (l : List Rw) : ∀ k, (setsL base l k).length = base.length
  | 0 => rfl
  | k + 1 => by unfold setsL; rw [List.length_set, setsL_len]
def baseL (H : Nat) (R : List ByteArray) : List ByteArray := R.take H ++ List.replicate (H - R.length) ⟨#[]⟩
theorem baseL_len (H : Nat) (R : List ByteArray) : (baseL H R).length = H := by unfold baseL; rw [List.length_append, List.length_take, List.length_replicate]; omega
theorem baseL_same (R : List ByteArray) : baseL R.length R = R := by unfold baseL; simp
theorem rise_down {H : Int} {l : List Rw} (h : riseB H l = true) : ∀ j, j < l.length → yAt l (l.length - 1 - j) ≤ H - 1 - (j : Int) := by
  intro j
  induction j with
  | zero => intro hj; have := (step_parts (rise_at h (l.length - 1) (by omega))).2; simpa using this
  | succ j ih =>
    intro hj
    have h1 := ih (by omega)
    have h2 := (step_parts (rise_at h (l.length - 1 - j) (by omega))).1
    rw [show l.length - 1 - j = (l.length - 1 - (j + 1)) + 1 from by omega, yPrev_succ] at h2
    rw [show l.length - 1 - j = (l.length - 1 - (j + 1)) + 1 from by omega] at h1
    omega
theorem rise_id {H : Nat} {l : List Rw} (h : riseB (H : Int) l = true) (hl : l.length = H) (i : Nat) (hi : i < H) : yAt l i = (i : Int) := by
  have h1 := prev_ge (i + 1) fun q hq => rise_at h q (by omega)
  rw [yPrev_succ] at h1
  have h2 := rise_down h (l.length - 1 - i) (by omega)
  rw [show l.length - 1 - (l.length - 1 - i) = i from by omega] at h2
  omega
theorem sets_full {H : Nat} {l : List Rw} (base : List ByteArray) (hb : base.length = H) (h : riseB (H : Int) l = true) (hl : l.length = H) : setsL base l H = celL l := by
  have key : ∀ k, k ≤ H → ∀ i, (setsL base l k)[i]? = if i < k then some (cAt l i) else base[i]? := by
    intro k
    induction k with
    | zero => intro _ i; simp [setsL]
    | succ k ih =>
      intro hk i
      unfold setsL
      rw [rise_id h hl k (by omega), Int.toNat_natCast, List.getElem?_set, setsL_len, ih (by omega) i]
      by_cases e : k = i
      · subst e; simp [show k < base.length from by omega]
      · rw [if_neg e]
        by_cases e2 : i < k
        · rw [if_pos e2, if_pos (by omega)]
        · rw [if_neg e2, if_neg (by omega)]
  apply List.ext_getElem?
  intro i
  rw [key H (Nat.le_refl _) i]
  by_cases e : i < H
  · rw [if_pos e, cAt_at l i (by omega)]; simp [celL, show i < l.length from by omega]
  · rw [if_neg e, List.getElem?_eq_none (by omega), List.getElem?_eq_none (by rw [celL_len]; omega)]
def avC (Q : Bool) (nb vw vh nbv frv : Int) (fuv : Bool) (vwv vhv : Int) : Int :=
  if Q then (if nbv ≤ nb then 15 else if fuv || (decide (frv = nb) && (decide (vwv = vw) && decide (vhv = vh))) then 0 else 19) else 1
/-- What AcceptView answers: Number, W, H, the rows, the code. -/
def AvIs (nb vw vh : Int) (R : List ByteArray) (nbv frv : Int) (fuv : Bool) (vwv vhv : Int) (l : List Rw) (nb2 w2 h2 : Int) (L : List ByteArray) (c : Int) : Prop :=
  c = avC (mirB nb vw vh R && vwB nbv frv fuv vwv vhv l) nb vw vh nbv frv fuv vwv vhv ∧ (c = 1 → nb2 = 0 ∧ w2 = 0 ∧ h2 = 0 ∧ L = []) ∧ (c = 15 ∨ c = 19 → nb2 = nb ∧ w2 = vw ∧ h2 = vh ∧ L = R) ∧
    (c = 0 → nb2 = nbv ∧ w2 = vwv ∧ h2 = vhv ∧ L = setsL (baseL vhv.toNat R) l l.length)
theorem av_cases (Q : Bool) (nb vw vh nbv frv : Int) (fuv : Bool) (vwv vhv : Int) : avC Q nb vw vh nbv frv fuv vwv vhv = 1 ∨ avC Q nb vw vh nbv frv fuv vwv vhv = 15 ∨ avC Q nb vw vh nbv frv fuv vwv vhv = 19 ∨ avC Q nb vw vh nbv frv fuv vwv vhv = 0 := by
  unfold avC
  cases Q
  · left; rfl
  · rw [if_pos rfl]
    split
    · right; left; rfl
    · split
      · right; right; right; rfl
      · right; right; left; rfl
theorem av_ex (nb vw vh : Int) (R : List ByteArray) (nbv frv : Int) (fuv : Bool) (vwv vhv : Int) (l : List Rw) : ∃ nb2 w2 h2 L c, AvIs nb vw vh R nbv frv fuv vwv vhv l nb2 w2 h2 L c := by
  unfold AvIs
  rcases av_cases (mirB nb vw vh R && vwB nbv frv fuv vwv vhv l) nb vw vh nbv frv fuv vwv vhv with h | h | h | h
  · exact ⟨0, 0, 0, [], 1, h.symm, fun _ => ⟨rfl, rfl, rfl, rfl⟩, fun h => by omega, fun h => by omega⟩
  · exact ⟨nb, vw, vh, R, 15, h.symm, fun h => by omega, fun _ => ⟨rfl, rfl, rfl, rfl⟩, fun h => by omega⟩
  · exact ⟨nb, vw, vh, R, 19, h.symm, fun h => by omega, fun _ => ⟨rfl, rfl, rfl, rfl⟩, fun h => by omega⟩
  · exact ⟨nbv, vwv, vhv, _, 0, h.symm, fun h => by omega, fun h => by omega, fun _ => ⟨rfl, rfl, rfl, rfl⟩⟩
theorem mir_len {nb vw vh : Int} {R : List ByteArray} (h : mirB nb vw vh R = true) : R.length ≤ 10 := by
  unfold mirB at h
  split at h
  · simp only [Bool.and_eq_true, decide_eq_true_eq] at h; omega
  · simp only [Bool.and_eq_true] at h
    obtain ⟨h1, h2, h3⟩ := h
    have h4 : 2 ≤ vw ∧ vw ≤ 24 ∧ 2 ≤ vh ∧ vh ≤ 10 := of_decide_eq_true h2
    unfold rowsB at h3
    rw [Bool.and_eq_true, decide_eq_true_eq] at h3
    omega
theorem vw_parts {nb fr : Int} {fu : Bool} {vw vh : Int} {l : List Rw} (h : vwB nb fr fu vw vh l = true) : 0 ≤ nb ∧ sizeB vw vh = true ∧ riseB vh l = true ∧ (fu = true → (l.length : Int) = vh) ∧ (fu = false → 0 ≤ fr) := by
  unfold vwB at h
  simp only [Bool.and_eq_true] at h
  obtain ⟨h1, h2, h3, -, h5⟩ := h
  have h6 : 0 ≤ nb ∧ nb ≤ 60 := of_decide_eq_true h1
  refine ⟨h6.1, h2, h3, fun e => ?_, fun e => ?_⟩
  · subst e; simpa using (by simpa using h5 : fr = 0 ∧ (l.length : Int) = vh).2
  · subst e; have h8 : inB fr 0 (nb - 1) = true := by simpa using h5
    have h7 : 0 ≤ fr ∧ fr ≤ nb - 1 := of_decide_eq_true h8
    exact h7.1
theorem av_len {nb vw vh : Int} {R : List ByteArray} {nbv frv : Int} {fuv : Bool} {vwv vhv : Int} {l : List Rw} {nb2 w2 h2 : Int} {L : List ByteArray} {c : Int} (h : AvIs nb vw vh R nbv frv fuv vwv vhv l nb2 w2 h2 L c) : L.length ≤ 10 := by
  have hc := h.1
  cases hQ : mirB nb vw vh R && vwB nbv frv fuv vwv vhv l
  · rw [hQ] at hc; rw [(h.2.1 hc).2.2.2]; simp
  · rw [Bool.and_eq_true] at hQ
    rcases av_cases (mirB nb vw vh R && vwB nbv frv fuv vwv vhv l) nb vw vh nbv frv fuv vwv vhv with h1 | h1 | h1 | h1
    · rw [(h.2.1 (hc.trans h1)).2.2.2]; simp
    · rw [(h.2.2.1 (.inl (hc.trans h1))).2.2.2]; exact mir_len hQ.1
    · rw [(h.2.2.1 (.inr (hc.trans h1))).2.2.2]; exact mir_len hQ.1
    · rw [(h.2.2.2 (hc.trans h1)).2.2.2, setsL_len, baseL_len]
      have hs : 2 ≤ vwv ∧ vwv ≤ 24 ∧ 2 ≤ vhv ∧ vhv ≤ 10 := of_decide_eq_true (vw_parts hQ.2).2.1
      omega
end Go.Proofs.Ytfibbhggphmebaa
