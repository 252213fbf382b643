/- What AcceptView answers. Plain mathematics. -/
import Derived.Test.YtblhediekdeffaaDoorZVoM
import Derived.Test.YtblhediekdeffaaDoorZG13
namespace Go.Proofs.YtblhediekdeffaaDoor
open Go.ChangeShapes Go.WideShapes Go.ChangeAt Go.RowKit
set_option linter.unusedVariables false
def cAt (l : List Rw) (i : Nat) : ByteArray := match l[i]? with | some c => c.2 | none => ⟨#[]⟩
/-- The first k rows set at their places. -/
def setsL (base : List ByteArray) (l : List Rw) : Nat → List ByteArray
  | 0 => base
  | k + 1 => (setsL base l k).set (yAt l k).toNat (cAt l k)
def baseL (H : Nat) (R : List ByteArray) : List ByteArray := R.take H ++ List.replicate (H - R.length) ⟨#[]⟩
def avC (Q : Bool) (nb vw vh nbv frv : Int) (fuv : Bool) (vwv vhv : Int) : Int :=
  if Q then (if nbv ≤ nb then 15 else if fuv || (decide (frv = nb) && (decide (vwv = vw) && decide (vhv = vh))) then 0 else 19) else 1
/-- What AcceptView answers: Number, W, H, the rows, the code. -/
def AvIs (nb vw vh : Int) (R : List ByteArray) (nbv frv : Int) (fuv : Bool) (vwv vhv : Int) (l : List Rw) (nb2 w2 h2 : Int) (L : List ByteArray) (c : Int) : Prop :=
  c = avC (mirB nb vw vh R && vwB nbv frv fuv vwv vhv l) nb vw vh nbv frv fuv vwv vhv ∧ (c = 1 → nb2 = 0 ∧ w2 = 0 ∧ h2 = 0 ∧ L = []) ∧ (c = 15 ∨ c = 19 → nb2 = nb ∧ w2 = vw ∧ h2 = vh ∧ L = R) ∧
    (c = 0 → nb2 = nbv ∧ w2 = vwv ∧ h2 = vhv ∧ L = setsL (baseL vhv.toNat R) l l.length)
theorem vw_parts {nb fr : Int} {fu : Bool} {vw vh : Int} {l : List Rw} (h : vwB nb fr fu vw vh l = true) : 0 ≤ nb ∧ sizeB vw vh = true ∧ riseB vh l = true ∧ (fu = true → (l.length : Int) = vh) ∧ (fu = false → 0 ≤ fr) := by
  unfold vwB at h
  simp only [Bool.and_eq_true] at h
  obtain ⟨h1, h2, h3, -, h5⟩ := h
  have h6 : 0 ≤ nb ∧ nb ≤ 60 := of_decide_eq_true h1
  refine ⟨h6.1, h2, h3, fun e => ?_, fun e => ?_⟩
  · subst e; simpa using (by simpa using h5 : fr = 0 ∧ (l.length : Int) = vh).2
  · subst e; have h8 : inB fr 0 (nb - 1) = true := by simpa using h5
    have h7 : 0 ≤ fr ∧ fr ≤ nb - 1 := of_decide_eq_true h8
    exact h7.1
end Go.Proofs.YtblhediekdeffaaDoor
