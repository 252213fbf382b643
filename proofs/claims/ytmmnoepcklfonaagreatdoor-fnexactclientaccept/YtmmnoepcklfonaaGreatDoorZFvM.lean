/- What FullView and DiffView answer. Plain mathematics. -/
import Derived.Test.YtmmnoepcklfonaaGreatDoorZG19
import Derived.Test.YtmmnoepcklfonaaGreatDoorZG18
namespace Go.Proofs.YtmmnoepcklfonaaGreatDoor
open Go.ChangeShapes Go.WideShapes Go.ChangeAt Go.RowKit
set_option linter.unusedVariables false
theorem own_keepBR {w w' : World} {base : Nat} {e : TypeId} {z g n cap : Nat} {xs : List Value} (h : w.ownsRow base e z (.slice (some ⟨g, 0, none⟩) n cap) n xs) (hb : w'.heap[g]? = w.heap[g]?) : w'.ownsRow base e z (.slice (some ⟨g, 0, none⟩) n cap) n xs := by
  obtain ⟨h1, h2⟩ := h
  refine ⟨h1, ?_⟩
  rcases h2 with ⟨h2, _⟩ | ⟨g', cap', cur, hv, hbg, hgc, hrest⟩
  · cases h2
  · have e1 : g = g' := by injection hv with e1 _ _; injection e1 with e1; injection e1
    subst e1
    exact .inr ⟨g, cap', cur, hv, hbg, by rw [hb]; exact hgc, hrest⟩
def pkL (R : List ByteArray) (ys : List Nat) : List Rw := ys.map fun (y : Nat) => ((y : Int), R.getD y ⟨#[]⟩)
def fvC (nb vw vh : Int) (R : List ByteArray) : Int := if 4096 < R.length then 2 else if inB nb 0 60 && sizeB vw vh then (if rowsB vw.toNat vh.toNat R then 0 else 1) else 4
/-- What FullView answers: Number, Full, W, H, the rows, the code. -/
def FvIs (nb vw vh : Int) (R : List ByteArray) (nb2 : Int) (fu2 : Bool) (w2 h2 : Int) (L : List Rw) (c : Int) : Prop :=
  c = fvC nb vw vh R ∧ (c = 0 → nb2 = nb ∧ fu2 = true ∧ w2 = vw ∧ h2 = vh ∧ L = pkL R (List.range vh.toNat)) ∧ (c ≠ 0 → nb2 = 0 ∧ fu2 = false ∧ w2 = 0 ∧ h2 = 0 ∧ L = [])
/-- The rows that differ. -/
def chB (O R : List ByteArray) (y : Nat) : Bool := decide (O.getD y ⟨#[]⟩ ≠ R.getD y ⟨#[]⟩)
def dvC (fr nb vw vh : Int) (O R : List ByteArray) : Int := if 4096 < O.length ∨ 4096 < R.length then 2 else if inB nb 0 60 && (inB fr 0 (nb - 1) && sizeB vw vh) then (if rowsB vw.toNat vh.toNat O && rowsB vw.toNat vh.toNat R then 0 else 1) else 4
/-- What DiffView answers: Number, From, W, H, the rows, the code. -/
def DvIs (fr nb vw vh : Int) (O R : List ByteArray) (nb2 fr2 w2 h2 : Int) (L : List Rw) (c : Int) : Prop :=
  c = dvC fr nb vw vh O R ∧ (c = 0 → nb2 = nb ∧ fr2 = fr ∧ w2 = vw ∧ h2 = vh ∧ L = pkL R ((List.range vh.toNat).filter (chB O R))) ∧ (c ≠ 0 → nb2 = 0 ∧ fr2 = 0 ∧ w2 = 0 ∧ h2 = 0 ∧ L = [])
end Go.Proofs.YtmmnoepcklfonaaGreatDoor
