/- A layout's text. Plain mathematics. -/
import Derived.Test.YthbkpdlcegakfaaDoorTofI
import Derived.Test.YthbkpdlcegakfaaDoorDigS
namespace Go.Proofs.YthbkpdlcegakfaaDoor
open Go.ChangeShapes Go.WideShapes Go.ChangeAt Go.RowKit
set_option linter.unusedVariables false
def bord (r : Bool) : ByteArray := if r then ⟨#[45]⟩ else ⟨#[124]⟩
def Tr.txt : Tr → ByteArray
  | ⟨.inl n⟩ => digS n.toNat
  | ⟨.inr (r, s, l, t)⟩ => (⟨#[40]⟩ ++ l.txt ++ bord r ++ digS s.toNat ++ bord r ++ t.txt) ++ ⟨#[41]⟩
def Tr.small : Tr → Prop
  | ⟨.inl n⟩ => 0 ≤ n ∧ n ≤ 9999
  | ⟨.inr (_, s, l, t)⟩ => (0 ≤ s ∧ s ≤ 9999) ∧ l.small ∧ t.small
theorem txt_size : ∀ t : Tr, t.small → t.txt.size ≤ 12 * t.cnt
  | ⟨.inl n⟩, h => by
    have h' : 0 ≤ n ∧ n ≤ 9999 := h
    have := digS_size n.toNat (by omega)
    simp only [Tr.txt, Tr.cnt]; omega
  | ⟨.inr (r, s, l, t)⟩, ⟨h, h1, h2⟩ => by
    have := digS_size s.toNat (by omega)
    have e1 := txt_size l h1
    have e2 := txt_size t h2
    have e3 : (bord r).size = 1 := by cases r <;> rfl
    have e4 : (⟨#[40]⟩ : ByteArray).size = 1 := rfl
    have e5 : (⟨#[41]⟩ : ByteArray).size = 1 := rfl
    simp only [Tr.txt, Tr.cnt, ByteArray.size_append]
    omega
theorem small_of : ∀ (t : Tr) (W H : Int), t.good → t.fits W H = true → W ≤ 1000 → H ≤ 1000 → t.small
  | ⟨.inl n⟩, W, H, hg, _, _, _ => by
    have h : 1 ≤ n ∧ n ≤ 1000 := of_decide_eq_true hg
    show 0 ≤ n ∧ n ≤ 9999
    omega
  | ⟨.inr (r, s, l, t)⟩, W, H, hg, hf, hW, hH => by
    rw [Tr.fits] at hf
    cases r
    · simp only [Bool.false_eq_true, if_false, Bool.and_eq_true] at hf
      have f1 := fits_two _ _ _ hf.1
      have f2 := fits_two _ _ _ hf.2
      exact ⟨by omega, small_of l _ _ hg.1 hf.1 (by omega) hH, small_of t _ _ hg.2 hf.2 (by omega) hH⟩
    · simp only [if_true, Bool.and_eq_true] at hf
      have f1 := fits_two _ _ _ hf.1
      have f2 := fits_two _ _ _ hf.2
      exact ⟨by omega, small_of l _ _ hg.1 hf.1 hW (by omega), small_of t _ _ hg.2 hf.2 hW (by omega)⟩
def ltT (l : List Pt) (W H : Int) : ByteArray := match tofS l W H with | none => ⟨#[]⟩ | some t => t.txt
def ltC (l : List Pt) (W H : Int) : Int := match tofS l W H with | none => 1 | some t => 0
end Go.Proofs.YthbkpdlcegakfaaDoor
