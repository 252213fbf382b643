/- Frames read from bytes. Plain mathematics. -/
import Derived.Test.YtffnehaccgfnjaaCrc
import Derived.Test.YtffnehaccgfnjaaNumM
namespace Go.Proofs.Ytffnehaccgfnjaa
open Go.ChangeShapes Go.WideShapes Go.ChangeAt Go.RowKit
/-- The data's length that a frame's head tells. -/
def frN (l : List UInt8) : Nat := ofBE (l.take 3)
/-- What is wrong with the first frame: 0 nothing, 14 not whole, 8 none. -/
def frC (l : List UInt8) : Int := if l.length < 7 then 14 else if frN l < 1 ∨ 65536 < frN l then 8 else if l.length - 7 < frN l then 14 else if chk (l.take 3 ++ (l.drop 7).take (frN l)) = ((ofBE ((l.drop 3).take 4) : Nat) : Int) then 0 else 8
def frD (l : List UInt8) : List UInt8 := (l.drop 7).take (frN l)
def frT (l : List UInt8) : List UInt8 := (l.drop 7).drop (frN l)
/-- The frames, how many bytes they are, what is behind. -/
def frs : Nat → List UInt8 → List ByteArray × Nat × Int
  | 0, _ => ([], 0, 0)
  | f + 1, l => if l = [] then ([], 0, 0) else if frC l = 0 then (⟨(frD l).toArray⟩ :: (frs f (frT l)).1, 7 + frN l + (frs f (frT l)).2.1, (frs f (frT l)).2.2) else ([], 0, frC l)
theorem frC_ok {l : List UInt8} (h : frC l = 0) : 7 ≤ l.length ∧ 1 ≤ frN l ∧ frN l ≤ 65536 ∧ 7 + frN l ≤ l.length ∧ chk (l.take 3 ++ frD l) = ((ofBE ((l.drop 3).take 4) : Nat) : Int) := by
  unfold frC at h
  split at h
  · cases h
  · split at h
    · cases h
    · split at h
      · cases h
      · split at h
        · rename_i h4
          exact ⟨by omega, by omega, by omega, by omega, h4⟩
        · cases h
theorem frT_len {l : List UInt8} (h : frC l = 0) : (frT l).length + (7 + frN l) = l.length := by
  obtain ⟨h1, h2, h3, h4, _⟩ := frC_ok h
  unfold frT
  rw [List.length_drop, List.length_drop]; omega
theorem frD_len {l : List UInt8} (h : frC l = 0) : (frD l).length = frN l := by
  obtain ⟨h1, h2, h3, h4, _⟩ := frC_ok h
  unfold frD
  rw [List.length_take, List.length_drop]; omega
theorem frs_nil (f : Nat) : frs f [] = ([], 0, 0) := by cases f <;> simp [frs]
theorem frs_step {l : List UInt8} (f : Nat) (h0 : l ≠ []) (h : frC l = 0) : frs (f + 1) l = (⟨(frD l).toArray⟩ :: (frs f (frT l)).1, 7 + frN l + (frs f (frT l)).2.1, (frs f (frT l)).2.2) := by
  simp only [frs, if_neg h0, if_pos h]
theorem frs_bad {l : List UInt8} (f : Nat) (h0 : l ≠ []) (h : ¬ frC l = 0) : frs (f + 1) l = ([], 0, frC l) := by
  simp only [frs, if_neg h0, if_neg h]
theorem frs_all : ∀ (f : Nat) (l : List UInt8), l.length ≤ f → (frs f l).2.2 = 0 → (frs f l).2.1 = l.length
  | 0, l, h, _ => by have : l = [] := List.eq_nil_of_length_eq_zero (by omega); subst this; rfl
  | f + 1, l, h, hc => by
    by_cases h0 : l = []
    · subst h0; rw [frs_nil]; rfl
    · by_cases h1 : frC l = 0
      · rw [frs_step f h0 h1] at hc ⊢
        have := frT_len h1
        have ih := frs_all f (frT l) (by omega) hc
        show 7 + frN l + (frs f (frT l)).2.1 = _
        omega
      · rw [frs_bad f h0 h1] at hc; exact absurd hc h1
theorem frs_len : ∀ (f : Nat) (l : List UInt8), (frs f l).1.length ≤ f
  | 0, l => by simp [frs]
  | f + 1, l => by
    by_cases h0 : l = []
    · subst h0; rw [frs_nil]; simp
    · by_cases h1 : frC l = 0
      · rw [frs_step f h0 h1]; have := frs_len f (frT l); simp; omega
      · rw [frs_bad f h0 h1]; simp
theorem frC_codes (l : List UInt8) : frC l = 0 ∨ frC l = 8 ∨ frC l = 14 := by
  unfold frC
  split
  · exact .inr (.inr rfl)
  · split
    · exact .inr (.inl rfl)
    · split
      · exact .inr (.inr rfl)
      · split
        · exact .inl rfl
        · exact .inr (.inl rfl)
/-- What ReadFrames answers. -/
def rdL (l : List UInt8) : List ByteArray := if 65536 < l.length then [] else (frs l.length l).1
def rdP (l : List UInt8) : Int := if 65536 < l.length then 0 else ((frs l.length l).2.1 : Int)
def rdC (l : List UInt8) : Int := if 65536 < l.length then 2 else (frs l.length l).2.2
end Go.Proofs.Ytffnehaccgfnjaa
