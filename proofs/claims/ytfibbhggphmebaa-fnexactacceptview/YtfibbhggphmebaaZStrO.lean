/- A slice of texts that came in leads to a row of these; lists of five variables. -/
import Derived.Test.YtfibbhggphmebaaZStrS
import Derived.Deep.Strs
import Derived.Lib.SmallJoins
import Derived.OpenVars
namespace Go.Proofs.Ytfibbhggphmebaa
open Go.ChangeShapes Go.WideShapes Go.ChangeAt Go.RowKit Go.Deep
section
variable {H : Type} {enc : TypeId × Value → H} {P : Program} {w : World} {base : Nat} {spare : Nat → Bool} {held : Bool}
theorem strs_fieldO {t e : TypeId} {fuel : Nat} {c : Value} {y : DataW H × List MemPlace} (ht : P.underlying t = some (.slice e)) (he : P.underlying e = some .string) (hc : P.cellsOf e = 1) (h : DataW.trod enc P w base spare held fuel t [c] = some y) :
    ∃ (a : Option Addr) (len cap : Nat) (l : List ByteArray), c = .slice a len cap ∧ l.length = len ∧ len ≤ maxLen ∧ (∀ k (h : k < l.length), l[k].size ≤ maxLen) ∧ RowV w a (cS l) := by
  rcases open_strs ht he hc h with ⟨hcs, _⟩ | ⟨x, len, cap, m, Sx, hcs, _, hl, hm, hmm, _, hcell⟩
  · simp at hcs
    exact ⟨none, 0, 0, [], hcs, rfl, by unfold maxLen; omega, fun k h => by simp at h, .inl rfl⟩
  · simp at hcs
    have hlm : len ≤ m := by rw [hmm]; split <;> omega
    refine ⟨some x, len, cap, (List.range len).map Sx, hcs, by simp, by omega, fun k h => ?_, ?_⟩
    · have : k < len := by simpa using h
      rw [List.getElem_map, List.getElem_range]; exact (hcell k (by omega)).2
    · by_cases h0 : len = 0
      · left; simp [h0, cS]
      · right
        obtain ⟨b, off, spot⟩ := x
        have hc0 := (hcell 0 (by omega)).1
        have hspot : spot = none := by simpa [Addr.add] using World.cell?_spot hc0
        subst hspot
        refine ⟨b, off, rfl, World.block_lt_of_cell? w _ hc0, fun i u hu => ?_⟩
        have hi : i < ((List.range len).map Sx).length := by have := (List.getElem?_eq_some_iff.1 hu).1; rwa [cS_len] at this
        have hi' : i < len := by simpa using hi
        have hci := (hcell i (by omega)).1
        rw [show (⟨b, off, none⟩ : Addr).add i = ⟨b, off + i, none⟩ from by unfold Addr.add; split <;> simp_all] at hci
        rw [hci, ← hu, cS_at _ i hi, List.getElem_map, List.getElem_range]
end
end Go.Proofs.Ytfibbhggphmebaa
