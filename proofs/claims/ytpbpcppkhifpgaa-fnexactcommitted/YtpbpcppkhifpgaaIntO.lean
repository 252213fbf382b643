/- A slice of integers that came in leads to a row of these. -/
import Derived.Test.YtpbpcppkhifpgaaIntS
import Derived.Lib.SmallJoins
import Derived.Deep.Strs
namespace Go.Proofs.Ytpbpcppkhifpgaa
open Go.ChangeShapes Go.WideShapes Go.ChangeAt Go.RowKit Go.Deep
section
variable {H : Type} {enc : TypeId × Value → H} {P : Program} {w : World} {base : Nat} {spare : Nat → Bool} {held : Bool}
theorem ints_field {t e : TypeId} {fuel : Nat} {c : Value} {y : DataW H × List MemPlace} (ht : P.underlying t = some (.slice e)) (he : P.underlying e = some (.int .i64)) (hc : P.cellsOf e = 1)
    (h : DataW.trod enc P w base spare held fuel t [c] = some y) : ∃ (a : Option Addr) (len cap : Nat) (l : List Int), c = .slice a len cap ∧ l.length = len ∧ len ≤ maxLen ∧ RowV w a (cI l) := by
  rcases open_ints ht he hc h with ⟨hcs, _⟩ | ⟨x, len, cap, zs, hcs, _, hl, hm, hz, _, hcell, _⟩
  · simp at hcs
    exact ⟨none, 0, 0, [], hcs, rfl, by unfold maxLen; omega, .inl rfl⟩
  · simp at hcs
    have hzl : len ≤ zs.length := by rw [hz]; split <;> omega
    refine ⟨some x, len, cap, zs.take len, hcs, by simp; omega, by omega, ?_⟩
    by_cases h0 : len = 0
    · left; simp [h0, cI]
    · right
      obtain ⟨b, off, spot⟩ := x
      have hc0 := hcell 0 (by omega)
      have hspot : spot = none := by simpa [Addr.add] using World.cell?_spot hc0
      subst hspot
      refine ⟨b, off, rfl, World.block_lt_of_cell? w _ hc0, fun i u hu => ?_⟩
      have hi : i < (zs.take len).length := by have := (List.getElem?_eq_some_iff.1 hu).1; rwa [cI_len] at this
      have hi' : i < len := by simp at hi; omega
      have hci := hcell i (by omega)
      have hlt : i < zs.length := by omega
      rw [show (⟨b, off, none⟩ : Addr).add i = ⟨b, off + i, none⟩ from by unfold Addr.add; split <;> simp_all] at hci
      rw [hci, ← hu, cI_at _ i hi]
      simp [hlt, List.getElem_take]
end
end Go.Proofs.Ytpbpcppkhifpgaa
