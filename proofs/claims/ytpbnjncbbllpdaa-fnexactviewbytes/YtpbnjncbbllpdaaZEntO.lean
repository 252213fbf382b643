/- A slice of entries that came in leads to a row of these. -/
import Derived.Test.YtpbnjncbbllpdaaZEntM
import Derived.Lib.SmallJoins
import Derived.Deep.Strs
import Derived.Deep.SlicePairs
namespace Go.Proofs.Ytpbnjncbbllpdaa
open Go.ChangeShapes Go.WideShapes Go.ChangeAt Go.RowKit Go.Deep
section
variable {H : Type} {enc : TypeId × Value → H} {P : Program} {w : World} {base : Nat} {spare : Nat → Bool} {held : Bool}
theorem entries_field {t e : TypeId} {f0 f1 : Field} {fuel : Nat} {c : Value} {y : DataW H × List MemPlace} (ht : P.underlying t = some (.slice e)) (he : P.underlying e = some (.struct #[f0, f1])) (ce : P.cellsOf e = 2) (o0 : f0.offset = 0) (o1 : f1.offset = 1) (c0 : P.cellsOf f0.type = 1) (c1 : P.cellsOf f1.type = 1)
    (i0 : P.underlying f0.type = some (.int .i64)) (i1 : P.underlying f1.type = some .string) (h : DataW.trod enc P w base spare held fuel t [c] = some y) :
    ∃ (a : Option Addr) (len cap : Nat) (l : List (Int × ByteArray)), c = .slice a len cap ∧ l.length = len ∧ len ≤ maxLen ∧ (∀ k (h : k < l.length), l[k].2.size ≤ maxLen) ∧ RowV w a (cE l) := by
  rcases open_slice_pairs ht he ce o0 o1 c0 c1 h with ⟨hcs, _⟩ | ⟨x, len, cap, m, n, V0, V1, D0, D1, P0, P1, hcs, _, hl, hm, hmm, _, hx⟩
  · simp at hcs
    exact ⟨none, 0, 0, [], hcs, rfl, by unfold maxLen; omega, fun k h => by simp at h, .inl rfl⟩
  · simp at hcs
    have hlm : len ≤ m := by rw [hmm]; split <;> omega
    have hv : ∀ i, i < len → ∃ q : Int × ByteArray, V0 i = .int .i64 q.1 ∧ V1 i = .string q.2 ∧ q.2.size ≤ maxLen := by
      intro i hi
      obtain ⟨_, _, g0, g1⟩ := hx i (by omega)
      obtain ⟨a0, e0, _⟩ := DataW.trod_int i0 g0
      obtain ⟨a1, e1, _, e2⟩ := DataW.trod_string i1 g1
      exact ⟨(a0, a1), by simpa using e0, by simpa using e1, e2⟩
    obtain ⟨q, hq⟩ := choose_lt hv
    refine ⟨some x, len, cap, (List.range len).map q, hcs, by simp, by omega, fun k h => ?_, ?_⟩
    · have : k < len := by simpa using h
      rw [List.getElem_map, List.getElem_range]; exact (hq k this).2.2
    by_cases h0 : len = 0
    · left; simp [h0, cE]
    · right
      obtain ⟨b, off, spot⟩ := x
      have hc0 := (hx 0 (by omega)).1
      have hspot : spot = none := by simpa [Addr.add] using World.cell?_spot hc0
      subst hspot
      refine ⟨b, off, rfl, World.block_lt_of_cell? w _ hc0, fun i u hu => ?_⟩
      have hi : i < (cE ((List.range len).map q)).length := (List.getElem?_eq_some_iff.1 hu).1
      rw [cE_len, List.length_map, List.length_range] at hi
      have hadd : ∀ j, (⟨b, off, none⟩ : Addr).add j = ⟨b, off + j, none⟩ := fun j => by unfold Addr.add; split <;> simp_all
      obtain ⟨x0, x1, _, _⟩ := hx (i / 2) (by omega)
      obtain ⟨q0, q1, _⟩ := hq (i / 2) (by omega)
      obtain ⟨z0, z1⟩ := cE_at ((List.range len).map q) (i / 2) (by simp; omega)
      rw [List.getElem_map, List.getElem_range] at z0 z1
      rw [hadd, q0] at x0
      rw [hadd, q1] at x1
      rcases Nat.mod_two_eq_zero_or_one i with hm2 | hm2
      · rw [show i / 2 * 2 = i from by omega] at x0 z0
        rw [x0, ← hu, z0]
      · rw [show i / 2 * 2 + 1 = i from by omega] at x1 z1
        rw [x1, ← hu, z1]
end
end Go.Proofs.Ytpbnjncbbllpdaa
