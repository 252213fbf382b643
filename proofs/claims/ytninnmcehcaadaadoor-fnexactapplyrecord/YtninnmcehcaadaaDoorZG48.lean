/- Texts put together: ApAll Agg3 EntO. -/
import Derived.Test.YtninnmcehcaadaaDoorZSapY
import Derived.Test.YtninnmcehcaadaaDoorZG46
import Derived.Test.YtninnmcehcaadaaDoorZEntK
import Derived.Test.YtninnmcehcaadaaDoorZEntL
import Derived.Test.YtninnmcehcaadaaDoorZRowV
import Derived.Lib.SmallJoins
import Derived.Deep.Strs
import Derived.Test.YtninnmcehcaadaaDoorZEntM
import Derived.Deep.SlicePairs
/- All that the walk names. -/

/- A struct of 3 one-cell fields that came in by value, opened; a slice of pairs of integers and a slice of texts that came in lead to rows of these. -/

namespace Go.Proofs.YtninnmcehcaadaaDoor
open Go.ChangeShapes Go.WideShapes Go.ChangeAt Go.RowKit Go.Deep
section
variable {H : Type} {enc : TypeId × Value → H} {P : Program} {w : World} {base : Nat} {spare : Nat → Bool} {held : Bool}
theorem array3 {α : Type} {cs : Array α} (h : cs.size = 3) : ∃ c0 c1 c2, cs = #[c0, c1, c2] := by
  obtain ⟨l⟩ := cs
  match l, h with
  | [c0, c1, c2], _ => exact ⟨c0, c1, c2, rfl⟩
theorem trod_struct3 {t : TypeId} {f0 f1 f2 : Field} {fuel : Nat} {cs : List Value} {x : DataW H × List MemPlace} (ht : P.underlying t = some (.struct #[f0, f1, f2])) (h : DataW.trod enc P w base spare held fuel t cs = some x) :
    ∃ y0 y1 y2 n, DataW.trod enc P w base spare held n f0.type ((cs.drop f0.offset).take (P.cellsOf f0.type)) = some y0 ∧ DataW.trod enc P w base spare held n f1.type ((cs.drop f1.offset).take (P.cellsOf f1.type)) = some y1 ∧ DataW.trod enc P w base spare held n f2.type ((cs.drop f2.offset).take (P.cellsOf f2.type)) = some y2 := by
  obtain ⟨xs, n, _, _, hl, hlen, hf⟩ := DataW.trod_struct ht h
  match xs, hlen, hf with
  | [y0, y1, y2], _, hf => exact ⟨y0, y1, y2, n, by simpa using hf 0 f0 rfl, by simpa using hf 1 f1 rfl, by simpa using hf 2 f2 rfl⟩
theorem open_agg3 {r : Reach} {b0 : Nat} {t : TypeId} {f0 f1 f2 : Field} {v : Value} {d : DataW H} {p : List MemPlace} (hs : P.underlying t = some (.struct #[f0, f1, f2])) (hone : oneCellFields P #[f0, f1, f2] = true) (hC : P.cellsOf t = 3)
    (hv : Value.okWide P w r b0 t v) (h : DataW.Trod enc P w base spare held t v d p) :
    ∃ (v0 v1 v2 : Value) (y0 y1 y2 : DataW H × List MemPlace) (n : Nat), v = .agg #[v0, v1, v2] ∧ DataW.trod enc P w base spare held n f0.type [v0] = some y0 ∧ DataW.trod enc P w base spare held n f1.type [v1] = some y1 ∧ DataW.trod enc P w base spare held n f2.type [v2] = some y2 := by
  obtain ⟨cs, rfl, hsz⟩ := okWide_struct hs hv
  obtain ⟨c0, c1, c2, rfl⟩ := array3 (hsz.trans hC)
  obtain ⟨fuel, hf⟩ := h
  obtain ⟨y0, y1, y2, n, h0, h1, h2⟩ := trod_struct3 hs hf
  obtain ⟨o0, k0⟩ := hone_of hone 0 f0 rfl
  obtain ⟨o1, k1⟩ := hone_of hone 1 f1 rfl
  obtain ⟨o2, k2⟩ := hone_of hone 2 f2 rfl
  exact ⟨c0, c1, c2, y0, y1, y2, n, rfl, by simpa [Value.cells, o0, k0] using h0, by simpa [Value.cells, o1, k1] using h1, by simpa [Value.cells, o2, k2] using h2⟩
end
end Go.Proofs.YtninnmcehcaadaaDoor

/- A slice of entries that came in leads to a row of these. -/
namespace Go.Proofs.YtninnmcehcaadaaDoor
open Go.ChangeShapes Go.WideShapes Go.ChangeAt Go.RowKit Go.Deep
section
variable {H : Type} {enc : TypeId × Value → H} {P : Program} {w : World} {base : Nat} {spare : Nat → Bool} {held : Bool}
theorem entries_field {t e : TypeId} {f0 f1 : Field} {fuel : Nat} {c : Value} {y : DataW H × List MemPlace} (ht : P.underlying t = some (.slice e)) (he : P.underlying e = some (.struct #[f0, f1])) (ce : P.cellsOf e = 2) (o0 : f0.offset = 0) (o1 : f1.offset = 1) (c0 : P.cellsOf f0.type = 1) (c1 : P.cellsOf f1.type = 1)
    (i0 : P.underlying f0.type = some (.int .i64)) (i1 : P.underlying f1.type = some .string) (h : DataW.trod enc P w base spare held fuel t [c] = some y) :
    ∃ (a : Option Addr) (len cap : Nat) (l : List (Int × ByteArray)), c = .slice a len cap ∧ l.length = len ∧ len ≤ maxLen ∧ (∀ k (h : k < l.length), l[k].2.size ≤ maxLen) ∧ RowV w a (cE l) := by
  rcases open_slice_pairs ht he ce o0 o1 c0 c1 h with ⟨hcs, _⟩ | ⟨x, len, cap, m, n, V0, V1, D0, D1, P0, P1, hcs, _, hl, hm, hmm, _, hx⟩
  · simp at hcs
    exact ⟨none, 0, 0, [], hcs, rfl, by unfold maxLen; omega, fun k h => by simp at h, .inl rfl⟩
  · simp at hcs
    have hlm : len ≤ m := by rw [hmm]; split <;> omega
    have hv : ∀ i, i < len → ∃ q : Int × ByteArray, V0 i = .int .i64 q.1 ∧ V1 i = .string q.2 ∧ q.2.size ≤ maxLen := by
      intro i hi
      obtain ⟨_, _, g0, g1⟩ := hx i (by omega)
      obtain ⟨a0, e0, _⟩ := DataW.trod_int i0 g0
      obtain ⟨a1, e1, _, e2⟩ := DataW.trod_string i1 g1
      exact ⟨(a0, a1), by simpa using e0, by simpa using e1, e2⟩
    obtain ⟨q, hq⟩ := choose_lt hv
    refine ⟨some x, len, cap, (List.range len).map q, hcs, by simp, by omega, fun k h => ?_, ?_⟩
    · have : k < len := by simpa using h
      rw [List.getElem_map, List.getElem_range]; exact (hq k this).2.2
    by_cases h0 : len = 0
    · left; simp [h0, cE]
    · right
      obtain ⟨b, off, spot⟩ := x
      have hc0 := (hx 0 (by omega)).1
      have hspot : spot = none := by simpa [Addr.add] using World.cell?_spot hc0
      subst hspot
      refine ⟨b, off, rfl, World.block_lt_of_cell? w _ hc0, fun i u hu => ?_⟩
      have hi : i < (cE ((List.range len).map q)).length := (List.getElem?_eq_some_iff.1 hu).1
      rw [cE_len, List.length_map, List.length_range] at hi
      have hadd : ∀ j, (⟨b, off, none⟩ : Addr).add j = ⟨b, off + j, none⟩ := fun j => by unfold Addr.add; split <;> simp_all
      obtain ⟨x0, x1, _, _⟩ := hx (i / 2) (by omega)
      obtain ⟨q0, q1, _⟩ := hq (i / 2) (by omega)
      obtain ⟨z0, z1⟩ := cE_at ((List.range len).map q) (i / 2) (by simp; omega)
      rw [List.getElem_map, List.getElem_range] at z0 z1
      rw [hadd, q0] at x0
      rw [hadd, q1] at x1
      rcases Nat.mod_two_eq_zero_or_one i with hm2 | hm2
      · rw [show i / 2 * 2 = i from by omega] at x0 z0
        rw [x0, ← hu, z0]
      · rw [show i / 2 * 2 + 1 = i from by omega] at x1 z1
        rw [x1, ← hu, z1]
end
end Go.Proofs.YtninnmcehcaadaaDoor
