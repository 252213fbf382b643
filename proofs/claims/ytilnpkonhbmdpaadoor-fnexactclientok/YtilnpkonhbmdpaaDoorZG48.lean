/- Texts put together: StrO CliO. -/
import Derived.Test.YtilnpkonhbmdpaaDoorZStrS
import Derived.Deep.Strs
import Derived.Lib.SmallJoins
import Derived.OpenVars
import Derived.Test.YtilnpkonhbmdpaaDoorZG47
/- A slice of texts that came in leads to a row of these; lists of five variables. -/
namespace Go.Proofs.YtilnpkonhbmdpaaDoor
open Go.ChangeShapes Go.WideShapes Go.ChangeAt Go.RowKit Go.Deep
section
variable {H : Type} {enc : TypeId × Value → H} {P : Program} {w : World} {base : Nat} {spare : Nat → Bool} {held : Bool}
theorem strs_fieldO {t e : TypeId} {fuel : Nat} {c : Value} {y : DataW H × List MemPlace} (ht : P.underlying t = some (.slice e)) (he : P.underlying e = some .string) (hc : P.cellsOf e = 1) (h : DataW.trod enc P w base spare held fuel t [c] = some y) :
    ∃ (a : Option Addr) (len cap : Nat) (l : List ByteArray), c = .slice a len cap ∧ l.length = len ∧ len ≤ maxLen ∧ (∀ k (h : k < l.length), l[k].size ≤ maxLen) ∧ RowV w a (cS l) := by
  rcases open_strs ht he hc h with ⟨hcs, _⟩ | ⟨x, len, cap, m, Sx, hcs, _, hl, hm, hmm, _, hcell⟩
  · simp at hcs
    exact ⟨none, 0, 0, [], hcs, rfl, by unfold maxLen; omega, fun k h => by simp at h, .inl rfl⟩
  · simp at hcs
    have hlm : len ≤ m := by rw [hmm]; split <;> omega
    refine ⟨some x, len, cap, (List.range len).map Sx, hcs, by simp, by omega, fun k h => ?_, ?_⟩
    · have : k < len := by simpa using h
      rw [List.getElem_map, List.getElem_range]; exact (hcell k (by omega)).2
    · by_cases h0 : len = 0
      · left; simp [h0, cS]
      · right
        obtain ⟨b, off, spot⟩ := x
        have hc0 := (hcell 0 (by omega)).1
        have hspot : spot = none := by simpa [Addr.add] using World.cell?_spot hc0
        subst hspot
        refine ⟨b, off, rfl, World.block_lt_of_cell? w _ hc0, fun i u hu => ?_⟩
        have hi : i < ((List.range len).map Sx).length := by have := (List.getElem?_eq_some_iff.1 hu).1; rwa [cS_len] at this
        have hi' : i < len := by simpa using hi
        have hci := (hcell i (by omega)).1
        rw [show (⟨b, off, none⟩ : Addr).add i = ⟨b, off + i, none⟩ from by unfold Addr.add; split <;> simp_all] at hci
        rw [hci, ← hu, cS_at _ i hi, List.getElem_map, List.getElem_range]
end
end Go.Proofs.YtilnpkonhbmdpaaDoor

/- A client that came in by value, opened: its mirror's four cells lie within its own. -/
namespace Go.Proofs.YtilnpkonhbmdpaaDoor
open Go.ChangeShapes Go.WideShapes Go.ChangeAt Go.RowKit Go.Deep
section
variable {H : Type} {enc : TypeId × Value → H} {P : Program} {w : World} {base : Nat} {spare : Nat → Bool} {held : Bool}
theorem array7c {α : Type} {cs : Array α} (h : cs.size = 7) : ∃ c0 c1 c2 c3 c4 c5 c6, cs = #[c0, c1, c2, c3, c4, c5, c6] := by
  obtain ⟨l⟩ := cs
  match l, h with
  | [c0, c1, c2, c3, c4, c5, c6], _ => exact ⟨c0, c1, c2, c3, c4, c5, c6, rfl⟩
theorem open_client {r : Reach} {b0 : Nat} {t : TypeId} {f0 f1 f2 f3 g0 g1 g2 g3 : Field} {v : Value} {d : DataW H} {p : List MemPlace} (hs : P.underlying t = some (.struct #[f0, f1, f2, f3])) (hm : P.underlying f3.type = some (.struct #[g0, g1, g2, g3]))
    (ho : f0.offset = 0 ∧ f1.offset = 1 ∧ f2.offset = 2 ∧ f3.offset = 3) (hc : P.cellsOf f0.type = 1 ∧ P.cellsOf f1.type = 1 ∧ P.cellsOf f2.type = 1 ∧ P.cellsOf f3.type = 4) (ho2 : g0.offset = 0 ∧ g1.offset = 1 ∧ g2.offset = 2 ∧ g3.offset = 3) (hc2 : P.cellsOf g0.type = 1 ∧ P.cellsOf g1.type = 1 ∧ P.cellsOf g2.type = 1 ∧ P.cellsOf g3.type = 1) (hC : P.cellsOf t = 7)
    (hv : Value.okWide P w r b0 t v) (h : DataW.Trod enc P w base spare held t v d p) :
    ∃ (v0 v1 v2 v3 v4 v5 v6 : Value) (y0 y1 y2 z0 z1 z2 z3 : DataW H × List MemPlace) (n m : Nat), v = .agg #[v0, v1, v2, v3, v4, v5, v6] ∧ DataW.trod enc P w base spare held n f0.type [v0] = some y0 ∧ DataW.trod enc P w base spare held n f1.type [v1] = some y1 ∧ DataW.trod enc P w base spare held n f2.type [v2] = some y2 ∧ DataW.trod enc P w base spare held m g0.type [v3] = some z0 ∧ DataW.trod enc P w base spare held m g1.type [v4] = some z1 ∧ DataW.trod enc P w base spare held m g2.type [v5] = some z2 ∧ DataW.trod enc P w base spare held m g3.type [v6] = some z3 := by
  obtain ⟨cs, rfl, hsz⟩ := okWide_struct hs hv
  obtain ⟨c0, c1, c2, c3, c4, c5, c6, rfl⟩ := array7c (hsz.trans hC)
  obtain ⟨fuel, hf⟩ := h
  obtain ⟨y0, y1, y2, y3, n, h0, h1, h2, h3⟩ := trod_struct4 hs hf
  obtain ⟨o0, o1, o2, o3⟩ := ho
  obtain ⟨k0, k1, k2, k3⟩ := hc
  obtain ⟨p0, p1, p2, p3⟩ := ho2
  obtain ⟨q0, q1, q2, q3⟩ := hc2
  rw [o0, k0] at h0
  rw [o1, k1] at h1
  rw [o2, k2] at h2
  rw [o3, k3] at h3
  have h3' : DataW.trod enc P w base spare held n f3.type [c3, c4, c5, c6] = some y3 := by simpa [Value.cells] using h3
  obtain ⟨z0, z1, z2, z3, m, g0', g1', g2', g3'⟩ := trod_struct4 hm h3'
  rw [p0, q0] at g0'
  rw [p1, q1] at g1'
  rw [p2, q2] at g2'
  rw [p3, q3] at g3'
  exact ⟨c0, c1, c2, c3, c4, c5, c6, y0, y1, y2, z0, z1, z2, z3, n, m, rfl, by simpa [Value.cells] using h0, by simpa [Value.cells] using h1, by simpa [Value.cells] using h2, by simpa using g0', by simpa using g1', by simpa using g2', by simpa using g3'⟩
end
end Go.Proofs.YtilnpkonhbmdpaaDoor
