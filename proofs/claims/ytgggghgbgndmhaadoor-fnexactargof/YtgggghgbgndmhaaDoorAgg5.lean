/- A struct of five one-cell fields that came in by value, opened; a slice of integers that came in leads to a row of integers. -/
import Derived.Test.YtgggghgbgndmhaaDoorIntS
import Derived.Lib.SmallJoins
namespace Go.Proofs.YtgggghgbgndmhaaDoor
open Go.ChangeShapes Go.WideShapes Go.ChangeAt Go.RowKit Go.Deep
section
variable {H : Type} {enc : TypeId × Value → H} {P : Program} {w : World} {base : Nat} {spare : Nat → Bool} {held : Bool}
theorem array5 {α : Type} {cs : Array α} (h : cs.size = 5) : ∃ c0 c1 c2 c3 c4, cs = #[c0, c1, c2, c3, c4] := by
  obtain ⟨l⟩ := cs
  match l, h with
  | [c0, c1, c2, c3, c4], _ => exact ⟨c0, c1, c2, c3, c4, rfl⟩
theorem trod_struct5 {t : TypeId} {f0 f1 f2 f3 f4 : Field} {fuel : Nat} {cs : List Value} {x : DataW H × List MemPlace} (ht : P.underlying t = some (.struct #[f0, f1, f2, f3, f4])) (h : DataW.trod enc P w base spare held fuel t cs = some x) :
    ∃ y0 y1 y2 y3 y4 n, DataW.trod enc P w base spare held n f0.type ((cs.drop f0.offset).take (P.cellsOf f0.type)) = some y0 ∧
      DataW.trod enc P w base spare held n f1.type ((cs.drop f1.offset).take (P.cellsOf f1.type)) = some y1 ∧ DataW.trod enc P w base spare held n f2.type ((cs.drop f2.offset).take (P.cellsOf f2.type)) = some y2 ∧
      DataW.trod enc P w base spare held n f3.type ((cs.drop f3.offset).take (P.cellsOf f3.type)) = some y3 ∧ DataW.trod enc P w base spare held n f4.type ((cs.drop f4.offset).take (P.cellsOf f4.type)) = some y4 := by
  obtain ⟨xs, n, _, _, hl, hlen, hf⟩ := DataW.trod_struct ht h
  match xs, hlen, hf with
  | [y0, y1, y2, y3, y4], _, hf => exact ⟨y0, y1, y2, y3, y4, n, by simpa using hf 0 f0 rfl, by simpa using hf 1 f1 rfl, by simpa using hf 2 f2 rfl, by simpa using hf 3 f3 rfl, by simpa using hf 4 f4 rfl⟩
theorem open_agg5 {r : Reach} {b0 : Nat} {t : TypeId} {f0 f1 f2 f3 f4 : Field} {v : Value} {d : DataW H} {p : List MemPlace} (hs : P.underlying t = some (.struct #[f0, f1, f2, f3, f4])) (hone : oneCellFields P #[f0, f1, f2, f3, f4] = true) (hC : P.cellsOf t = 5)
    (hv : Value.okWide P w r b0 t v) (h : DataW.Trod enc P w base spare held t v d p) :
    ∃ (v0 v1 v2 v3 v4 : Value) (y0 y1 y2 y3 y4 : DataW H × List MemPlace) (n : Nat), v = .agg #[v0, v1, v2, v3, v4] ∧
      DataW.trod enc P w base spare held n f0.type [v0] = some y0 ∧ DataW.trod enc P w base spare held n f1.type [v1] = some y1 ∧ DataW.trod enc P w base spare held n f2.type [v2] = some y2 ∧ DataW.trod enc P w base spare held n f3.type [v3] = some y3 ∧ DataW.trod enc P w base spare held n f4.type [v4] = some y4 := by
  obtain ⟨cs, rfl, hsz⟩ := okWide_struct hs hv
  obtain ⟨c0, c1, c2, c3, c4, rfl⟩ := array5 (hsz.trans hC)
  obtain ⟨fuel, hf⟩ := h
  obtain ⟨y0, y1, y2, y3, y4, n, h0, h1, h2, h3, h4⟩ := trod_struct5 hs hf
  obtain ⟨o0, k0⟩ := hone_of hone 0 f0 rfl
  obtain ⟨o1, k1⟩ := hone_of hone 1 f1 rfl
  obtain ⟨o2, k2⟩ := hone_of hone 2 f2 rfl
  obtain ⟨o3, k3⟩ := hone_of hone 3 f3 rfl
  obtain ⟨o4, k4⟩ := hone_of hone 4 f4 rfl
  exact ⟨c0, c1, c2, c3, c4, y0, y1, y2, y3, y4, n, rfl, by simpa [Value.cells, o0, k0] using h0, by simpa [Value.cells, o1, k1] using h1, by simpa [Value.cells, o2, k2] using h2, by simpa [Value.cells, o3, k3] using h3, by simpa [Value.cells, o4, k4] using h4⟩
theorem row_field {t e : TypeId} {fuel : Nat} {c : Value} {y : DataW H × List MemPlace} (ht : P.underlying t = some (.slice e)) (he : P.underlying e = some (.int .i64)) (hc : P.cellsOf e = 1)
    (h : DataW.trod enc P w base spare held fuel t [c] = some y) : ∃ (a : Option Addr) (len cap : Nat) (l : List Int), c = .slice a len cap ∧ l.length = len ∧ len ≤ maxLen ∧ RowV w a (cI l) := by
  rcases open_ints ht he hc h with ⟨hcs, _⟩ | ⟨x, len, cap, zs, hcs, _, hl, hm, hz, _, hcell, _⟩
  · simp at hcs
    exact ⟨none, 0, 0, [], hcs, rfl, by unfold maxLen; omega, .inl rfl⟩
  · simp at hcs
    have hzl : len ≤ zs.length := by rw [hz]; split <;> omega
    refine ⟨some x, len, cap, zs.take len, hcs, by simp; omega, by omega, ?_⟩
    by_cases h0 : len = 0
    · left; simp [h0, cI]
    · right
      obtain ⟨b, off, spot⟩ := x
      have hc0 := hcell 0 (by omega)
      have hspot : spot = none := by simpa [Addr.add] using World.cell?_spot hc0
      subst hspot
      refine ⟨b, off, rfl, World.block_lt_of_cell? w _ hc0, fun i u hu => ?_⟩
      have hi : i < (zs.take len).length := by have := (List.getElem?_eq_some_iff.1 hu).1; rwa [cI_len] at this
      have hi' : i < len := by simp at hi; omega
      have hci := hcell i (by omega)
      have hlt : i < zs.length := by omega
      rw [show (⟨b, off, none⟩ : Addr).add i = ⟨b, off + i, none⟩ from by unfold Addr.add; split <;> simp_all] at hci
      rw [hci, ← hu, cI_at _ i hi]
      simp [hlt, List.getElem_take]
/-- An array of structs of five integers that reads as the rows of a list holds them, cell for cell. -/
theorem rows5_of_trod {fuel : Nat} {t e : TypeId} {n : Nat} {f0 f1 f2 f3 f4 : Field} {cs : List Value} {R : List (Int × Int × Int × Int × Int)} {p : List MemPlace}
    (ht : P.underlying t = some (.array n e)) (hs : P.underlying e = some (.struct #[f0, f1, f2, f3, f4])) (hone : oneCellFields P #[f0, f1, f2, f3, f4] = true) (hce : P.cellsOf e = 5)
    (i0 : P.underlying f0.type = some (.int .i64)) (i1 : P.underlying f1.type = some (.int .i64)) (i2 : P.underlying f2.type = some (.int .i64)) (i3 : P.underlying f3.type = some (.int .i64)) (i4 : P.underlying f4.type = some (.int .i64))
    (h : DataW.trod enc P w base spare held fuel t cs = some (.agg (R.map fun r => .agg [.lit (.int .i64 r.1), .lit (.int .i64 r.2.1), .lit (.int .i64 r.2.2.1), .lit (.int .i64 r.2.2.2.1), .lit (.int .i64 r.2.2.2.2)]), p)) :
    ∀ k r, R[k]? = some r → cs[k * 5]? = some (.int .i64 r.1) ∧ cs[k * 5 + 1]? = some (.int .i64 r.2.1) ∧ cs[k * 5 + 2]? = some (.int .i64 r.2.2.1) ∧ cs[k * 5 + 3]? = some (.int .i64 r.2.2.2.1) ∧ cs[k * 5 + 4]? = some (.int .i64 r.2.2.2.2) := by
  obtain ⟨xs, m, rfl, hx, hlen, hn, hel⟩ := DataW.trod_array ht h
  intro k r hr
  simp only [Prod.mk.injEq, DataW.agg.injEq] at hx
  have h2 := congrArg (fun l => l[k]?) hx.1
  simp only [List.getElem?_map, hr, Option.map_some] at h2
  obtain ⟨x, hxk, hx1⟩ := Option.map_eq_some_iff.1 h2.symm
  have hkx : k < xs.length := (List.getElem?_eq_some_iff.1 hxk).1
  have h1 := hel k (by omega)
  rw [hxk, hce] at h1
  obtain ⟨ys, m2, _, rfl, hl, hyl, hf⟩ := DataW.trod_struct hs h1
  obtain ⟨o0, k0⟩ := hone_of hone 0 f0 rfl
  obtain ⟨o1, k1⟩ := hone_of hone 1 f1 rfl
  obtain ⟨o2, k2⟩ := hone_of hone 2 f2 rfl
  obtain ⟨o3, k3⟩ := hone_of hone 3 f3 rfl
  obtain ⟨o4, k4⟩ := hone_of hone 4 f4 rfl
  match ys, hyl, hf, hx1 with
  | [y0, y1, y2, y3, y4], _, hf, hx1 =>
    simp only [List.map_cons, List.map_nil, DataW.agg.injEq, List.cons.injEq, and_true] at hx1
    obtain ⟨g0, g1, g2, g3, g4⟩ := hx1
    have z0 := hf 0 f0 rfl
    have z1 := hf 1 f1 rfl
    have z2 := hf 2 f2 rfl
    have z3 := hf 3 f3 rfl
    have z4 := hf 4 f4 rfl
    rw [o0, k0] at z0
    rw [o1, k1] at z1
    rw [o2, k2] at z2
    rw [o3, k3] at z3
    rw [o4, k4] at z4
    obtain ⟨a0, e0, q0, _⟩ := DataW.trod_int i0 z0
    obtain ⟨a1, e1, q1, _⟩ := DataW.trod_int i1 z1
    obtain ⟨a2, e2, q2, _⟩ := DataW.trod_int i2 z2
    obtain ⟨a3, e3, q3, _⟩ := DataW.trod_int i3 z3
    obtain ⟨a4, e4, q4, _⟩ := DataW.trod_int i4 z4
    subst q0 q1 q2 q3 q4
    simp only [DataW.lit.injEq, Lit.int.injEq, true_and] at g0 g1 g2 g3 g4
    subst g0 g1 g2 g3 g4
    have c0 := congrArg (fun l => l[0]?) e0
    have c1 := congrArg (fun l => l[0]?) e1
    have c2 := congrArg (fun l => l[0]?) e2
    have c3 := congrArg (fun l => l[0]?) e3
    have c4 := congrArg (fun l => l[0]?) e4
    simp [List.getElem?_drop] at c0 c1 c2 c3 c4
    exact ⟨c0, c1, c2, c3, c4⟩
end
end Go.Proofs.YtgggghgbgndmhaaDoor
