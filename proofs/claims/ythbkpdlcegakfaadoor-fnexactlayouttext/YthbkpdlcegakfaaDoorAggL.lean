/- A layout that came in by value, opened: its parts are a row. -/
import Derived.Test.YthbkpdlcegakfaaDoorPartL
import Derived.Lib.SmallJoins
import Derived.Deep.Strs
import Derived.Deep.SlicePairs
namespace Go.Proofs.YthbkpdlcegakfaaDoor
open Go.ChangeShapes Go.WideShapes Go.ChangeAt Go.RowKit Go.Deep
section
variable {H : Type} {enc : TypeId × Value → H} {P : Program} {w : World} {base : Nat} {spare : Nat → Bool} {held : Bool}
theorem open_agg1 {r : Reach} {b0 : Nat} {t : TypeId} {f0 : Field} {v : Value} {d : DataW H} {p : List MemPlace} (hs : P.underlying t = some (.struct #[f0])) (hone : oneCellFields P #[f0] = true) (hC : P.cellsOf t = 1)
    (hv : Value.okWide P w r b0 t v) (h : DataW.Trod enc P w base spare held t v d p) :
    ∃ (v0 : Value) (y0 : DataW H × List MemPlace) (n : Nat), v = .agg #[v0] ∧ DataW.trod enc P w base spare held n f0.type [v0] = some y0 := by
  obtain ⟨cs, rfl, hsz⟩ := okWide_struct hs hv
  obtain ⟨c0, rfl⟩ : ∃ c0, cs = #[c0] := by
    have hz := hsz.trans hC
    obtain ⟨l⟩ := cs
    match l, hz with
    | [c0], _ => exact ⟨c0, rfl⟩
  obtain ⟨fuel, hf⟩ := h
  obtain ⟨xs, n, _, _, hl, hlen, hff⟩ := DataW.trod_struct hs hf
  obtain ⟨o0, k0⟩ := hone_of hone 0 f0 rfl
  match xs, hlen, hff with
  | [y0], _, hff =>
    have h0 := hff 0 f0 rfl
    exact ⟨c0, y0, n, rfl, by simpa [Value.cells, o0, k0] using h0⟩
theorem parts_field {t e : TypeId} {f0 f1 f2 f3 f4 : Field} {fuel : Nat} {c : Value} {y : DataW H × List MemPlace} (ht : P.underlying t = some (.slice e)) (he : P.underlying e = some (.struct #[f0, f1, f2, f3, f4])) (ce : P.cellsOf e = 5) (o0 : f0.offset = 0) (o1 : f1.offset = 1) (o2 : f2.offset = 2) (o3 : f3.offset = 3) (o4 : f4.offset = 4) (c0 : P.cellsOf f0.type = 1) (c1 : P.cellsOf f1.type = 1) (c2 : P.cellsOf f2.type = 1) (c3 : P.cellsOf f3.type = 1) (c4 : P.cellsOf f4.type = 1) (u0 : P.underlying f0.type = some (.int .i64)) (u1 : P.underlying f1.type = some .bool) (u2 : P.underlying f2.type = some (.int .i64)) (u3 : P.underlying f3.type = some (.int .i64)) (u4 : P.underlying f4.type = some (.int .i64)) (h : DataW.trod enc P w base spare held fuel t [c] = some y) :
    ∃ (a : Option Addr) (len cap : Nat) (l : List Pt), c = .slice a len cap ∧ l.length = len ∧ len ≤ maxLen ∧ RowV w a (cPt l) := by
  rcases open_slice ht h with ⟨hcs, _⟩ | ⟨x, len, cap, m, n, D, Pl, hcs, hb, hl, hm, hmm, _, hx⟩
  · simp at hcs
    exact ⟨none, 0, 0, [], hcs, rfl, by unfold maxLen; omega, .inl rfl⟩
  · simp at hcs
    have hlm : len ≤ m := by rw [hmm]; split <;> omega
    have hv : ∀ i, i < len → ∃ q : Pt, w.cell? (x.add (i * 5)) = some (.int .i64 q.pane) ∧ w.cell? (x.add (i * 5 + 1)) = some (.bool q.rows) ∧ w.cell? (x.add (i * 5 + 2)) = some (.int .i64 q.size) ∧ w.cell? (x.add (i * 5 + 3)) = some (.int .i64 q.left) ∧ w.cell? (x.add (i * 5 + 4)) = some (.int .i64 q.right) := by
      intro i hi
      obtain ⟨cs', h1, h2⟩ := hx i (by omega)
      rw [ce] at h1
      obtain ⟨_, hlen, hcell⟩ := World.cells?_some h1
      obtain ⟨xs, k, hk, hxy, _, hxl, hf⟩ := DataW.trod_struct he h2
      match xs, hxl, cs', hlen with
      | [y0, y1, y2, y3, y4], _, [v0, v1, v2, v3, v4], _ =>
        have g0 := hf 0 f0 rfl
        have g1 := hf 1 f1 rfl
        have g2 := hf 2 f2 rfl
        have g3 := hf 3 f3 rfl
        have g4 := hf 4 f4 rfl
        simp [o0, o1, o2, o3, o4, c0, c1, c2, c3, c4] at g0 g1 g2 g3 g4
        have e0 := hcell 0 (by omega)
        have e1 := hcell 1 (by omega)
        have e2 := hcell 2 (by omega)
        have e3 := hcell 3 (by omega)
        have e4 := hcell 4 (by omega)
        rw [add_add] at e0 e1 e2 e3 e4
        obtain ⟨q0, z0, _⟩ := DataW.trod_int u0 g0
        obtain ⟨q1, z1, _⟩ := DataW.trod_bool u1 g1
        obtain ⟨q2, z2, _⟩ := DataW.trod_int u2 g2
        obtain ⟨q3, z3, _⟩ := DataW.trod_int u3 g3
        obtain ⟨q4, z4, _⟩ := DataW.trod_int u4 g4
        simp at z0 z1 z2 z3 z4
        subst z0 z1 z2 z3 z4
        exact ⟨⟨q0, q1, q2, q3, q4⟩, by simpa using e0, by simpa using e1, by simpa using e2, by simpa using e3, by simpa using e4⟩
    haveI : Inhabited Pt := ⟨⟨0, false, 0, 0, 0⟩⟩
    obtain ⟨q, hq⟩ := choose_lt hv
    refine ⟨some x, len, cap, (List.range len).map q, hcs, by simp, by omega, ?_⟩
    by_cases h0 : len = 0
    · left; simp [h0, cPt]
    · right
      obtain ⟨b, off, spot⟩ := x
      have hc0 := (hq 0 (by omega)).1
      have hspot : spot = none := by simpa [Addr.add] using World.cell?_spot hc0
      subst hspot
      refine ⟨b, off, rfl, World.block_lt_of_cell? w _ hc0, fun i u hu => ?_⟩
      have hi : i < (cPt ((List.range len).map q)).length := (List.getElem?_eq_some_iff.1 hu).1
      rw [cPt_len, List.length_map, List.length_range] at hi
      have hadd : ∀ j, (⟨b, off, none⟩ : Addr).add j = ⟨b, off + j, none⟩ := fun j => by unfold Addr.add; split <;> simp_all
      obtain ⟨x0, x1, x2, x3, x4⟩ := hq (i / 5) (by omega)
      obtain ⟨z0, z1, z2, z3, z4⟩ := cPt_at ((List.range len).map q) (i / 5) (by simp; omega)
      rw [List.getElem_map, List.getElem_range] at z0 z1 z2 z3 z4
      rw [hadd] at x0 x1 x2 x3 x4
      obtain ⟨r, hr, e⟩ : ∃ r, r < 5 ∧ i = i / 5 * 5 + r := ⟨i % 5, by omega, by omega⟩
      match r, hr, e with
      | 0, _, e => rw [e] at hu ⊢; first | (rw [x0, ← hu, z0]) | (rw [Nat.add_zero] at hu ⊢; rw [x0, ← hu, z0])
      | 1, _, e => rw [e] at hu ⊢; first | (rw [x1, ← hu, z1]) | (rw [Nat.add_zero] at hu ⊢; rw [x1, ← hu, z1])
      | 2, _, e => rw [e] at hu ⊢; first | (rw [x2, ← hu, z2]) | (rw [Nat.add_zero] at hu ⊢; rw [x2, ← hu, z2])
      | 3, _, e => rw [e] at hu ⊢; first | (rw [x3, ← hu, z3]) | (rw [Nat.add_zero] at hu ⊢; rw [x3, ← hu, z3])
      | 4, _, e => rw [e] at hu ⊢; first | (rw [x4, ← hu, z4]) | (rw [Nat.add_zero] at hu ⊢; rw [x4, ← hu, z4])
end
end Go.Proofs.YthbkpdlcegakfaaDoor
