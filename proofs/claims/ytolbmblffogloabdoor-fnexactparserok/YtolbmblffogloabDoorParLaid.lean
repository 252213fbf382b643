/- What a row's list gives: what the states keep, and unicode/utf8's two tables, lie in their variables. -/
import Derived.Test.YtolbmblffogloabDoorParI
import Derived.Test.YtolbmblffogloabDoorStepLaid
import Derived.Lib.LaidU8
import Derived.PinnedBridge
namespace Go.Proofs.YtolbmblffogloabDoor
open Go.ChangeShapes Go.WideShapes Go.ChangeAt Go.RowKit Go.Deep
section
variable {H : Type} {enc : TypeId × Value → H} {P : Program} {w : World} {base : Nat} {spare : Nat → Bool} {held : Bool}
/-- An array of structs of three bools that reads as the rows of a list holds them, cell for cell. -/
theorem rows3_of_trod {fuel : Nat} {t e : TypeId} {n : Nat} {f0 f1 f2 : Field} {cs : List Value} {R : List (Bool × Bool × Bool)} {p : List MemPlace}
    (ht : P.underlying t = some (.array n e)) (hs : P.underlying e = some (.struct #[f0, f1, f2])) (hone : oneCellFields P #[f0, f1, f2] = true) (hce : P.cellsOf e = 3)
    (i0 : P.underlying f0.type = some .bool) (i1 : P.underlying f1.type = some .bool) (i2 : P.underlying f2.type = some .bool)
    (h : DataW.trod enc P w base spare held fuel t cs = some (.agg (R.map fun r => .agg [.lit (.bool r.1), .lit (.bool r.2.1), .lit (.bool r.2.2)]), p)) :
    ∀ k r, R[k]? = some r → cs[k * 3]? = some (.bool r.1) ∧ cs[k * 3 + 1]? = some (.bool r.2.1) ∧ cs[k * 3 + 2]? = some (.bool r.2.2) := by
  obtain ⟨xs, m, rfl, hx, hlen, hn, hel⟩ := DataW.trod_array ht h
  intro k r hr
  simp only [Prod.mk.injEq, DataW.agg.injEq] at hx
  have h2 := congrArg (fun l => l[k]?) hx.1
  simp only [List.getElem?_map, hr, Option.map_some] at h2
  obtain ⟨x, hxk, hx1⟩ := Option.map_eq_some_iff.1 h2.symm
  have hkx : k < xs.length := (List.getElem?_eq_some_iff.1 hxk).1
  have h1 := hel k (by omega)
  rw [hxk, hce] at h1
  obtain ⟨ys, m2, _, rfl, hl, hyl, hf⟩ := DataW.trod_struct hs h1
  obtain ⟨o0, k0⟩ := hone_of hone 0 f0 rfl
  obtain ⟨o1, k1⟩ := hone_of hone 1 f1 rfl
  obtain ⟨o2, k2⟩ := hone_of hone 2 f2 rfl
  match ys, hyl, hf, hx1 with
  | [y0, y1, y2], _, hf, hx1 =>
    simp only [List.map_cons, List.map_nil, DataW.agg.injEq, List.cons.injEq, and_true] at hx1
    obtain ⟨g0, g1, g2⟩ := hx1
    have z0 := hf 0 f0 rfl
    have z1 := hf 1 f1 rfl
    have z2 := hf 2 f2 rfl
    rw [o0, k0] at z0
    rw [o1, k1] at z1
    rw [o2, k2] at z2
    obtain ⟨a0, e0, q0⟩ := DataW.trod_bool i0 z0
    obtain ⟨a1, e1, q1⟩ := DataW.trod_bool i1 z1
    obtain ⟨a2, e2, q2⟩ := DataW.trod_bool i2 z2
    subst q0 q1 q2
    simp only [DataW.lit.injEq, Lit.bool.injEq] at g0 g1 g2
    subst g0 g1 g2
    have c0 := congrArg (fun l => l[0]?) e0
    have c1 := congrArg (fun l => l[0]?) e1
    have c2 := congrArg (fun l => l[0]?) e2
    simp [List.getElem?_drop] at c0 c1 c2
    exact ⟨c0, c1, c2⟩
end
def keepRaw : List (Bool × Bool × Bool) := [(false, false, false), (false, false, false), (true, false, false), (false, false, false), (false, true, false), (false, true, false), (false, false, true)]
theorem keep_at : ∀ k, k < 7 → keepRaw[k]? = some (decide (k = 2), decide (k = 4 ∨ k = 5), decide (k = 6)) := by decide
theorem keeps_reads {W : World} (h : Lib.VarReads Tryd.prog W "loop.example/g00308/impl.stateKeeps" Rows.laid_loop_example_g00308_impl_stateKeeps) : KeepsIn W := by
  obtain ⟨g, t, cs, fuel, p, hg, ht, hv, hd⟩ := h
  obtain rfl : g = 0 := (Option.some.inj ((show Tryd.prog.globalNamed _ = some 0 by kernel_rfl).symm.trans hg)).symm
  obtain rfl : t = 74 := (Option.some.inj ((show (Tryd.prog.globals[0]?).map (·.type) = some 74 by kernel_rfl).symm.trans ht)).symm
  have hc := rows3_of_trod (R := keepRaw) Tryd.underlying74 Tryd.underlying73 (by kernel_rfl) (by kernel_rfl) Tryd.underlying4 Tryd.underlying4 Tryd.underlying4 hd
  intro k hk
  obtain ⟨c0, c1, c2⟩ := hc k _ (keep_at k hk)
  rw [Array.getElem?_toList] at c0 c1 c2
  exact ⟨(World.var?_cell hg hv _).trans c0, (World.var?_cell hg hv _).trans c1, (World.var?_cell hg hv _).trans c2⟩
theorem accept_eq : (Rows.laid_unicode_utf8_acceptRanges : DataW Unit) = Lib.acceptData := by kernel_rfl
theorem runes_reads {W : World} (h3 : Lib.VarReads Tryd.prog W "unicode/utf8.first" Rows.laid_unicode_utf8_first) (h4 : Lib.VarReads Tryd.prog W "unicode/utf8.acceptRanges" Rows.laid_unicode_utf8_acceptRanges) : RuneTabs W := by
  rw [accept_eq] at h4
  rw [show Rows.laid_unicode_utf8_first = Lib.firstData from Pinned.utf8First_eq] at h3
  refine ⟨fun c hc => ?_, fun i hi => ?_⟩
  · obtain ⟨g, t, cs, fuel, p, hg, hty, hvar, hd⟩ := h3
    obtain rfl : g = 6 := (Option.some.inj ((show Tryd.prog.globalNamed _ = some 6 by kernel_rfl).symm.trans hg)).symm
    obtain rfl : t = 120 := (Option.some.inj ((show (Tryd.prog.globals[6]?).map (·.type) = some 120 by kernel_rfl).symm.trans hty)).symm
    have hcs := Lib.cells_of_tab (zs := Lib.firstTab) Tryd.underlying120 Tryd.underlying5 (by kernel_rfl) (by kernel_rfl) hd
    rw [World.var?_cell hg hvar c, ← Array.getElem?_toList, hcs]
    simp [Lib.firstTab, hc]
  · obtain ⟨g, t, cs, fuel, p, hg, hty, hvar, hd⟩ := h4
    obtain rfl : g = 7 := (Option.some.inj ((show Tryd.prog.globalNamed _ = some 7 by kernel_rfl).symm.trans hg)).symm
    obtain rfl : t = 123 := (Option.some.inj ((show (Tryd.prog.globals[7]?).map (·.type) = some 123 by kernel_rfl).symm.trans hty)).symm
    obtain ⟨fuel', d, q, hdi, he⟩ := Lib.array_elem Tryd.underlying123 hd i hi
    simp only [List.getElem?_map, List.getElem?_range hi, Option.map_some, Option.some.injEq] at hdi
    subst hdi
    rw [show Tryd.prog.cellsOf 122 = 2 by kernel_rfl] at he
    have hcs := Lib.ints_of_struct Tryd.underlying122 (fun j f hj => by
      match j, hj with
      | 0, hj => simp at hj; subst hj; exact ⟨Tryd.underlying5, rfl, by kernel_rfl⟩
      | 1, hj => simp at hj; subst hj; exact ⟨Tryd.underlying5, rfl, by kernel_rfl⟩
      | j + 2, hj => simp at hj) (by kernel_rfl) he
    have e0 := congrArg (fun l => l[0]?) hcs
    have e1 := congrArg (fun l => l[1]?) hcs
    simp [List.getElem?_drop] at e0 e1
    rw [World.var?_cell hg hvar _, World.var?_cell hg hvar _, Nat.mul_comm 2 i]
    exact ⟨e0, e1⟩
/-- All tables that ParserOK's road reads. -/
def ParTabs (w : World) : Prop := KeepsIn w ∧ RuneTabs w
theorem par_laid {W : World} (h : laidMetH Tryd.prog Rows.fnExactParserOKRow.laid W) : ParTabs W := by
  have h' : laidMet Tryd.prog Rows.fnExactParserOKRow.laid W := h
  exact ⟨keeps_reads (Lib.laidMet.reads h' (by unfold Rows.fnExactParserOKRow; simp)), runes_reads (Lib.laidMet.reads h' (by unfold Rows.fnExactParserOKRow; simp)) (Lib.laidMet.reads h' (by unfold Rows.fnExactParserOKRow; simp))⟩
end Go.Proofs.YtolbmblffogloabDoor
