/- What a row's list gives: the table of steps lies in its variable. -/
import Derived.Test.YtgggghgbgndmhaaDoorStepI
import Derived.Test.YtgggghgbgndmhaaDoorAgg5
import Derived.OpenVars
import Derived.LaidMore
namespace Go.Proofs.YtgggghgbgndmhaaDoor
open Go.ChangeShapes Go.WideShapes Go.ChangeAt Go.RowKit Go.Deep
theorem steps_cells {W : World} {H : Type} {enc : TypeId × Value → H} {base : Nat} {sp : Nat → Bool} {held : Bool} {fuel : Nat} {cs : Array Value} {p : List MemPlace}
    (hv : W.var? Tryd.prog "loop.example/g00308/impl.stateSteps" = some cs) (hd : DataW.trod enc Tryd.prog W base sp held fuel 87 cs.toList = some (Rows.laid_loop_example_g00308_impl_stateSteps, p)) : StepsIn W := by
  have hg : Tryd.prog.globalNamed "loop.example/g00308/impl.stateSteps" = some 4 := by kernel_rfl
  have hc := rows5_of_trod (R := stepRaw) Tryd.underlying87 Tryd.underlying68 (by kernel_rfl) (by kernel_rfl) Tryd.underlying3 Tryd.underlying3 Tryd.underlying3 Tryd.underlying3 Tryd.underlying3 hd
  intro k r hr
  unfold stepTab at hr
  rw [List.getElem?_map] at hr
  obtain ⟨x, hx, rfl⟩ := Option.map_eq_some_iff.1 hr
  obtain ⟨c0, c1, c2, c3, c4⟩ := hc k x hx
  rw [Array.getElem?_toList] at c0 c1 c2 c3 c4
  exact ⟨(World.var?_cell hg hv _).trans c0, (World.var?_cell hg hv _).trans c1, (World.var?_cell hg hv _).trans c2, (World.var?_cell hg hv _).trans c3, (World.var?_cell hg hv _).trans c4⟩
theorem steps_laid {W : World} (h : laidMetH Tryd.prog [("loop.example/g00308/impl.stateSteps", Rows.laid_loop_example_g00308_impl_stateSteps)] W) : StepsIn W := by
  obtain ⟨ps, ⟨g, t, cs, fuel, p, q, hg, ht, hv, hd, _, _⟩, _⟩ := h
  obtain rfl : g = 4 := (Option.some.inj ((show Tryd.prog.globalNamed _ = some 4 by kernel_rfl).symm.trans hg)).symm
  obtain rfl : t = 87 := (Option.some.inj ((show (Tryd.prog.globals[4]?).map (·.type) = some 87 by kernel_rfl).symm.trans ht)).symm
  exact steps_cells hv hd
end Go.Proofs.YtgggghgbgndmhaaDoor
