/- What a row's list gives: the library's table of trailing zeros lies in its variable. -/
import Derived.Test.YtnbifggochgagaaDoorPkI
import Derived.Lib.LaidU8
import Derived.PinnedBridge
namespace Go.Proofs.YtnbifggochgagaaDoor
open Go.ChangeShapes Go.WideShapes Go.ChangeAt Go.RowKit Go.Deep
theorem tz_reads {W : World} (h : Lib.VarReads Tryd.prog W "math/bits.deBruijn32tab" Rows.laid_math_bits_deBruijn32tab) : TzTab W := by
  obtain ⟨g, t, cs, fuel, p, hg, hty, hvar, hd⟩ := h
  obtain rfl : g = 0 := (Option.some.inj ((show Tryd.prog.globalNamed _ = some 0 by kernel_rfl).symm.trans hg)).symm
  obtain rfl : t = 64 := (Option.some.inj ((show (Tryd.prog.globals[0]?).map (·.type) = some 64 by kernel_rfl).symm.trans hty)).symm
  have hcs := Lib.cells_of_tab (zs := tzRaw.map fun x : Nat => (x : Int)) Tryd.underlying64 Tryd.underlying5 (by kernel_rfl) (by kernel_rfl) hd
  intro c hc
  rw [World.var?_cell hg hvar c, ← Array.getElem?_toList, hcs]
  have hl : tzRaw.length = 32 := by decide
  simp [hl, hc]
theorem dv_laid {W : World} (h : laidMetH Tryd.prog Rows.fnExactDiffViewRow.laid W) : TzTab W := by
  have h' : laidMet Tryd.prog Rows.fnExactDiffViewRow.laid W := h
  exact tz_reads (Lib.laidMet.reads h' (by unfold Rows.fnExactDiffViewRow; simp))
end Go.Proofs.YtnbifggochgagaaDoor
