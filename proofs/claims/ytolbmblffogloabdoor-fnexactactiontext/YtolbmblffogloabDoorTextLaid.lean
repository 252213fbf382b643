/- What the row's list gives for ActionText: the table of steps and the powers of ten lie in their variables. -/
import Derived.Test.YtolbmblffogloabDoorTextJ
import Derived.Test.YtolbmblffogloabDoorStepLaid
import Derived.Lib.LaidU8
namespace Go.Proofs.YtolbmblffogloabDoor
open Go.ChangeShapes Go.WideShapes Go.ChangeAt Go.RowKit
theorem steps_reads {W : World} (h : Lib.VarReads Tryd.prog W "loop.example/g00308/impl.stateSteps" Rows.laid_loop_example_g00308_impl_stateSteps) : StepsIn W := by
  obtain ⟨g, t, cs, fuel, p, hg, ht, hv, hd⟩ := h
  obtain rfl : g = 3 := (Option.some.inj ((show Tryd.prog.globalNamed _ = some 3 by kernel_rfl).symm.trans hg)).symm
  obtain rfl : t = 105 := (Option.some.inj ((show (Tryd.prog.globals[3]?).map (·.type) = some 105 by kernel_rfl).symm.trans ht)).symm
  exact steps_cells hv hd
theorem pow_eq : (Rows.laid_internal_strconv_uint64pow10 : DataW Unit) = Lib.tabData .u64 Lib.pow10Tab := by kernel_rfl
theorem pow_reads {W : World} (h : Lib.VarReads Tryd.prog W "internal/strconv.uint64pow10" Rows.laid_internal_strconv_uint64pow10) : PowIn W := by
  rw [pow_eq] at h
  obtain ⟨g, t, cs, fuel, p, hg, ht, hv, hd⟩ := h
  obtain rfl : g = 8 := (Option.some.inj ((show Tryd.prog.globalNamed _ = some 8 by kernel_rfl).symm.trans hg)).symm
  obtain rfl : t = 150 := (Option.some.inj ((show (Tryd.prog.globals[8]?).map (·.type) = some 150 by kernel_rfl).symm.trans ht)).symm
  have hcs := Lib.cells_of_tab (zs := Lib.pow10Tab) Tryd.underlying150 Tryd.underlying141 (by kernel_rfl) (by kernel_rfl) hd
  unfold PowIn Lib.TabIs
  rw [hv, ← hcs]
/-- All tables that ActionText's road reads. -/
def TextTabs (w : World) : Prop := StepsIn w ∧ PowIn w
theorem text_laid {W : World} (h : laidMetH Tryd.prog Rows.fnExactActionTextRow.laid W) : TextTabs W := by
  have h' : laidMet Tryd.prog Rows.fnExactActionTextRow.laid W := h
  exact ⟨steps_reads (Lib.laidMet.reads h' (by unfold Rows.fnExactActionTextRow; simp)), pow_reads (Lib.laidMet.reads h' (by unfold Rows.fnExactActionTextRow; simp))⟩
theorem PowIn.pos {w : World} (hp : PowIn w) : 8 < w.heap.size := by
  unfold PowIn Lib.TabIs World.var? at hp
  rw [pow_named] at hp
  rcases Nat.lt_or_ge 8 w.heap.size with h | h
  · exact h
  · simp only [Option.bind_some] at hp; rw [Array.getElem?_eq_none h] at hp; cases hp
end Go.Proofs.YtolbmblffogloabDoor
