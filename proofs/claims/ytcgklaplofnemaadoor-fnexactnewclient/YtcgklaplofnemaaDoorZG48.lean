/- Texts put together: TokL NcAll. -/
import Derived.Test.YtcgklaplofnemaaDoorZItoI
import Derived.Test.YtcgklaplofnemaaDoorZHmacM
import Derived.Lib.LaidTab
import Derived.LaidMore
import Derived.Test.YtcgklaplofnemaaDoorZCliI
import Derived.Test.YtcgklaplofnemaaDoorZCliS
import Derived.Test.YtcgklaplofnemaaDoorZCliK
/- Tokens: what the rows' lists give. -/
namespace Go.Proofs.YtcgklaplofnemaaDoor
open Go.ChangeShapes Go.WideShapes Go.ChangeAt Go.RowKit
set_option linter.unusedVariables false
def kIntsT : List Int := kN.map Int.ofNat
theorem laid_intsT : (Rows.laid_loop_example_g00308_impl_roundWords : DataW Unit) = Lib.tabData .u32 kIntsT := by kernel_rfl
theorem kIntsT_at (k : Nat) (h : k < 64) : kIntsT.getD k 0 = wI (gt kW k) := by
  have hl : k < kN.length := h
  have hlt : ∀ n ∈ kN, n < 4294967296 := by decide
  have hb := hlt kN[k] (List.getElem_mem _)
  unfold kIntsT gt kW wI
  simp [hl]
  omega
theorem kin_reads {W : World} (h : Lib.VarReads Tryd.prog W "loop.example/g00308/impl.roundWords" Rows.laid_loop_example_g00308_impl_roundWords) : KIn W := by
  rw [laid_intsT] at h
  obtain ⟨g, t, cs, fuel, p, hg, ht, hv, hd⟩ := h
  obtain rfl : g = 0 := (Option.some.inj ((show Tryd.prog.globalNamed _ = some 0 by kernel_rfl).symm.trans hg)).symm
  obtain rfl : t = 89 := (Option.some.inj ((show (Tryd.prog.globals[0]?).map (·.type) = some 89 by kernel_rfl).symm.trans ht)).symm
  have hc := Lib.cells_of_tab (zs := kIntsT) Tryd.underlying89 Tryd.underlying73 (by kernel_rfl) (by kernel_rfl) hd
  intro k hk
  have h1 := World.var?_cell hg hv k
  rw [h1, ← Array.getElem?_toList, hc]
  have hl : k < kIntsT.length := hk
  rw [List.getElem?_map, List.getElem?_eq_getElem hl, ← kIntsT_at k hk]
  simp [hl]
theorem tok_laid_FnExactNewClient {W : World} (h : laidMetH Tryd.prog Rows.fnExactNewClientRow.laid W) : PowIn W ∧ KIn W := by
  have h' : laidMet Tryd.prog Rows.fnExactNewClientRow.laid W := h
  exact ⟨pow_reads (Lib.laidMet.reads h' (by unfold Rows.fnExactNewClientRow; simp)), kin_reads (Lib.laidMet.reads h' (by unfold Rows.fnExactNewClientRow; simp))⟩
end Go.Proofs.YtcgklaplofnemaaDoor

/- NewClient: both sides. -/
