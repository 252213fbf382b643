/- Texts put together: TokL CkAll Agg4. -/
import Derived.Test.YtilnpkonhbmdpaaDoorZItoI
import Derived.Test.YtilnpkonhbmdpaaDoorZG16
import Derived.Lib.LaidTab
import Derived.LaidMore
import Derived.Test.YtilnpkonhbmdpaaDoorZCkI
import Derived.Test.YtilnpkonhbmdpaaDoorZCkS
import Derived.Test.YtilnpkonhbmdpaaDoorZCliL
import Derived.Test.YtilnpkonhbmdpaaDoorZRowV
import Derived.Lib.SmallJoins
import Derived.Deep.Strs
/- Tokens: what the rows' lists give. -/
namespace Go.Proofs.YtilnpkonhbmdpaaDoor
open Go.ChangeShapes Go.WideShapes Go.ChangeAt Go.RowKit
set_option linter.unusedVariables false
def kIntsT : List Int := kN.map Int.ofNat
theorem laid_intsT : (Rows.laid_loop_example_g00308_impl_roundWords : DataW Unit) = Lib.tabData .u32 kIntsT := by kernel_rfl
theorem kIntsT_at (k : Nat) (h : k < 64) : kIntsT.getD k 0 = wI (gt kW k) := by
  have hl : k < kN.length := h
  have hlt : ∀ n ∈ kN, n < 4294967296 := by decide
  have hb := hlt kN[k] (List.getElem_mem _)
  unfold kIntsT gt kW wI
  simp [hl]
  omega
theorem kin_reads {W : World} (h : Lib.VarReads Tryd.prog W "loop.example/g00308/impl.roundWords" Rows.laid_loop_example_g00308_impl_roundWords) : KIn W := by
  rw [laid_intsT] at h
  obtain ⟨g, t, cs, fuel, p, hg, ht, hv, hd⟩ := h
  obtain rfl : g = 0 := (Option.some.inj ((show Tryd.prog.globalNamed _ = some 0 by kernel_rfl).symm.trans hg)).symm
  obtain rfl : t = 110 := (Option.some.inj ((show (Tryd.prog.globals[0]?).map (·.type) = some 110 by kernel_rfl).symm.trans ht)).symm
  have hc := Lib.cells_of_tab (zs := kIntsT) Tryd.underlying110 Tryd.underlying84 (by kernel_rfl) (by kernel_rfl) hd
  intro k hk
  have h1 := World.var?_cell hg hv k
  rw [h1, ← Array.getElem?_toList, hc]
  have hl : k < kIntsT.length := hk
  rw [List.getElem?_map, List.getElem?_eq_getElem hl, ← kIntsT_at k hk]
  simp [hl]
theorem tok_laid_FnExactClientOK {W : World} (h : laidMetH Tryd.prog Rows.fnExactClientOKRow.laid W) : PowIn W ∧ KIn W := by
  have h' : laidMet Tryd.prog Rows.fnExactClientOKRow.laid W := h
  exact ⟨pow_reads (Lib.laidMet.reads h' (by unfold Rows.fnExactClientOKRow; simp)), kin_reads (Lib.laidMet.reads h' (by unfold Rows.fnExactClientOKRow; simp))⟩
end Go.Proofs.YtilnpkonhbmdpaaDoor

/- ClientOK: both sides. -/

/- A struct of 4 one-cell fields that came in by value, opened; a slice of pairs of integers and a slice of texts that came in lead to rows of these. -/

namespace Go.Proofs.YtilnpkonhbmdpaaDoor
open Go.ChangeShapes Go.WideShapes Go.ChangeAt Go.RowKit Go.Deep
section
variable {H : Type} {enc : TypeId × Value → H} {P : Program} {w : World} {base : Nat} {spare : Nat → Bool} {held : Bool}
theorem trod_struct4 {t : TypeId} {f0 f1 f2 f3 : Field} {fuel : Nat} {cs : List Value} {x : DataW H × List MemPlace} (ht : P.underlying t = some (.struct #[f0, f1, f2, f3])) (h : DataW.trod enc P w base spare held fuel t cs = some x) :
    ∃ y0 y1 y2 y3 n, DataW.trod enc P w base spare held n f0.type ((cs.drop f0.offset).take (P.cellsOf f0.type)) = some y0 ∧ DataW.trod enc P w base spare held n f1.type ((cs.drop f1.offset).take (P.cellsOf f1.type)) = some y1 ∧ DataW.trod enc P w base spare held n f2.type ((cs.drop f2.offset).take (P.cellsOf f2.type)) = some y2 ∧ DataW.trod enc P w base spare held n f3.type ((cs.drop f3.offset).take (P.cellsOf f3.type)) = some y3 := by
  obtain ⟨xs, n, _, _, hl, hlen, hf⟩ := DataW.trod_struct ht h
  match xs, hlen, hf with
  | [y0, y1, y2, y3], _, hf => exact ⟨y0, y1, y2, y3, n, by simpa using hf 0 f0 rfl, by simpa using hf 1 f1 rfl, by simpa using hf 2 f2 rfl, by simpa using hf 3 f3 rfl⟩
end
end Go.Proofs.YtilnpkonhbmdpaaDoor
