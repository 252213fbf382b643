/- The round words as the program's text lays them. -/
import Derived.Test.YtolbmblffogloaaDoorHmacM
import Derived.Lib.LaidTab
namespace Go.Proofs.YtolbmblffogloaaDoor
open Go.ChangeShapes Go.WideShapes Go.ChangeAt Go.RowKit
def kInts : List Int := kN.map Int.ofNat
theorem laid_ints : (Rows.laid_loop_example_g00308_impl_roundWords : DataW Unit) = Lib.tabData .u32 kInts := by kernel_rfl
theorem kInts_at (k : Nat) (h : k < 64) : kInts.getD k 0 = wI (gt kW k) := by
  have hl : k < kN.length := h
  have hlt : ∀ n ∈ kN, n < 4294967296 := by decide
  have hb := hlt kN[k] (List.getElem_mem _)
  unfold kInts gt kW wI
  simp [hl]
  omega
/-- What the row's list gives: the round words lie in their variable. -/
theorem rounds_laid2 {W : World} (h : laidMetH Tryd.prog Rows.fnHmacRow.laid W) : KIn W := by
  obtain ⟨ps, ⟨g, t, cs, fuel, p, q, hg, ht, hv, hd, _, _⟩, _⟩ := h
  obtain rfl : g = 5 := (Option.some.inj ((show Tryd.prog.globalNamed _ = some 5 by kernel_rfl).symm.trans hg)).symm
  obtain rfl : t = 155 := (Option.some.inj ((show (Tryd.prog.globals[5]?).map (·.type) = some 155 by kernel_rfl).symm.trans ht)).symm
  rw [laid_ints] at hd
  have hc := Lib.cells_of_tab (zs := kInts) Tryd.underlying155 Tryd.underlying116 (by kernel_rfl) (by kernel_rfl) hd
  intro k hk
  have h1 := World.var?_cell hg hv k
  rw [h1, ← Array.getElem?_toList, hc]
  have hl : k < kInts.length := hk
  rw [List.getElem?_map, List.getElem?_eq_getElem hl, ← kInts_at k hk]
  simp [hl]
end Go.Proofs.YtolbmblffogloaaDoor
