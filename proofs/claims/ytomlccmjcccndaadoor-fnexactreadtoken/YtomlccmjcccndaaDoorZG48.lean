/- Texts put together: TokL RdtL RdtAll. -/
import Derived.Test.YtomlccmjcccndaaDoorZItoI
import Derived.Test.YtomlccmjcccndaaDoorZHmacM
import Derived.Lib.LaidTab
import Derived.LaidMore
import Derived.Test.YtomlccmjcccndaaDoorZRdtT
import Derived.Lib.LaidU8
import Derived.Test.YtomlccmjcccndaaDoorZRdtJ
import Derived.Test.YtomlccmjcccndaaDoorZRdtS
/- Tokens: what the rows' lists give. -/
namespace Go.Proofs.YtomlccmjcccndaaDoor
open Go.ChangeShapes Go.WideShapes Go.ChangeAt Go.RowKit
set_option linter.unusedVariables false
def kIntsT : List Int := kN.map Int.ofNat
theorem laid_intsT : (Rows.laid_loop_example_g00308_impl_roundWords : DataW Unit) = Lib.tabData .u32 kIntsT := by kernel_rfl
theorem kIntsT_at (k : Nat) (h : k < 64) : kIntsT.getD k 0 = wI (gt kW k) := by
  have hl : k < kN.length := h
  have hlt : ∀ n ∈ kN, n < 4294967296 := by decide
  have hb := hlt kN[k] (List.getElem_mem _)
  unfold kIntsT gt kW wI
  simp [hl]
  omega
theorem kin_reads {W : World} (h : Lib.VarReads Tryd.prog W "loop.example/g00308/impl.roundWords" Rows.laid_loop_example_g00308_impl_roundWords) : KIn W := by
  rw [laid_intsT] at h
  obtain ⟨g, t, cs, fuel, p, hg, ht, hv, hd⟩ := h
  obtain rfl : g = 3 := (Option.some.inj ((show Tryd.prog.globalNamed _ = some 3 by kernel_rfl).symm.trans hg)).symm
  obtain rfl : t = 104 := (Option.some.inj ((show (Tryd.prog.globals[3]?).map (·.type) = some 104 by kernel_rfl).symm.trans ht)).symm
  have hc := Lib.cells_of_tab (zs := kIntsT) Tryd.underlying104 Tryd.underlying67 (by kernel_rfl) (by kernel_rfl) hd
  intro k hk
  have h1 := World.var?_cell hg hv k
  rw [h1, ← Array.getElem?_toList, hc]
  have hl : k < kIntsT.length := hk
  rw [List.getElem?_map, List.getElem?_eq_getElem hl, ← kIntsT_at k hk]
  simp [hl]
end Go.Proofs.YtomlccmjcccndaaDoor

/- ReadToken: what the row's list gives. -/
namespace Go.Proofs.YtomlccmjcccndaaDoor
open Go.ChangeShapes Go.WideShapes Go.ChangeAt Go.RowKit
set_option linter.unusedVariables false
theorem sp_eq : (Rows.laid_strings_asciiSpace : DataW Unit) = Lib.tabData .u8 Lib.asciiSpaceTab := by kernel_rfl
theorem sp_reads {W : World} (h : Lib.VarReads Tryd.prog W "strings.asciiSpace" Rows.laid_strings_asciiSpace) : SpIn W := by
  rw [sp_eq] at h
  obtain ⟨g, t, cs, fuel, p, hg, ht, hv, hd⟩ := h
  obtain rfl : g = 0 := (Option.some.inj ((show Tryd.prog.globalNamed _ = some 0 by kernel_rfl).symm.trans hg)).symm
  obtain rfl : t = 49 := (Option.some.inj ((show (Tryd.prog.globals[0]?).map (·.type) = some 49 by kernel_rfl).symm.trans ht)).symm
  have hcs := Lib.cells_of_tab (zs := Lib.asciiSpaceTab) Tryd.underlying49 Tryd.underlying5 (by kernel_rfl) (by kernel_rfl) hd
  unfold SpIn Lib.TabIs
  rw [hv, ← hcs]
theorem ws_eq : (Rows.laid_unicode_White_Space : DataW Unit) = Lib.whiteData := by kernel_rfl
theorem ws_reads {W : World} (h : Lib.VarReads Tryd.prog W "unicode.White_Space" Rows.laid_unicode_White_Space) : Lib.WhiteTab 2 W := by
  rw [ws_eq] at h
  exact whiteTab_of_reads (ρ := Tryd.lays157_ren) { Tryd.lays157 with } ⟨by kernel_rfl, by kernel_rfl, by kernel_rfl, by kernel_rfl, by kernel_rfl, by kernel_rfl, by kernel_rfl, by kernel_rfl⟩ h
theorem iface_cellT {W : World} {n : String} {g0 t0 : Nat} {ms : Array (String × TypeId)} {nm : String} {d : DataW Unit} (hg0 : Tryd.prog.globalNamed n = some g0) (ht0 : (Tryd.prog.globals[g0]?).map (·.type) = some t0) (hi : Tryd.prog.underlying t0 = some (.interface ms))
    (h : Lib.VarReads Tryd.prog W n (.iface nm d)) : ErrV g0 W := by
  obtain ⟨g, t, cs, fuel, p, hg, ht, hv, hd⟩ := h
  obtain rfl : g = g0 := (Option.some.inj (hg0.symm.trans hg)).symm
  obtain rfl : t = t0 := (Option.some.inj (ht0.symm.trans ht)).symm
  obtain ⟨f2, u, v, e, _, _⟩ := iface_of_trod hi hd
  refine ⟨u, v, ?_⟩
  have hc := World.var?_cell hg hv 0
  rw [hc, ← Array.getElem?_toList, e]; rfl
theorem rdt_laid {W : World} (h : laidMetH Tryd.prog Rows.fnExactReadTokenRow.laid W) : TokW W := by
  have h' : laidMet Tryd.prog Rows.fnExactReadTokenRow.laid W := h
  exact ⟨pow_reads (Lib.laidMet.reads h' (by unfold Rows.fnExactReadTokenRow; simp)), kin_reads (Lib.laidMet.reads h' (by unfold Rows.fnExactReadTokenRow; simp)), sp_reads (Lib.laidMet.reads h' (by unfold Rows.fnExactReadTokenRow; simp)), ws_reads (Lib.laidMet.reads h' (by unfold Rows.fnExactReadTokenRow; simp)),
    iface_cellT (by kernel_rfl) (by kernel_rfl) Tryd.underlying53 (show Lib.VarReads Tryd.prog W "strconv.ErrSyntax" Rows.laid_strconv_ErrSyntax from Lib.laidMet.reads h' (by unfold Rows.fnExactReadTokenRow; simp)), iface_cellT (by kernel_rfl) (by kernel_rfl) Tryd.underlying53 (show Lib.VarReads Tryd.prog W "strconv.ErrRange" Rows.laid_strconv_ErrRange from Lib.laidMet.reads h' (by unfold Rows.fnExactReadTokenRow; simp))⟩
end Go.Proofs.YtomlccmjcccndaaDoor

/- ReadToken: both sides. -/
