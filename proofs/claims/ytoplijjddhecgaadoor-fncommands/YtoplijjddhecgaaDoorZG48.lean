/- Texts put together: CoAll RowInts. -/
import Derived.Test.YtoplijjddhecgaaDoorZCrS
import Derived.Test.YtoplijjddhecgaaDoorZCrJ
import Derived.Test.YtoplijjddhecgaaDoorZCbI
import Derived.Test.YtoplijjddhecgaaDoorZCbS
import Derived.Test.YtoplijjddhecgaaDoorZCmdI
import Derived.Test.YtoplijjddhecgaaDoorZCmdS
import Derived.Test.YtoplijjddhecgaaDoorZG41
import Derived.Test.YtoplijjddhecgaaDoorZSrcD
import Derived.Test.YtoplijjddhecgaaDoorZLawL
import Derived.Test.YtoplijjddhecgaaDoorZReadFT
import Derived.Test.YtoplijjddhecgaaDoorZBase
/- All that the walk of FnCommands names. -/

/- A slice of bytes that came in leads to a row of bytes. -/
namespace Go.Proofs.YtoplijjddhecgaaDoor
open Go.ChangeShapes Go.WideShapes Go.ChangeAt Go.RowKit
theorem row8_ints {w : World} {x : Addr} {len cap : Nat} {zs : List Int} (hl : len ≤ cap) (hz : zs.length = cap) (hcell : ∀ i, i < zs.length → w.cell? (x.add i) = some (.int .u8 (zs.getD i 0))) (hwz : ∀ n ∈ zs, (Lit.int .u8 n).wf = true) :
    ∃ l : List UInt8, l.length = len ∧ Row8 w (some x) l := by
  refine ⟨(zs.take len).map (fun n => UInt8.ofNat n.toNat), by simp; omega, ?_⟩
  by_cases h0 : len = 0
  · left; simp [h0]
  · right
    obtain ⟨b, off, spot⟩ := x
    have hc := hcell 0 (by omega)
    have hspot : spot = none := by simpa [Addr.add] using World.cell?_spot hc
    subst hspot
    refine ⟨b, off, rfl, World.block_lt_of_cell? w _ hc, fun i hi => ?_⟩
    have hi' : i < len := by simp at hi; omega
    have hci := hcell i (by omega)
    have hlt : i < zs.length := by omega
    have hg : zs.getD i 0 = zs[i] := by simp [hlt]
    have hmem : zs.getD i 0 ∈ zs := by rw [hg]; exact List.getElem_mem _
    have hb := bounds_u8 (hwz _ hmem)
    rw [show (⟨b, off, none⟩ : Addr).add i = ⟨b, off + i, none⟩ from by unfold Addr.add; split <;> simp_all] at hci
    rw [hci]
    have e1 : ((zs.take len).map (fun n => UInt8.ofNat n.toNat))[i] = UInt8.ofNat (zs.getD i 0).toNat := by
      rw [List.getElem_map, List.getElem_take, hg]
    rw [e1, UInt8.toNat_ofNat']
    congr 2
    omega
end Go.Proofs.YtoplijjddhecgaaDoor
