/- Texts put together: FtkAll RowInts. -/
import Derived.Test.YtofkdkglohllpaaGreatDoorZG33
import Derived.Test.YtofkdkglohllpaaGreatDoorZRdtJ
import Derived.Test.YtofkdkglohllpaaGreatDoorZRdtS
import Derived.Test.YtofkdkglohllpaaGreatDoorZG43
import Derived.Test.YtofkdkglohllpaaGreatDoorZG44
import Derived.Test.YtofkdkglohllpaaGreatDoorZSrcB
import Derived.Test.YtofkdkglohllpaaGreatDoorZG47
import Derived.Test.YtofkdkglohllpaaGreatDoorZDigS
import Derived.Test.YtofkdkglohllpaaGreatDoorZBase
/- FnTokens: all that its walk wants. -/
namespace Go.Proofs.YtofkdkglohllpaaGreatDoor
open Go.ChangeShapes Go.WideShapes Go.ChangeAt Go.RowKit
/-- Both read a text alike. -/
theorem rt_both (key t : ByteArray) (HK : Hid (key.size ≤ 65536)) (HT : Hid (t.size ≤ 65536)) : ∃ (rc : Int) (rw : ByteArray) (rn q : Int),
    (∀ w : World, TokW w → Calls Tryz.prog 8 #[.string key, .string t] w fun e w' => e = .returned (.tuple #[.int .i64 rc, .string rw, .int .i64 rn, .int .i64 q]) ∧ Below w.heap.size w w') ∧
    (∀ w : World, Calls Tryz.prog 10 #[.string key, .string t] w fun e w' => e = .returned (.tuple #[.int .i64 rc, .string rw, .int .i64 rn, .int .i64 q]) ∧ Below w.heap.size w w') := by
  rcases rd_cases key t with ⟨rc, rw, rn, q, hr⟩ | hr
  · exact ⟨rc, rw, rn, q, fun w h => irtok key t HK HT rc rw rn q (hide hr) w h, fun w => srtok key t HK HT rc rw rn q (hide hr) w⟩
  · exact ⟨0, ⟨#[]⟩, 0, 3, fun w h => irtno key t HK HT (hide hr) w h, fun w => srtno key t HK HT (hide hr) w⟩
theorem ftk_laid {W : World} (h : laidMetH Tryz.prog Rows.fnTokensRow.laid W) : TokW W := by
  have h' : laidMet Tryz.prog Rows.fnTokensRow.laid W := h
  exact ⟨pow_reads (Lib.laidMet.reads h' (by unfold Rows.fnTokensRow; simp)), kin_reads (Lib.laidMet.reads h' (by unfold Rows.fnTokensRow; simp)), sp_reads (Lib.laidMet.reads h' (by unfold Rows.fnTokensRow; simp)), ws_reads (Lib.laidMet.reads h' (by unfold Rows.fnTokensRow; simp)),
    iface_cellT (by kernel_rfl) (by kernel_rfl) Tryz.underlying53 (show Lib.VarReads Tryz.prog W "strconv.ErrSyntax" Rows.laid_strconv_ErrSyntax from Lib.laidMet.reads h' (by unfold Rows.fnTokensRow; simp)), iface_cellT (by kernel_rfl) (by kernel_rfl) Tryz.underlying53 (show Lib.VarReads Tryz.prog W "strconv.ErrRange" Rows.laid_strconv_ErrRange from Lib.laidMet.reads h' (by unfold Rows.fnTokensRow; simp))⟩
end Go.Proofs.YtofkdkglohllpaaGreatDoor

/- A slice of bytes that came in leads to a row of bytes. -/
namespace Go.Proofs.YtofkdkglohllpaaGreatDoor
open Go.ChangeShapes Go.WideShapes Go.ChangeAt Go.RowKit
theorem row8_ints {w : World} {x : Addr} {len cap : Nat} {zs : List Int} (hl : len ≤ cap) (hz : zs.length = cap) (hcell : ∀ i, i < zs.length → w.cell? (x.add i) = some (.int .u8 (zs.getD i 0))) (hwz : ∀ n ∈ zs, (Lit.int .u8 n).wf = true) :
    ∃ l : List UInt8, l.length = len ∧ Row8 w (some x) l := by
  refine ⟨(zs.take len).map (fun n => UInt8.ofNat n.toNat), by simp; omega, ?_⟩
  by_cases h0 : len = 0
  · left; simp [h0]
  · right
    obtain ⟨b, off, spot⟩ := x
    have hc := hcell 0 (by omega)
    have hspot : spot = none := by simpa [Addr.add] using World.cell?_spot hc
    subst hspot
    refine ⟨b, off, rfl, World.block_lt_of_cell? w _ hc, fun i hi => ?_⟩
    have hi' : i < len := by simp at hi; omega
    have hci := hcell i (by omega)
    have hlt : i < zs.length := by omega
    have hg : zs.getD i 0 = zs[i] := by simp [hlt]
    have hmem : zs.getD i 0 ∈ zs := by rw [hg]; exact List.getElem_mem _
    have hb := bounds_u8 (hwz _ hmem)
    rw [show (⟨b, off, none⟩ : Addr).add i = ⟨b, off + i, none⟩ from by unfold Addr.add; split <;> simp_all] at hci
    rw [hci]
    have e1 : ((zs.take len).map (fun n => UInt8.ofNat n.toNat))[i] = UInt8.ofNat (zs.getD i 0).toNat := by
      rw [List.getElem_map, List.getElem_take, hg]
    rw [e1, UInt8.toNat_ofNat']
    congr 2
    omega
end Go.Proofs.YtofkdkglohllpaaGreatDoor
