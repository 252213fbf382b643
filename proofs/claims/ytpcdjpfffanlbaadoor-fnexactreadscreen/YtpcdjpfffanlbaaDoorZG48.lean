/- Texts put together: RcA RowInts. -/
import Derived.Test.YtpcdjpfffanlbaaDoorZRcY
import Derived.Test.YtpcdjpfffanlbaaDoorZG46
import Derived.Test.YtpcdjpfffanlbaaDoorZScrL
import Derived.Test.YtpcdjpfffanlbaaDoorZNewU
import Derived.Test.YtpcdjpfffanlbaaDoorZBase
/- ReadScreen: all that its walk names. -/
namespace Go.Proofs.YtpcdjpfffanlbaaDoor
open Go.ChangeShapes Go.WideShapes Go.ChangeAt Go.RowKit
set_option linter.unusedVariables false
theorem rs_len {l : List UInt8} {i0 i1 i2 i3 i4 i5 i6 i7 i8 : Int} {t : ByteArray} {L : List (Int × Int)} {m : List ByteArray} {c : Int} (h : RsIs l i0 i1 i2 i3 i4 i5 i6 i7 i8 t L m c) : L.length ≤ 240 ∧ m.length ≤ 60 := by
 rcases h with ⟨-, -, d, f, rs, -, -, -, hf, -, -, hk⟩ | ⟨-, -, -, -, -, -, -, -, -, -, rfl, rfl, -⟩
 ·refine ⟨?_, rf_lenS hf⟩
  obtain ⟨h1, h2⟩ := ok_size hk
  have hw : 2 ≤ i0 ∧ i0 ≤ 24 ∧ 2 ≤ i1 ∧ i1 ≤ 10 := by unfold sizeB at h1; exact of_decide_eq_true h1
  obtain ⟨W, rfl⟩ : ∃ W : Nat, i0 = (W : Int) := ⟨i0.toNat, by omega⟩
  obtain ⟨H, rfl⟩ : ∃ H : Nat, i1 = (H : Int) := ⟨i1.toNat, by omega⟩
  have e : L.length = W * H := by exact_mod_cast h2
  rw [e]
  exact Nat.mul_le_mul (show W ≤ 24 by omega) (show H ≤ 10 by omega)
 ·simp
theorem errs_laidS {W : World} (h : laidMetH Tryd.prog Rows.fnExactReadScreenRow.laid W) : ErrsIn W := by
 have h' : laidMet Tryd.prog [("loop.example/g00308/impl.errCutOff", Rows.laid_loop_example_g00308_impl_errCutOff), ("loop.example/g00308/impl.errBounds", Rows.laid_loop_example_g00308_impl_errBounds), ("loop.example/g00308/impl.errBehind", Rows.laid_loop_example_g00308_impl_errBehind)] W ∧ handlesMet Tryd.prog [("errors.errorType", Rows.laid_errors_errorType)] W := h
 exact ⟨handle_of h'.2, iface_cell (by kernel_rfl) (by kernel_rfl) Tryd.underlying55 (Lib.laidMet.reads h'.1 (List.mem_cons_self ..)),
  iface_cell (by kernel_rfl) (by kernel_rfl) Tryd.underlying55 (Lib.laidMet.reads h'.1 (List.mem_cons_of_mem _ (List.mem_cons_self ..))),
  iface_cell (by kernel_rfl) (by kernel_rfl) Tryd.underlying55 (Lib.laidMet.reads h'.1 (List.mem_cons_of_mem _ (List.mem_cons_of_mem _ (List.mem_cons_self ..))))⟩
end Go.Proofs.YtpcdjpfffanlbaaDoor

/- A slice of bytes that came in leads to a row of bytes. -/
namespace Go.Proofs.YtpcdjpfffanlbaaDoor
open Go.ChangeShapes Go.WideShapes Go.ChangeAt Go.RowKit
theorem row8_ints {w : World} {x : Addr} {len cap : Nat} {zs : List Int} (hl : len ≤ cap) (hz : zs.length = cap) (hcell : ∀ i, i < zs.length → w.cell? (x.add i) = some (.int .u8 (zs.getD i 0))) (hwz : ∀ n ∈ zs, (Lit.int .u8 n).wf = true) :
  ∃ l : List UInt8, l.length = len ∧ Row8 w (some x) l := by
 refine ⟨(zs.take len).map (fun n => UInt8.ofNat n.toNat), by simp; omega, ?_⟩
 by_cases h0 : len = 0
 ·left; simp [h0]
 ·right
  obtain ⟨b, off, spot⟩ := x
  have hc := hcell 0 (by omega)
  have hspot : spot = none := by simpa [Addr.add] using World.cell?_spot hc
  subst hspot
  refine ⟨b, off, rfl, World.block_lt_of_cell? w _ hc, fun i hi => ?_⟩
  have hi' : i < len := by simp at hi; omega
  have hci := hcell i (by omega)
  have hlt : i < zs.length := by omega
  have hg : zs.getD i 0 = zs[i] := by simp [hlt]
  have hmem : zs.getD i 0 ∈ zs := by rw [hg]; exact List.getElem_mem _
  have hb := bounds_u8 (hwz _ hmem)
  rw [show (⟨b, off, none⟩ : Addr).add i = ⟨b, off + i, none⟩ from by unfold Addr.add; split <;> simp_all] at hci
  rw [hci]
  have e1 : ((zs.take len).map (fun n => UInt8.ofNat n.toNat))[i] = UInt8.ofNat (zs.getD i 0).toNat := by
   rw [List.getElem_map, List.getElem_take, hg]
  rw [e1, UInt8.toNat_ofNat']
  congr 2
  omega
end Go.Proofs.YtpcdjpfffanlbaaDoor
