/- Texts put together: VwL VwK RvwA RowInts. -/
import Derived.Test.YtblhediekdeffaaDoorZG13
import Derived.Test.YtblhediekdeffaaDoorZRwK
import Derived.Test.YtblhediekdeffaaDoorZRvwX
import Derived.Test.YtblhediekdeffaaDoorZG32
import Derived.Test.YtblhediekdeffaaDoorZG46
import Derived.Test.YtblhediekdeffaaDoorZBase
/- Views in the law's own words: their size, their copies, two that are alike. -/
namespace Go.Proofs.YtblhediekdeffaaDoor
open Go.ChangeShapes Go.WideShapes Go.ChangeAt Go.RowKit
set_option linter.unusedVariables false
set_option maxHeartbeats 2000000 in
set_option maxRecDepth 100000 in
theorem eqVw (nb fr vw vh : Int) (fu : Bool) (a c : Option Addr) (cap cap2 n : Nat) (l : List (Int × ByteArray)) (HN : Hid (l.length = n)) (hl : n ≤ 1048576) (w : World) (hr : RowV w a (cE l)) (hr2 : RowV w c (cE l)) :
    Calls Tryd.prog 7 #[.agg #[.int .i64 nb, .int .i64 fr, .bool fu, .int .i64 vw, .int .i64 vh, .slice a n cap], .agg #[.int .i64 nb, .int .i64 fr, .bool fu, .int .i64 vw, .int .i64 vh, .slice c n cap2]] w fun e w' => e = .returned (.bool true) ∧ Below w.heap.size w w' := by
  have HB := hide (Go.Joins.below_alloc2 w (.cells #[.int .i64 nb, .int .i64 fr, .bool fu, .int .i64 vw, .int .i64 vh, .slice a n cap] 25) (.cells #[.int .i64 nb, .int .i64 fr, .bool fu, .int .i64 vw, .int .i64 vh, .slice c n cap2] 25))
  have HR := hide (hr.below (unhide HB))
  have HR2 := hide (hr2.below (unhide HB))
  have n0 : (nb != nb) = false := by simp
  have n1 : (fr != fr) = false := by simp
  have n2 : (fu != fu) = false := by simp
  have n3 : (vw != vw) = false := by simp
  have n4 : (vh != vh) = false := by simp
  clear hr hr2
  obtain rfl : n = l.length := (unhide HN).symm
  clear HN
  go_enter Tryd.func7, Tryd.ntmps7
  go_wp2_with fail
  refine (sameRow a c cap cap2 l hl _ (unhide HR) (unhide HR2)).mono ?_
  rintro e w2 ⟨rfl, hb2⟩
  have HB2 := hide ((unhide HB).trans (hb2.mono (unhide HB).size))
  clear hb2 HB HR HR2
  go_wp2_with fail
  go_ret
  exact ⟨rfl, unhide HB2⟩
end Go.Proofs.YtblhediekdeffaaDoor

/- Views: what the laws' own helpers mark, and tell of marked ones. -/
namespace Go.Proofs.YtblhediekdeffaaDoor
open Go.ChangeShapes Go.WideShapes Go.ChangeAt Go.RowKit
set_option linter.unusedVariables false
set_option maxHeartbeats 2000000 in
set_option maxRecDepth 100000 in
theorem markVw (nb fr vw vh : Int) (fu : Bool) (a : Option Addr) (n cap lo hi k0 : Nat) (Q : Int) (HQ : Hid (Q = ((k0 + n * 2 : Nat) : Int))) (xs : List Value) (h1 : 0 < k0) (hk0 : k0 + n * 2 ≤ 3000000) (w : World) (h : HeldZ 2 w lo hi 51 (.slice a n cap) n xs) :
    Calls Tryd.prog 10 #[.agg #[.int .i64 nb, .int .i64 fr, .bool fu, .int .i64 vw, .int .i64 vh, .slice a n cap], .int .i64 (k0 : Int)] w fun e w' => e = .returned (.int .i64 Q) ∧ HeldZ 2 w' lo hi 51 (.slice a n cap) n (onesEnt k0 n) ∧ w.grownBy w' (Value.slice a n cap).ownBlock := by
  have HB := hide (Go.Joins.below_alloc1 w (.cells #[.int .i64 nb, .int .i64 fr, .bool fu, .int .i64 vw, .int .i64 vh, .slice a n cap] 25))
  have HH := hide (h.below (unhide HB) h.le)
  clear h
  go_enter Tryd.func10, Tryd.ntmps10
  go_wp2_with fail
  refine (markRow (.slice a n cap) n lo hi k0 xs h1 hk0 _ (unhide HH)).mono ?_
  rintro e w2 ⟨rfl, h2, hg2⟩
  rw [← unhide HQ]
  have H2 := hide h2
  have HG := hide (World.grownBy.trans' (below_asGrown (unhide HB)) hg2)
  clear h2 hg2 HH HB
  go_wp2_with fail
  go_ret
  exact ⟨rfl, unhide H2, unhide HG⟩
set_option maxHeartbeats 2000000 in
set_option maxRecDepth 100000 in
theorem heldVw (nb fr vw vh : Int) (fu : Bool) (a : Option Addr) (n cap lo hi k0 : Nat) (Q : Int) (HQ : Hid (Q = ((k0 + n * 2 : Nat) : Int))) (h1 : 0 < k0) (hk0 : k0 + n * 2 ≤ 3000000) (w : World) (h : HeldZ 2 w lo hi 51 (.slice a n cap) n (onesEnt k0 n)) :
    Calls Tryd.prog 11 #[.agg #[.int .i64 nb, .int .i64 fr, .bool fu, .int .i64 vw, .int .i64 vh, .slice a n cap], .int .i64 (k0 : Int)] w fun e w' => e = .returned (.int .i64 Q) ∧ Below w.heap.size w w' := by
  have HB := hide (Go.Joins.below_alloc1 w (.cells #[.int .i64 nb, .int .i64 fr, .bool fu, .int .i64 vw, .int .i64 vh, .slice a n cap] 25))
  have HH := hide (h.below (unhide HB) h.le)
  have hQ0 : ¬ Q < 0 := by rw [unhide HQ]; omega
  clear h
  go_enter Tryd.func11, Tryd.ntmps11
  go_wp2_with fail
  refine (heldRow (.slice a n cap) n lo hi k0 h1 hk0 _ (unhide HH)).mono ?_
  rintro e w2 ⟨rfl, hb2⟩
  rw [← unhide HQ]
  have HB2 := hide ((unhide HB).trans (hb2.mono (unhide HB).size))
  clear hb2 HH HB
  go_wp2_with fail
  go_ret
  exact ⟨rfl, unhide HB2⟩
end Go.Proofs.YtblhediekdeffaaDoor

/- ReadView: all that its walk names. -/
namespace Go.Proofs.YtblhediekdeffaaDoor
open Go.ChangeShapes Go.WideShapes Go.ChangeAt Go.RowKit
set_option linter.unusedVariables false
theorem errs_laidE {W : World} (h : laidMetH Tryd.prog Rows.fnExactReadViewRow.laid W) : ErrsIn W := by
  have h' : laidMet Tryd.prog [("loop.example/g00308/impl.errCutOff", Rows.laid_loop_example_g00308_impl_errCutOff), ("loop.example/g00308/impl.errBounds", Rows.laid_loop_example_g00308_impl_errBounds), ("loop.example/g00308/impl.errBehind", Rows.laid_loop_example_g00308_impl_errBehind)] W ∧ handlesMet Tryd.prog [("errors.errorType", Rows.laid_errors_errorType)] W := h
  exact ⟨handle_of h'.2, iface_cell (by kernel_rfl) (by kernel_rfl) Tryd.underlying54 (Lib.laidMet.reads h'.1 (List.mem_cons_self ..)),
    iface_cell (by kernel_rfl) (by kernel_rfl) Tryd.underlying54 (Lib.laidMet.reads h'.1 (List.mem_cons_of_mem _ (List.mem_cons_self ..))),
    iface_cell (by kernel_rfl) (by kernel_rfl) Tryd.underlying54 (Lib.laidMet.reads h'.1 (List.mem_cons_of_mem _ (List.mem_cons_of_mem _ (List.mem_cons_self ..))))⟩
end Go.Proofs.YtblhediekdeffaaDoor

/- A slice of bytes that came in leads to a row of bytes. -/
namespace Go.Proofs.YtblhediekdeffaaDoor
open Go.ChangeShapes Go.WideShapes Go.ChangeAt Go.RowKit
theorem row8_ints {w : World} {x : Addr} {len cap : Nat} {zs : List Int} (hl : len ≤ cap) (hz : zs.length = cap) (hcell : ∀ i, i < zs.length → w.cell? (x.add i) = some (.int .u8 (zs.getD i 0))) (hwz : ∀ n ∈ zs, (Lit.int .u8 n).wf = true) :
    ∃ l : List UInt8, l.length = len ∧ Row8 w (some x) l := by
  refine ⟨(zs.take len).map (fun n => UInt8.ofNat n.toNat), by simp; omega, ?_⟩
  by_cases h0 : len = 0
  · left; simp [h0]
  · right
    obtain ⟨b, off, spot⟩ := x
    have hc := hcell 0 (by omega)
    have hspot : spot = none := by simpa [Addr.add] using World.cell?_spot hc
    subst hspot
    refine ⟨b, off, rfl, World.block_lt_of_cell? w _ hc, fun i hi => ?_⟩
    have hi' : i < len := by simp at hi; omega
    have hci := hcell i (by omega)
    have hlt : i < zs.length := by omega
    have hg : zs.getD i 0 = zs[i] := by simp [hlt]
    have hmem : zs.getD i 0 ∈ zs := by rw [hg]; exact List.getElem_mem _
    have hb := bounds_u8 (hwz _ hmem)
    rw [show (⟨b, off, none⟩ : Addr).add i = ⟨b, off + i, none⟩ from by unfold Addr.add; split <;> simp_all] at hci
    rw [hci]
    have e1 : ((zs.take len).map (fun n => UInt8.ofNat n.toNat))[i] = UInt8.ofNat (zs.getD i 0).toNat := by
      rw [List.getElem_map, List.getElem_take, hg]
    rw [e1, UInt8.toNat_ofNat']
    congr 2
    omega
end Go.Proofs.YtblhediekdeffaaDoor
