/- What the row's list gives of the nine named errors, together. -/
import Derived.Test.YtialpepklejejaaDoorZStT
import Derived.Test.YtialpepklejejaaDoorZFrmX
import Derived.Test.YtialpepklejejaaDoorZReadFT
namespace Go.Proofs.YtialpepklejejaaDoor
open Go.ChangeShapes Go.WideShapes Go.ChangeAt Go.RowKit
set_option linter.unusedVariables false
/-- What the nine named errors are: each of its own. -/
def Errs9 (W : World) : Prop := ErrsIn W ∧ ∃ xc xb xs x0 x1 x2 x3 x4, ErrsX W xc xb xs ∧ StE W x0 x1 x2 x3 x4 ∧ (xb ≠ xc ∧ xs ≠ xc) ∧ ∀ x, x = xb ∨ x = xs → x ≠ x0 ∧ x ≠ x1 ∧ x ≠ x2 ∧ x ≠ x3 ∧ x ≠ x4
set_option maxHeartbeats 4000000 in
set_option maxRecDepth 100000 in
theorem errs9 {W : World} (h : laidMet Tryd.prog [("loop.example/g00308/impl.errCutOff", Rows.laid_loop_example_g00308_impl_errCutOff), ("loop.example/g00308/impl.errBounds", Rows.laid_loop_example_g00308_impl_errBounds), ("loop.example/g00308/impl.errSum", Rows.laid_loop_example_g00308_impl_errSum), ("loop.example/g00308/impl.errBehind", Rows.laid_loop_example_g00308_impl_errBehind), ("loop.example/g00308/impl.errNoRecord", Rows.laid_loop_example_g00308_impl_errNoRecord), ("loop.example/g00308/impl.errNotRight", Rows.laid_loop_example_g00308_impl_errNotRight), ("loop.example/g00308/impl.errLowerTerm", Rows.laid_loop_example_g00308_impl_errLowerTerm), ("loop.example/g00308/impl.errRecordSize", Rows.laid_loop_example_g00308_impl_errRecordSize), ("loop.example/g00308/impl.errNoRoom", Rows.laid_loop_example_g00308_impl_errNoRoom)] W) (h2 : handlesMet Tryd.prog [("errors.errorType", Rows.laid_errors_errorType)] W) : Errs9 W := by
  have hI : ErrsIn W := ⟨handle_of h2, iface_cell (by kernel_rfl) (by kernel_rfl) Tryd.underlying40 (Lib.laidMet.reads h (List.mem_cons_self ..)),
    iface_cell (by kernel_rfl) (by kernel_rfl) Tryd.underlying40 (Lib.laidMet.reads h (List.mem_cons_of_mem _ (List.mem_cons_self ..))),
    iface_cell (by kernel_rfl) (by kernel_rfl) Tryd.underlying40 (Lib.laidMet.reads h (List.mem_cons_of_mem _ (List.mem_cons_of_mem _ (List.mem_cons_of_mem _ (List.mem_cons_self ..)))))⟩
  refine ⟨hI, ?_⟩
  clear hI
  obtain ⟨ps, ⟨g0, t0, cs0, f0, p0, q0, hg0, ht0, hv0, hd0, ⟨g1, t1, cs1, f1, p1, q1, hg1, ht1, hv1, hd1, ⟨g2, t2, cs2, f2, p2, q2, hg2, ht2, hv2, hd2, ⟨g3, t3, cs3, f3, p3, q3, hg3, ht3, hv3, hd3, ⟨g4, t4, cs4, f4, p4, q4, hg4, ht4, hv4, hd4, ⟨g5, t5, cs5, f5, p5, q5, hg5, ht5, hv5, hd5, ⟨g6, t6, cs6, f6, p6, q6, hg6, ht6, hv6, hd6, ⟨g7, t7, cs7, f7, p7, q7, hg7, ht7, hv7, hd7, ⟨g8, t8, cs8, f8, p8, q8, hg8, ht8, hv8, hd8, _, e8⟩, e7⟩, e6⟩, e5⟩, e4⟩, e3⟩, e2⟩, e1⟩, e0⟩, hnd, hrows⟩ := h
  obtain rfl : g0 = 0 := Option.some.inj (hg0.symm.trans (by kernel_rfl))
  obtain rfl : t0 = 40 := Option.some.inj (ht0.symm.trans (by kernel_rfl))
  obtain rfl : g1 = 6 := Option.some.inj (hg1.symm.trans (by kernel_rfl))
  obtain rfl : t1 = 40 := Option.some.inj (ht1.symm.trans (by kernel_rfl))
  obtain rfl : g2 = 7 := Option.some.inj (hg2.symm.trans (by kernel_rfl))
  obtain rfl : t2 = 40 := Option.some.inj (ht2.symm.trans (by kernel_rfl))
  obtain rfl : g3 = 9 := Option.some.inj (hg3.symm.trans (by kernel_rfl))
  obtain rfl : t3 = 40 := Option.some.inj (ht3.symm.trans (by kernel_rfl))
  obtain rfl : g4 = 1 := Option.some.inj (hg4.symm.trans (by kernel_rfl))
  obtain rfl : t4 = 40 := Option.some.inj (ht4.symm.trans (by kernel_rfl))
  obtain rfl : g5 = 2 := Option.some.inj (hg5.symm.trans (by kernel_rfl))
  obtain rfl : t5 = 40 := Option.some.inj (ht5.symm.trans (by kernel_rfl))
  obtain rfl : g6 = 3 := Option.some.inj (hg6.symm.trans (by kernel_rfl))
  obtain rfl : t6 = 40 := Option.some.inj (ht6.symm.trans (by kernel_rfl))
  obtain rfl : g7 = 4 := Option.some.inj (hg7.symm.trans (by kernel_rfl))
  obtain rfl : t7 = 40 := Option.some.inj (ht7.symm.trans (by kernel_rfl))
  obtain rfl : g8 = 5 := Option.some.inj (hg8.symm.trans (by kernel_rfl))
  obtain rfl : t8 = 40 := Option.some.inj (ht8.symm.trans (by kernel_rfl))
  subst e8
  subst e7
  subst e6
  subst e5
  subst e4
  subst e3
  subst e2
  subst e1
  subst e0
  obtain ⟨l0⟩ := cs0
  obtain ⟨l1⟩ := cs1
  obtain ⟨l2⟩ := cs2
  obtain ⟨l3⟩ := cs3
  obtain ⟨l4⟩ := cs4
  obtain ⟨l5⟩ := cs5
  obtain ⟨l6⟩ := cs6
  obtain ⟨l7⟩ := cs7
  obtain ⟨l8⟩ := cs8
  have ok0 : ∀ u v, l0 = [.iface u v] → Value.okWide Tryd.prog W .any 0 u v := fun u v e => by
    subst e
    exact (hrows 0 0 (by simp [MemPlace.row])).2 u v (by simpa using World.var?_cell hg0 hv0 0)
  have ok1 : ∀ u v, l1 = [.iface u v] → Value.okWide Tryd.prog W .any 0 u v := fun u v e => by
    subst e
    exact (hrows 6 0 (by simp [MemPlace.row])).2 u v (by simpa using World.var?_cell hg1 hv1 0)
  have ok2 : ∀ u v, l2 = [.iface u v] → Value.okWide Tryd.prog W .any 0 u v := fun u v e => by
    subst e
    exact (hrows 7 0 (by simp [MemPlace.row])).2 u v (by simpa using World.var?_cell hg2 hv2 0)
  have ok3 : ∀ u v, l3 = [.iface u v] → Value.okWide Tryd.prog W .any 0 u v := fun u v e => by
    subst e
    exact (hrows 9 0 (by simp [MemPlace.row])).2 u v (by simpa using World.var?_cell hg3 hv3 0)
  have ok4 : ∀ u v, l4 = [.iface u v] → Value.okWide Tryd.prog W .any 0 u v := fun u v e => by
    subst e
    exact (hrows 1 0 (by simp [MemPlace.row])).2 u v (by simpa using World.var?_cell hg4 hv4 0)
  have ok5 : ∀ u v, l5 = [.iface u v] → Value.okWide Tryd.prog W .any 0 u v := fun u v e => by
    subst e
    exact (hrows 2 0 (by simp [MemPlace.row])).2 u v (by simpa using World.var?_cell hg5 hv5 0)
  have ok6 : ∀ u v, l6 = [.iface u v] → Value.okWide Tryd.prog W .any 0 u v := fun u v e => by
    subst e
    exact (hrows 3 0 (by simp [MemPlace.row])).2 u v (by simpa using World.var?_cell hg6 hv6 0)
  have ok7 : ∀ u v, l7 = [.iface u v] → Value.okWide Tryd.prog W .any 0 u v := fun u v e => by
    subst e
    exact (hrows 4 0 (by simp [MemPlace.row])).2 u v (by simpa using World.var?_cell hg7 hv7 0)
  have ok8 : ∀ u v, l8 = [.iface u v] → Value.okWide Tryd.prog W .any 0 u v := fun u v e => by
    subst e
    exact (hrows 5 0 (by simp [MemPlace.row])).2 u v (by simpa using World.var?_cell hg8 hv8 0)
  obtain ⟨x0, s0, rfl, hc0, -, -, rfl⟩ := errorString_of_trod Tryd.underlying40 rowE Tryd.underlying126 Tryd.underlying147 rfl rfl Tryd.underlying9 (by kernel_rfl) (by kernel_rfl) hd0 ok0
  obtain ⟨x1, s1, rfl, hc1, -, -, rfl⟩ := errorString_of_trod Tryd.underlying40 rowE Tryd.underlying126 Tryd.underlying147 rfl rfl Tryd.underlying9 (by kernel_rfl) (by kernel_rfl) hd1 ok1
  obtain ⟨x2, s2, rfl, hc2, -, -, rfl⟩ := errorString_of_trod Tryd.underlying40 rowE Tryd.underlying126 Tryd.underlying147 rfl rfl Tryd.underlying9 (by kernel_rfl) (by kernel_rfl) hd2 ok2
  obtain ⟨x3, s3, rfl, hc3, -, -, rfl⟩ := errorString_of_trod Tryd.underlying40 rowE Tryd.underlying126 Tryd.underlying147 rfl rfl Tryd.underlying9 (by kernel_rfl) (by kernel_rfl) hd3 ok3
  obtain ⟨x4, s4, rfl, hc4, -, -, rfl⟩ := errorString_of_trod Tryd.underlying40 rowE Tryd.underlying126 Tryd.underlying147 rfl rfl Tryd.underlying9 (by kernel_rfl) (by kernel_rfl) hd4 ok4
  obtain ⟨x5, s5, rfl, hc5, -, -, rfl⟩ := errorString_of_trod Tryd.underlying40 rowE Tryd.underlying126 Tryd.underlying147 rfl rfl Tryd.underlying9 (by kernel_rfl) (by kernel_rfl) hd5 ok5
  obtain ⟨x6, s6, rfl, hc6, -, -, rfl⟩ := errorString_of_trod Tryd.underlying40 rowE Tryd.underlying126 Tryd.underlying147 rfl rfl Tryd.underlying9 (by kernel_rfl) (by kernel_rfl) hd6 ok6
  obtain ⟨x7, s7, rfl, hc7, -, -, rfl⟩ := errorString_of_trod Tryd.underlying40 rowE Tryd.underlying126 Tryd.underlying147 rfl rfl Tryd.underlying9 (by kernel_rfl) (by kernel_rfl) hd7 ok7
  obtain ⟨x8, s8, rfl, hc8, -, -, rfl⟩ := errorString_of_trod Tryd.underlying40 rowE Tryd.underlying126 Tryd.underlying147 rfl rfl Tryd.underlying9 (by kernel_rfl) (by kernel_rfl) hd8 ok8
  have hnd2 := hnd
  simp [MemPlace.row] at hnd2
  clear hnd
  have HC0 : W.cell? ⟨0, 0, none⟩ = some (.iface 126 (.pointer (some x0))) := by simpa using World.var?_cell hg0 hv0 0
  have HX : ErrsX W x0 x1 x2 := ⟨handle_of h2, HC0, by simpa using World.var?_cell hg1 hv1 0, by simpa using World.var?_cell hg2 hv2 0, (hrows x0.block x0.off (by simp [MemPlace.row])).1, (hrows x1.block x1.off (by simp [MemPlace.row])).1, (hrows x2.block x2.off (by simp [MemPlace.row])).1⟩
  have c4 : W.cell? ⟨1, 0, none⟩ = some (.iface 126 (.pointer (some x4))) := by simpa using World.var?_cell hg4 hv4 0
  have c5 : W.cell? ⟨2, 0, none⟩ = some (.iface 126 (.pointer (some x5))) := by simpa using World.var?_cell hg5 hv5 0
  have c6 : W.cell? ⟨3, 0, none⟩ = some (.iface 126 (.pointer (some x6))) := by simpa using World.var?_cell hg6 hv6 0
  have c7 : W.cell? ⟨4, 0, none⟩ = some (.iface 126 (.pointer (some x7))) := by simpa using World.var?_cell hg7 hv7 0
  have c8 : W.cell? ⟨5, 0, none⟩ = some (.iface 126 (.pointer (some x8))) := by simpa using World.var?_cell hg8 hv8 0
  have b4 := (hrows x4.block x4.off (by simp [MemPlace.row])).1
  have b5 := (hrows x5.block x5.off (by simp [MemPlace.row])).1
  have b6 := (hrows x6.block x6.off (by simp [MemPlace.row])).1
  have b7 := (hrows x7.block x7.off (by simp [MemPlace.row])).1
  have b8 := (hrows x8.block x8.off (by simp [MemPlace.row])).1
  clear hrows ok0 hc0 hv0 hg0 ht0 hd0 ok1 hc1 hv1 hg1 ht1 hd1 ok2 hc2 hv2 hg2 ht2 hd2 ok3 hc3 hv3 hg3 ht3 hd3 ok4 hc4 hv4 hg4 ht4 hd4 ok5 hc5 hv5 hg5 ht5 hd5 ok6 hc6 hv6 hg6 ht6 hd6 ok7 hc7 hv7 hg7 ht7 hd7 ok8 hc8 hv8 hg8 ht8 hd8 h2 HC0
  have n1_0 : x1 ≠ x0 := by
    clear HX c4 c5 c6 c7 c8 b4 b5 b6 b7 b8
    rintro rfl; simp_all
  have n2_0 : x2 ≠ x0 := by
    clear HX c4 c5 c6 c7 c8 b4 b5 b6 b7 b8
    rintro rfl; simp_all
  have n1_4 : x1 ≠ x4 := by
    clear HX c4 c5 c6 c7 c8 b4 b5 b6 b7 b8
    rintro rfl; simp_all
  have n1_5 : x1 ≠ x5 := by
    clear HX c4 c5 c6 c7 c8 b4 b5 b6 b7 b8
    rintro rfl; simp_all
  have n1_6 : x1 ≠ x6 := by
    clear HX c4 c5 c6 c7 c8 b4 b5 b6 b7 b8
    rintro rfl; simp_all
  have n1_7 : x1 ≠ x7 := by
    clear HX c4 c5 c6 c7 c8 b4 b5 b6 b7 b8
    rintro rfl; simp_all
  have n1_8 : x1 ≠ x8 := by
    clear HX c4 c5 c6 c7 c8 b4 b5 b6 b7 b8
    rintro rfl; simp_all
  have n2_4 : x2 ≠ x4 := by
    clear HX c4 c5 c6 c7 c8 b4 b5 b6 b7 b8
    rintro rfl; simp_all
  have n2_5 : x2 ≠ x5 := by
    clear HX c4 c5 c6 c7 c8 b4 b5 b6 b7 b8
    rintro rfl; simp_all
  have n2_6 : x2 ≠ x6 := by
    clear HX c4 c5 c6 c7 c8 b4 b5 b6 b7 b8
    rintro rfl; simp_all
  have n2_7 : x2 ≠ x7 := by
    clear HX c4 c5 c6 c7 c8 b4 b5 b6 b7 b8
    rintro rfl; simp_all
  have n2_8 : x2 ≠ x8 := by
    clear HX c4 c5 c6 c7 c8 b4 b5 b6 b7 b8
    rintro rfl; simp_all
  have n4_5 : x4 ≠ x5 := by
    clear HX c4 c5 c6 c7 c8 b4 b5 b6 b7 b8
    rintro rfl; simp_all
  have n4_6 : x4 ≠ x6 := by
    clear HX c4 c5 c6 c7 c8 b4 b5 b6 b7 b8
    rintro rfl; simp_all
  have n4_7 : x4 ≠ x7 := by
    clear HX c4 c5 c6 c7 c8 b4 b5 b6 b7 b8
    rintro rfl; simp_all
  have n4_8 : x4 ≠ x8 := by
    clear HX c4 c5 c6 c7 c8 b4 b5 b6 b7 b8
    rintro rfl; simp_all
  have n5_6 : x5 ≠ x6 := by
    clear HX c4 c5 c6 c7 c8 b4 b5 b6 b7 b8
    rintro rfl; simp_all
  have n5_7 : x5 ≠ x7 := by
    clear HX c4 c5 c6 c7 c8 b4 b5 b6 b7 b8
    rintro rfl; simp_all
  have n5_8 : x5 ≠ x8 := by
    clear HX c4 c5 c6 c7 c8 b4 b5 b6 b7 b8
    rintro rfl; simp_all
  have n6_7 : x6 ≠ x7 := by
    clear HX c4 c5 c6 c7 c8 b4 b5 b6 b7 b8
    rintro rfl; simp_all
  have n6_8 : x6 ≠ x8 := by
    clear HX c4 c5 c6 c7 c8 b4 b5 b6 b7 b8
    rintro rfl; simp_all
  have n7_8 : x7 ≠ x8 := by
    clear HX c4 c5 c6 c7 c8 b4 b5 b6 b7 b8
    rintro rfl; simp_all
  have HS : StE W x4 x5 x6 x7 x8 := ⟨c4, c5, c6, c7, c8, b4, b5, b6, b7, b8, by
    clear HX c4 c5 c6 c7 c8 b4 b5 b6 b7 b8 hnd2
    simp
    exact ⟨⟨n4_5, n4_6, n4_7, n4_8⟩, ⟨n5_6, n5_7, n5_8⟩, ⟨n6_7, n6_8⟩, n7_8⟩⟩
  exact ⟨x0, x1, x2, x4, x5, x6, x7, x8, HX, HS, ⟨n1_0, n2_0⟩, fun x hx => by
    rcases hx with rfl | rfl
    · exact ⟨n1_4, n1_5, n1_6, n1_7, n1_8⟩
    · exact ⟨n2_4, n2_5, n2_6, n2_7, n2_8⟩⟩
theorem errs_laidV {W : World} (h : laidMetH Tryd.prog Rows.fnExactRecoverRow.laid W) : Errs9 W := by
  have h' : laidMet Tryd.prog [("loop.example/g00308/impl.errCutOff", Rows.laid_loop_example_g00308_impl_errCutOff), ("loop.example/g00308/impl.errBounds", Rows.laid_loop_example_g00308_impl_errBounds), ("loop.example/g00308/impl.errSum", Rows.laid_loop_example_g00308_impl_errSum), ("loop.example/g00308/impl.errBehind", Rows.laid_loop_example_g00308_impl_errBehind), ("loop.example/g00308/impl.errNoRecord", Rows.laid_loop_example_g00308_impl_errNoRecord), ("loop.example/g00308/impl.errNotRight", Rows.laid_loop_example_g00308_impl_errNotRight), ("loop.example/g00308/impl.errLowerTerm", Rows.laid_loop_example_g00308_impl_errLowerTerm), ("loop.example/g00308/impl.errRecordSize", Rows.laid_loop_example_g00308_impl_errRecordSize), ("loop.example/g00308/impl.errNoRoom", Rows.laid_loop_example_g00308_impl_errNoRoom)] W ∧ handlesMet Tryd.prog [("errors.errorType", Rows.laid_errors_errorType)] W := h
  exact errs9 h'.1 h'.2
theorem vars_len9 {H : Type} {enc : TypeId × Value → H} {P : Program} {w : World} {spare : Nat → Bool} {n1 n2 n3 n4 n5 n6 n7 n8 n9 : String} {gs : List (DataW H)} {ps : List MemPlace} (h : DataW.TrodVars enc P w spare [n1, n2, n3, n4, n5, n6, n7, n8, n9] gs ps) : ∃ d1 d2 d3 d4 d5 d6 d7 d8 d9, gs = [d1, d2, d3, d4, d5, d6, d7, d8, d9] := by
  match gs, h with
  | [d1, d2, d3, d4, d5, d6, d7, d8, d9], _ => exact ⟨d1, d2, d3, d4, d5, d6, d7, d8, d9, rfl⟩
end Go.Proofs.YtialpepklejejaaDoor
