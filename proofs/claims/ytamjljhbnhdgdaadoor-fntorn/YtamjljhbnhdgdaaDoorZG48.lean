/- Texts put together: StR TrAll RowInts. -/
import Derived.Test.YtamjljhbnhdgdaaDoorZG47
import Derived.Test.YtamjljhbnhdgdaaDoorZFrmX
import Derived.Test.YtamjljhbnhdgdaaDoorZG41
import Derived.Test.YtamjljhbnhdgdaaDoorZG17
import Derived.Test.YtamjljhbnhdgdaaDoorZG23
import Derived.Test.YtamjljhbnhdgdaaDoorZG31
import Derived.Test.YtamjljhbnhdgdaaDoorZRvI
import Derived.Test.YtamjljhbnhdgdaaDoorZWrJ
import Derived.Test.YtamjljhbnhdgdaaDoorZStoI
import Derived.Test.YtamjljhbnhdgdaaDoorZG46
import Derived.Test.YtamjljhbnhdgdaaDoorZG0
/- What the row's list gives of the nine named errors, together. -/
namespace Go.Proofs.YtamjljhbnhdgdaaDoor
open Go.ChangeShapes Go.WideShapes Go.ChangeAt Go.RowKit
set_option linter.unusedVariables false
/-- What the nine named errors are: each of its own. -/
def Errs9 (W : World) : Prop := ErrsIn W ∧ ∃ xc xb xs x0 x1 x2 x3 x4, ErrsX W xc xb xs ∧ StE W x0 x1 x2 x3 x4 ∧ (xb ≠ xc ∧ xs ≠ xc) ∧ ∀ x, x = xb ∨ x = xs → x ≠ x0 ∧ x ≠ x1 ∧ x ≠ x2 ∧ x ≠ x3 ∧ x ≠ x4
set_option maxHeartbeats 4000000 in
set_option maxRecDepth 100000 in
theorem errs9 {W : World} (h : laidMet Tryd.prog [("loop.example/g00308/impl.errCutOff", Rows.laid_loop_example_g00308_impl_errCutOff), ("loop.example/g00308/impl.errBounds", Rows.laid_loop_example_g00308_impl_errBounds), ("loop.example/g00308/impl.errSum", Rows.laid_loop_example_g00308_impl_errSum), ("loop.example/g00308/impl.errBehind", Rows.laid_loop_example_g00308_impl_errBehind), ("loop.example/g00308/impl.errNoRecord", Rows.laid_loop_example_g00308_impl_errNoRecord), ("loop.example/g00308/impl.errNotRight", Rows.laid_loop_example_g00308_impl_errNotRight), ("loop.example/g00308/impl.errLowerTerm", Rows.laid_loop_example_g00308_impl_errLowerTerm), ("loop.example/g00308/impl.errRecordSize", Rows.laid_loop_example_g00308_impl_errRecordSize), ("loop.example/g00308/impl.errNoRoom", Rows.laid_loop_example_g00308_impl_errNoRoom)] W) (h2 : handlesMet Tryd.prog [("errors.errorType", Rows.laid_errors_errorType)] W) : Errs9 W := by
 have hI : ErrsIn W := ⟨handle_of h2, iface_cell (by kernel_rfl) (by kernel_rfl) Tryd.underlying51 (Lib.laidMet.reads h (List.mem_cons_self ..)),
  iface_cell (by kernel_rfl) (by kernel_rfl) Tryd.underlying51 (Lib.laidMet.reads h (List.mem_cons_of_mem _ (List.mem_cons_self ..))),
  iface_cell (by kernel_rfl) (by kernel_rfl) Tryd.underlying51 (Lib.laidMet.reads h (List.mem_cons_of_mem _ (List.mem_cons_of_mem _ (List.mem_cons_of_mem _ (List.mem_cons_self ..)))))⟩
 refine ⟨hI, ?_⟩
 clear hI
 obtain ⟨ps, ⟨g0, t0, cs0, f0, p0, q0, hg0, ht0, hv0, hd0, ⟨g1, t1, cs1, f1, p1, q1, hg1, ht1, hv1, hd1, ⟨g2, t2, cs2, f2, p2, q2, hg2, ht2, hv2, hd2, ⟨g3, t3, cs3, f3, p3, q3, hg3, ht3, hv3, hd3, ⟨g4, t4, cs4, f4, p4, q4, hg4, ht4, hv4, hd4, ⟨g5, t5, cs5, f5, p5, q5, hg5, ht5, hv5, hd5, ⟨g6, t6, cs6, f6, p6, q6, hg6, ht6, hv6, hd6, ⟨g7, t7, cs7, f7, p7, q7, hg7, ht7, hv7, hd7, ⟨g8, t8, cs8, f8, p8, q8, hg8, ht8, hv8, hd8, _, e8⟩, e7⟩, e6⟩, e5⟩, e4⟩, e3⟩, e2⟩, e1⟩, e0⟩, hnd, hrows⟩ := h
 obtain rfl : g0 = 5 := Option.some.inj (hg0.symm.trans (by kernel_rfl))
 obtain rfl : t0 = 51 := Option.some.inj (ht0.symm.trans (by kernel_rfl))
 obtain rfl : g1 = 7 := Option.some.inj (hg1.symm.trans (by kernel_rfl))
 obtain rfl : t1 = 51 := Option.some.inj (ht1.symm.trans (by kernel_rfl))
 obtain rfl : g2 = 8 := Option.some.inj (hg2.symm.trans (by kernel_rfl))
 obtain rfl : t2 = 51 := Option.some.inj (ht2.symm.trans (by kernel_rfl))
 obtain rfl : g3 = 9 := Option.some.inj (hg3.symm.trans (by kernel_rfl))
 obtain rfl : t3 = 51 := Option.some.inj (ht3.symm.trans (by kernel_rfl))
 obtain rfl : g4 = 2 := Option.some.inj (hg4.symm.trans (by kernel_rfl))
 obtain rfl : t4 = 51 := Option.some.inj (ht4.symm.trans (by kernel_rfl))
 obtain rfl : g5 = 3 := Option.some.inj (hg5.symm.trans (by kernel_rfl))
 obtain rfl : t5 = 51 := Option.some.inj (ht5.symm.trans (by kernel_rfl))
 obtain rfl : g6 = 4 := Option.some.inj (hg6.symm.trans (by kernel_rfl))
 obtain rfl : t6 = 51 := Option.some.inj (ht6.symm.trans (by kernel_rfl))
 obtain rfl : g7 = 1 := Option.some.inj (hg7.symm.trans (by kernel_rfl))
 obtain rfl : t7 = 51 := Option.some.inj (ht7.symm.trans (by kernel_rfl))
 obtain rfl : g8 = 0 := Option.some.inj (hg8.symm.trans (by kernel_rfl))
 obtain rfl : t8 = 51 := Option.some.inj (ht8.symm.trans (by kernel_rfl))
 subst e8
 subst e7
 subst e6
 subst e5
 subst e4
 subst e3
 subst e2
 subst e1
 subst e0
 obtain ⟨l0⟩ := cs0
 obtain ⟨l1⟩ := cs1
 obtain ⟨l2⟩ := cs2
 obtain ⟨l3⟩ := cs3
 obtain ⟨l4⟩ := cs4
 obtain ⟨l5⟩ := cs5
 obtain ⟨l6⟩ := cs6
 obtain ⟨l7⟩ := cs7
 obtain ⟨l8⟩ := cs8
 have ok0 : ∀ u v, l0 = [.iface u v] → Value.okWide Tryd.prog W .any 0 u v := fun u v e => by
  subst e
  exact (hrows 5 0 (by simp [MemPlace.row])).2 u v (by simpa using World.var?_cell hg0 hv0 0)
 have ok1 : ∀ u v, l1 = [.iface u v] → Value.okWide Tryd.prog W .any 0 u v := fun u v e => by
  subst e
  exact (hrows 7 0 (by simp [MemPlace.row])).2 u v (by simpa using World.var?_cell hg1 hv1 0)
 have ok2 : ∀ u v, l2 = [.iface u v] → Value.okWide Tryd.prog W .any 0 u v := fun u v e => by
  subst e
  exact (hrows 8 0 (by simp [MemPlace.row])).2 u v (by simpa using World.var?_cell hg2 hv2 0)
 have ok3 : ∀ u v, l3 = [.iface u v] → Value.okWide Tryd.prog W .any 0 u v := fun u v e => by
  subst e
  exact (hrows 9 0 (by simp [MemPlace.row])).2 u v (by simpa using World.var?_cell hg3 hv3 0)
 have ok4 : ∀ u v, l4 = [.iface u v] → Value.okWide Tryd.prog W .any 0 u v := fun u v e => by
  subst e
  exact (hrows 2 0 (by simp [MemPlace.row])).2 u v (by simpa using World.var?_cell hg4 hv4 0)
 have ok5 : ∀ u v, l5 = [.iface u v] → Value.okWide Tryd.prog W .any 0 u v := fun u v e => by
  subst e
  exact (hrows 3 0 (by simp [MemPlace.row])).2 u v (by simpa using World.var?_cell hg5 hv5 0)
 have ok6 : ∀ u v, l6 = [.iface u v] → Value.okWide Tryd.prog W .any 0 u v := fun u v e => by
  subst e
  exact (hrows 4 0 (by simp [MemPlace.row])).2 u v (by simpa using World.var?_cell hg6 hv6 0)
 have ok7 : ∀ u v, l7 = [.iface u v] → Value.okWide Tryd.prog W .any 0 u v := fun u v e => by
  subst e
  exact (hrows 1 0 (by simp [MemPlace.row])).2 u v (by simpa using World.var?_cell hg7 hv7 0)
 have ok8 : ∀ u v, l8 = [.iface u v] → Value.okWide Tryd.prog W .any 0 u v := fun u v e => by
  subst e
  exact (hrows 0 0 (by simp [MemPlace.row])).2 u v (by simpa using World.var?_cell hg8 hv8 0)
 obtain ⟨x0, s0, rfl, hc0, -, -, rfl⟩ := errorString_of_trod Tryd.underlying51 rowE Tryd.underlying145 Tryd.underlying165 rfl rfl Tryd.underlying9 (by kernel_rfl) (by kernel_rfl) hd0 ok0
 obtain ⟨x1, s1, rfl, hc1, -, -, rfl⟩ := errorString_of_trod Tryd.underlying51 rowE Tryd.underlying145 Tryd.underlying165 rfl rfl Tryd.underlying9 (by kernel_rfl) (by kernel_rfl) hd1 ok1
 obtain ⟨x2, s2, rfl, hc2, -, -, rfl⟩ := errorString_of_trod Tryd.underlying51 rowE Tryd.underlying145 Tryd.underlying165 rfl rfl Tryd.underlying9 (by kernel_rfl) (by kernel_rfl) hd2 ok2
 obtain ⟨x3, s3, rfl, hc3, -, -, rfl⟩ := errorString_of_trod Tryd.underlying51 rowE Tryd.underlying145 Tryd.underlying165 rfl rfl Tryd.underlying9 (by kernel_rfl) (by kernel_rfl) hd3 ok3
 obtain ⟨x4, s4, rfl, hc4, -, -, rfl⟩ := errorString_of_trod Tryd.underlying51 rowE Tryd.underlying145 Tryd.underlying165 rfl rfl Tryd.underlying9 (by kernel_rfl) (by kernel_rfl) hd4 ok4
 obtain ⟨x5, s5, rfl, hc5, -, -, rfl⟩ := errorString_of_trod Tryd.underlying51 rowE Tryd.underlying145 Tryd.underlying165 rfl rfl Tryd.underlying9 (by kernel_rfl) (by kernel_rfl) hd5 ok5
 obtain ⟨x6, s6, rfl, hc6, -, -, rfl⟩ := errorString_of_trod Tryd.underlying51 rowE Tryd.underlying145 Tryd.underlying165 rfl rfl Tryd.underlying9 (by kernel_rfl) (by kernel_rfl) hd6 ok6
 obtain ⟨x7, s7, rfl, hc7, -, -, rfl⟩ := errorString_of_trod Tryd.underlying51 rowE Tryd.underlying145 Tryd.underlying165 rfl rfl Tryd.underlying9 (by kernel_rfl) (by kernel_rfl) hd7 ok7
 obtain ⟨x8, s8, rfl, hc8, -, -, rfl⟩ := errorString_of_trod Tryd.underlying51 rowE Tryd.underlying145 Tryd.underlying165 rfl rfl Tryd.underlying9 (by kernel_rfl) (by kernel_rfl) hd8 ok8
 have hnd2 := hnd
 simp [MemPlace.row] at hnd2
 clear hnd
 have HC0 : W.cell? ⟨5, 0, none⟩ = some (.iface 145 (.pointer (some x0))) := by simpa using World.var?_cell hg0 hv0 0
 have HX : ErrsX W x0 x1 x2 := ⟨handle_of h2, HC0, by simpa using World.var?_cell hg1 hv1 0, by simpa using World.var?_cell hg2 hv2 0, (hrows x0.block x0.off (by simp [MemPlace.row])).1, (hrows x1.block x1.off (by simp [MemPlace.row])).1, (hrows x2.block x2.off (by simp [MemPlace.row])).1⟩
 have c4 : W.cell? ⟨2, 0, none⟩ = some (.iface 145 (.pointer (some x4))) := by simpa using World.var?_cell hg4 hv4 0
 have c5 : W.cell? ⟨3, 0, none⟩ = some (.iface 145 (.pointer (some x5))) := by simpa using World.var?_cell hg5 hv5 0
 have c6 : W.cell? ⟨4, 0, none⟩ = some (.iface 145 (.pointer (some x6))) := by simpa using World.var?_cell hg6 hv6 0
 have c7 : W.cell? ⟨1, 0, none⟩ = some (.iface 145 (.pointer (some x7))) := by simpa using World.var?_cell hg7 hv7 0
 have c8 : W.cell? ⟨0, 0, none⟩ = some (.iface 145 (.pointer (some x8))) := by simpa using World.var?_cell hg8 hv8 0
 have b4 := (hrows x4.block x4.off (by simp [MemPlace.row])).1
 have b5 := (hrows x5.block x5.off (by simp [MemPlace.row])).1
 have b6 := (hrows x6.block x6.off (by simp [MemPlace.row])).1
 have b7 := (hrows x7.block x7.off (by simp [MemPlace.row])).1
 have b8 := (hrows x8.block x8.off (by simp [MemPlace.row])).1
 clear hrows ok0 hc0 hv0 hg0 ht0 hd0 ok1 hc1 hv1 hg1 ht1 hd1 ok2 hc2 hv2 hg2 ht2 hd2 ok3 hc3 hv3 hg3 ht3 hd3 ok4 hc4 hv4 hg4 ht4 hd4 ok5 hc5 hv5 hg5 ht5 hd5 ok6 hc6 hv6 hg6 ht6 hd6 ok7 hc7 hv7 hg7 ht7 hd7 ok8 hc8 hv8 hg8 ht8 hd8 h2 HC0
 have n1_0 : x1 ≠ x0 := by
  clear HX c4 c5 c6 c7 c8 b4 b5 b6 b7 b8
  rintro rfl; simp_all
 have n2_0 : x2 ≠ x0 := by
  clear HX c4 c5 c6 c7 c8 b4 b5 b6 b7 b8
  rintro rfl; simp_all
 have n1_4 : x1 ≠ x4 := by
  clear HX c4 c5 c6 c7 c8 b4 b5 b6 b7 b8
  rintro rfl; simp_all
 have n1_5 : x1 ≠ x5 := by
  clear HX c4 c5 c6 c7 c8 b4 b5 b6 b7 b8
  rintro rfl; simp_all
 have n1_6 : x1 ≠ x6 := by
  clear HX c4 c5 c6 c7 c8 b4 b5 b6 b7 b8
  rintro rfl; simp_all
 have n1_7 : x1 ≠ x7 := by
  clear HX c4 c5 c6 c7 c8 b4 b5 b6 b7 b8
  rintro rfl; simp_all
 have n1_8 : x1 ≠ x8 := by
  clear HX c4 c5 c6 c7 c8 b4 b5 b6 b7 b8
  rintro rfl; simp_all
 have n2_4 : x2 ≠ x4 := by
  clear HX c4 c5 c6 c7 c8 b4 b5 b6 b7 b8
  rintro rfl; simp_all
 have n2_5 : x2 ≠ x5 := by
  clear HX c4 c5 c6 c7 c8 b4 b5 b6 b7 b8
  rintro rfl; simp_all
 have n2_6 : x2 ≠ x6 := by
  clear HX c4 c5 c6 c7 c8 b4 b5 b6 b7 b8
  rintro rfl; simp_all
 have n2_7 : x2 ≠ x7 := by
  clear HX c4 c5 c6 c7 c8 b4 b5 b6 b7 b8
  rintro rfl; simp_all
 have n2_8 : x2 ≠ x8 := by
  clear HX c4 c5 c6 c7 c8 b4 b5 b6 b7 b8
  rintro rfl; simp_all
 have n4_5 : x4 ≠ x5 := by
  clear HX c4 c5 c6 c7 c8 b4 b5 b6 b7 b8
  rintro rfl; simp_all
 have n4_6 : x4 ≠ x6 := by
  clear HX c4 c5 c6 c7 c8 b4 b5 b6 b7 b8
  rintro rfl; simp_all
 have n4_7 : x4 ≠ x7 := by
  clear HX c4 c5 c6 c7 c8 b4 b5 b6 b7 b8
  rintro rfl; simp_all
 have n4_8 : x4 ≠ x8 := by
  clear HX c4 c5 c6 c7 c8 b4 b5 b6 b7 b8
  rintro rfl; simp_all
 have n5_6 : x5 ≠ x6 := by
  clear HX c4 c5 c6 c7 c8 b4 b5 b6 b7 b8
  rintro rfl; simp_all
 have n5_7 : x5 ≠ x7 := by
  clear HX c4 c5 c6 c7 c8 b4 b5 b6 b7 b8
  rintro rfl; simp_all
 have n5_8 : x5 ≠ x8 := by
  clear HX c4 c5 c6 c7 c8 b4 b5 b6 b7 b8
  rintro rfl; simp_all
 have n6_7 : x6 ≠ x7 := by
  clear HX c4 c5 c6 c7 c8 b4 b5 b6 b7 b8
  rintro rfl; simp_all
 have n6_8 : x6 ≠ x8 := by
  clear HX c4 c5 c6 c7 c8 b4 b5 b6 b7 b8
  rintro rfl; simp_all
 have n7_8 : x7 ≠ x8 := by
  clear HX c4 c5 c6 c7 c8 b4 b5 b6 b7 b8
  rintro rfl; simp_all
 have HS : StE W x4 x5 x6 x7 x8 := ⟨c4, c5, c6, c7, c8, b4, b5, b6, b7, b8, by
  clear HX c4 c5 c6 c7 c8 b4 b5 b6 b7 b8 hnd2
  simp
  exact ⟨⟨n4_5, n4_6, n4_7, n4_8⟩, ⟨n5_6, n5_7, n5_8⟩, ⟨n6_7, n6_8⟩, n7_8⟩⟩
 exact ⟨x0, x1, x2, x4, x5, x6, x7, x8, HX, HS, ⟨n1_0, n2_0⟩, fun x hx => by
  rcases hx with rfl | rfl
  ·exact ⟨n1_4, n1_5, n1_6, n1_7, n1_8⟩
  ·exact ⟨n2_4, n2_5, n2_6, n2_7, n2_8⟩⟩
theorem vars_len9 {H : Type} {enc : TypeId × Value → H} {P : Program} {w : World} {spare : Nat → Bool} {n1 n2 n3 n4 n5 n6 n7 n8 n9 : String} {gs : List (DataW H)} {ps : List MemPlace} (h : DataW.TrodVars enc P w spare [n1, n2, n3, n4, n5, n6, n7, n8, n9] gs ps) : ∃ d1 d2 d3 d4 d5 d6 d7 d8 d9, gs = [d1, d2, d3, d4, d5, d6, d7, d8, d9] := by
 match gs, h with
 | [d1, d2, d3, d4, d5, d6, d7, d8, d9], _ => exact ⟨d1, d2, d3, d4, d5, d6, d7, d8, d9, rfl⟩
end Go.Proofs.YtamjljhbnhdgdaaDoor

/- What FnTorn's walk names. -/
namespace Go.Proofs.YtamjljhbnhdgdaaDoor
open Go.ChangeShapes Go.WideShapes Go.ChangeAt Go.RowKit
set_option linter.unusedVariables false
theorem state_mk {tm vt : Int} {l : List Ent} {n : Nat} (h0 : 0 ≤ tm ∧ tm ≤ 1000) (h1 : -1 ≤ vt ∧ vt ≤ 2) (hn : l.length = n) (h2 : n ≤ 60) (h3 : logB tm 1 l = true) : stateB tm vt l = true := state_of h0 (by omega) (by omega) h3
theorem state_szs {tm vt : Int} {l : List Ent} (h : stateB tm vt l = true) : (∀ k (h : k < l.length), l[k].2.size ≤ 1048576) ∧ l.length ≤ 60 := by
 obtain ⟨b0, b1, b2, b3⟩ := state_parts h
 exact ⟨fun k hk => by have := (log_ent (Int.le_refl 1) b3 k hk).2; omega, b2⟩
theorem ext_list (d : ByteArray) (k : Nat) : (d.extract 0 k).data.toList = d.data.toList.take k := by
 simp [ByteArray.data_extract, List.extract_eq_take_drop]
/-- A drawn region's end, said once for all its orders: the temporaries as a function of the block made. -/
def CutP (ACT : Nat → Act) (F : Nat → World → Prop) : Exit → Act → World → Prop := fun x a' v' =>
 match x with
 | .normal => ∃ P, a' = ACT P ∧ F P v'
 | _ => False
theorem rv_is {d D3 : ByteArray} {s : Int} {tm vt : Int} {l : List Ent} {R : List ByteArray} (h0 : stoB d s = true) (h1 : (frs d.size d.data.toList).1 = R) (h2 : (frs d.size d.data.toList).2.1 = D3.size) (h3 : ¬ (frs d.size d.data.toList).2.2 = 8) (h4 : apAll (0, -1, []) R = some (tm, vt, l)) (h5 : D3 = d.extract 0 D3.size) : RvIs d s tm vt l D3 (D3.size : Int) 0 := by
 unfold RvIs
 rw [if_neg (by rw [h0]; decide), if_neg h3, h1, h4, h2]
 simp only
 rw [← h5]
theorem barr_ext {a b : ByteArray} (h : a.data.toList = b.data.toList) : a = b := by
 obtain ⟨⟨x⟩⟩ := a
 obtain ⟨⟨y⟩⟩ := b
 simp at h; rw [h]
theorem ap_step1 {tm vt tm0 vt0 : Int} {l l0 : List Ent} {L : List ByteArray} {F : Int × Int × List Ent} {k : Nat} (hF : apAll (tm0, vt0, l0) L = some F) (h : apAll (tm0, vt0, l0) (L.take k) = some (tm, vt, l)) (hk : k < L.length) (hs : stateB tm vt l = true) (hz : L[k].size ≤ 65536) : ∃ tm' vt' l', ApIs tm vt l L[k] tm' vt' l' 0 ∧ stateB tm' vt' l' = true ∧ apAll (tm0, vt0, l0) (L.take (k + 1)) = some (tm', vt', l') := by
 obtain ⟨q, h1, -⟩ := apAll_take hF (k + 1)
 have h2 := h1
 rw [List.take_add_one, List.getElem?_eq_getElem hk, apAll_app _ _ _ _ h] at h1
 cases hq : apF tm vt l L[k] with
 | none => simp [apAll, hq] at h1
 | some q2 =>
  obtain ⟨a, b, c⟩ := q2
  simp [apAll, hq] at h1
  refine ⟨a, b, c, ?_, apF_right hq, by rw [h2, ← h1]⟩
  unfold ApIs; rw [if_neg (by omega), if_neg (by simp [hs]), hq]
theorem rowS_cell {w : World} {b o k : Nat} {L : List ByteArray} {t : ByteArray} (h : RowV w (some ⟨b, o, none⟩) (cS L)) (hk : k < L.length) (ht : t = L[k]) : w.cell? ⟨b, o + k, none⟩ = some (.string t) := by
 obtain ⟨b', o', e', _, hc'⟩ := h.at (by rw [cS_len]; omega)
 injection e' with e'; injection e' with e1 e2
 subst e1 e2
 rw [ht]; exact hc' k _ (cS_at L k hk)
theorem errs_laidT {W : World} (h : laidMetH Tryd.prog Rows.fnTornRow.laid W) : Errs9 W := by
 have h' : laidMet Tryd.prog [("loop.example/g00308/impl.errCutOff", Rows.laid_loop_example_g00308_impl_errCutOff), ("loop.example/g00308/impl.errBounds", Rows.laid_loop_example_g00308_impl_errBounds), ("loop.example/g00308/impl.errSum", Rows.laid_loop_example_g00308_impl_errSum), ("loop.example/g00308/impl.errBehind", Rows.laid_loop_example_g00308_impl_errBehind), ("loop.example/g00308/impl.errNoRecord", Rows.laid_loop_example_g00308_impl_errNoRecord), ("loop.example/g00308/impl.errNotRight", Rows.laid_loop_example_g00308_impl_errNotRight), ("loop.example/g00308/impl.errLowerTerm", Rows.laid_loop_example_g00308_impl_errLowerTerm), ("loop.example/g00308/impl.errRecordSize", Rows.laid_loop_example_g00308_impl_errRecordSize), ("loop.example/g00308/impl.errNoRoom", Rows.laid_loop_example_g00308_impl_errNoRoom)] W ∧ handlesMet Tryd.prog [("errors.errorType", Rows.laid_errors_errorType)] W := h
 exact errs9 h'.1 h'.2
end Go.Proofs.YtamjljhbnhdgdaaDoor

/- A slice of bytes that came in leads to a row of bytes. -/
namespace Go.Proofs.YtamjljhbnhdgdaaDoor
open Go.ChangeShapes Go.WideShapes Go.ChangeAt Go.RowKit
theorem row8_ints {w : World} {x : Addr} {len cap : Nat} {zs : List Int} (hl : len ≤ cap) (hz : zs.length = cap) (hcell : ∀ i, i < zs.length → w.cell? (x.add i) = some (.int .u8 (zs.getD i 0))) (hwz : ∀ n ∈ zs, (Lit.int .u8 n).wf = true) :
  ∃ l : List UInt8, l.length = len ∧ Row8 w (some x) l := by
 refine ⟨(zs.take len).map (fun n => UInt8.ofNat n.toNat), by simp; omega, ?_⟩
 by_cases h0 : len = 0
 ·left; simp [h0]
 ·right
  obtain ⟨b, off, spot⟩ := x
  have hc := hcell 0 (by omega)
  have hspot : spot = none := by simpa [Addr.add] using World.cell?_spot hc
  subst hspot
  refine ⟨b, off, rfl, World.block_lt_of_cell? w _ hc, fun i hi => ?_⟩
  have hi' : i < len := by simp at hi; omega
  have hci := hcell i (by omega)
  have hlt : i < zs.length := by omega
  have hg : zs.getD i 0 = zs[i] := by simp [hlt]
  have hmem : zs.getD i 0 ∈ zs := by rw [hg]; exact List.getElem_mem _
  have hb := bounds_u8 (hwz _ hmem)
  rw [show (⟨b, off, none⟩ : Addr).add i = ⟨b, off + i, none⟩ from by unfold Addr.add; split <;> simp_all] at hci
  rw [hci]
  have e1 : ((zs.take len).map (fun n => UInt8.ofNat n.toNat))[i] = UInt8.ofNat (zs.getD i 0).toNat := by
   rw [List.getElem_map, List.getElem_take, hg]
  rw [e1, UInt8.toNat_ofNat']
  congr 2
  omega
end Go.Proofs.YtamjljhbnhdgdaaDoor
