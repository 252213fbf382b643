/- Texts put together: SapU SapV SapW SapX SapY StT. -/
import Derived.Test.YtkdplhhkkpkmoaaDoorZG22
import Derived.Test.YtkdplhhkkpkmoaaDoorZSteS
import Derived.BigQuiet
import Derived.Test.YtkdplhhkkpkmoaaDoorZG16
import Derived.Test.YtkdplhhkkpkmoaaDoorZG13
import Derived.Test.YtkdplhhkkpkmoaaDoorZG21
import Derived.Test.YtkdplhhkkpkmoaaDoorZG9
import Derived.Stop.LaidTwo
import Derived.LaidHandle
import Derived.OpenVars
import Derived.LaidMore
/- spec.l07Apply of records: what the specification answers. -/
namespace Go.Proofs.YtkdplhhkkpkmoaaDoor
open Go.ChangeShapes Go.WideShapes Go.ChangeAt Go.RowKit
set_option linter.unusedVariables false
end Go.Proofs.YtkdplhhkkpkmoaaDoor

/- spec.l07Apply of a cut: what the specification answers. -/
namespace Go.Proofs.YtkdplhhkkpkmoaaDoor
open Go.ChangeShapes Go.WideShapes Go.ChangeAt Go.RowKit
set_option linter.unusedVariables false
end Go.Proofs.YtkdplhhkkpkmoaaDoor

/- spec.l07Apply of an entry: what the specification answers. -/
namespace Go.Proofs.YtkdplhhkkpkmoaaDoor
open Go.ChangeShapes Go.WideShapes Go.ChangeAt Go.RowKit
set_option linter.unusedVariables false
end Go.Proofs.YtkdplhhkkpkmoaaDoor

/- spec.l07Apply of any text: what the specification answers. -/
namespace Go.Proofs.YtkdplhhkkpkmoaaDoor
open Go.ChangeShapes Go.WideShapes Go.ChangeAt Go.RowKit
set_option linter.unusedVariables false
/-- What l07Apply answers, as apF tells it. -/
def SapTo (o : Option (Int × Int × List Ent)) (w w' : World) (e : Ending) : Prop :=
 match o with
 | none => ∃ x y a n c, e = .returned (.tuple #[.agg #[.int .i64 x, .int .i64 y, .slice a n c], .bool false])
 | some (tm2, vt2, l2) => ∃ v, e = .returned (.tuple #[.agg #[.int .i64 tm2, .int .i64 vt2, v], .bool true]) ∧ w'.ownsRow w.heap.size 46 2 v l2.length (cE l2)
theorem len1 {L : List Int} (h : L.length = 1) : ∃ x, L = [x] := by
 match L, h with | [x], _ => exact ⟨x, rfl⟩
end Go.Proofs.YtkdplhhkkpkmoaaDoor

/- spec.ApplyRecord: what the specification answers. -/
namespace Go.Proofs.YtkdplhhkkpkmoaaDoor
open Go.ChangeShapes Go.WideShapes Go.ChangeAt Go.RowKit
set_option linter.unusedVariables false
end Go.Proofs.YtkdplhhkkpkmoaaDoor

/- What the row's list gives of the named errors of stores. -/
namespace Go.Proofs.YtkdplhhkkpkmoaaDoor
open Go.ChangeShapes Go.WideShapes Go.ChangeAt Go.RowKit
set_option linter.unusedVariables false
theorem starE : "*" ++ "errors.errorString" = "*errors.errorString" := by decide
theorem rowE (u : TypeId) (h : Tryd.prog.typeName? 3 u = some "*errors.errorString") : u = 124 :=
 typeName_ptr_named (nm := "errors.errorString") (by rw [starE]; kernel_rfl) (by kernel_rfl) (by decide) u (by rw [starE]; exact h)
set_option maxHeartbeats 1000000 in
set_option maxRecDepth 100000 in
theorem errs5 {W : World} (h : laidMet Tryd.prog [("loop.example/g00308/impl.errNoRecord", Rows.laid_loop_example_g00308_impl_errNoRecord), ("loop.example/g00308/impl.errNotRight", Rows.laid_loop_example_g00308_impl_errNotRight), ("loop.example/g00308/impl.errLowerTerm", Rows.laid_loop_example_g00308_impl_errLowerTerm), ("loop.example/g00308/impl.errRecordSize", Rows.laid_loop_example_g00308_impl_errRecordSize), ("loop.example/g00308/impl.errNoRoom", Rows.laid_loop_example_g00308_impl_errNoRoom)] W) : ∃ x0 x1 x2 x3 x4, StE W x0 x1 x2 x3 x4 := by
 obtain ⟨ps, ⟨g0, t0, cs0, f0, p0, q0, hg0, ht0, hv0, hd0, ⟨g1, t1, cs1, f1, p1, q1, hg1, ht1, hv1, hd1, ⟨g2, t2, cs2, f2, p2, q2, hg2, ht2, hv2, hd2, ⟨g3, t3, cs3, f3, p3, q3, hg3, ht3, hv3, hd3, ⟨g4, t4, cs4, f4, p4, q4, hg4, ht4, hv4, hd4, _, e4⟩, e3⟩, e2⟩, e1⟩, e0⟩, hnd, hrows⟩ := h
 obtain rfl : g0 = 2 := Option.some.inj (hg0.symm.trans (by kernel_rfl))
 obtain rfl : t0 = 51 := Option.some.inj (ht0.symm.trans (by kernel_rfl))
 obtain rfl : g1 = 0 := Option.some.inj (hg1.symm.trans (by kernel_rfl))
 obtain rfl : t1 = 51 := Option.some.inj (ht1.symm.trans (by kernel_rfl))
 obtain rfl : g2 = 1 := Option.some.inj (hg2.symm.trans (by kernel_rfl))
 obtain rfl : t2 = 51 := Option.some.inj (ht2.symm.trans (by kernel_rfl))
 obtain rfl : g3 = 3 := Option.some.inj (hg3.symm.trans (by kernel_rfl))
 obtain rfl : t3 = 51 := Option.some.inj (ht3.symm.trans (by kernel_rfl))
 obtain rfl : g4 = 4 := Option.some.inj (hg4.symm.trans (by kernel_rfl))
 obtain rfl : t4 = 51 := Option.some.inj (ht4.symm.trans (by kernel_rfl))
 subst e4
 subst e3
 subst e2
 subst e1
 subst e0
 obtain ⟨l0⟩ := cs0
 obtain ⟨l1⟩ := cs1
 obtain ⟨l2⟩ := cs2
 obtain ⟨l3⟩ := cs3
 obtain ⟨l4⟩ := cs4
 have ok0 : ∀ u v, l0 = [.iface u v] → Value.okWide Tryd.prog W .any 0 u v := fun u v e => by
  subst e
  exact (hrows 2 0 (by simp [MemPlace.row])).2 u v (by simpa using World.var?_cell hg0 hv0 0)
 have ok1 : ∀ u v, l1 = [.iface u v] → Value.okWide Tryd.prog W .any 0 u v := fun u v e => by
  subst e
  exact (hrows 0 0 (by simp [MemPlace.row])).2 u v (by simpa using World.var?_cell hg1 hv1 0)
 have ok2 : ∀ u v, l2 = [.iface u v] → Value.okWide Tryd.prog W .any 0 u v := fun u v e => by
  subst e
  exact (hrows 1 0 (by simp [MemPlace.row])).2 u v (by simpa using World.var?_cell hg2 hv2 0)
 have ok3 : ∀ u v, l3 = [.iface u v] → Value.okWide Tryd.prog W .any 0 u v := fun u v e => by
  subst e
  exact (hrows 3 0 (by simp [MemPlace.row])).2 u v (by simpa using World.var?_cell hg3 hv3 0)
 have ok4 : ∀ u v, l4 = [.iface u v] → Value.okWide Tryd.prog W .any 0 u v := fun u v e => by
  subst e
  exact (hrows 4 0 (by simp [MemPlace.row])).2 u v (by simpa using World.var?_cell hg4 hv4 0)
 obtain ⟨x0, s0, rfl, hc0, -, -, rfl⟩ := errorString_of_trod Tryd.underlying51 rowE Tryd.underlying124 Tryd.underlying145 rfl rfl Tryd.underlying9 (by kernel_rfl) (by kernel_rfl) hd0 ok0
 obtain ⟨x1, s1, rfl, hc1, -, -, rfl⟩ := errorString_of_trod Tryd.underlying51 rowE Tryd.underlying124 Tryd.underlying145 rfl rfl Tryd.underlying9 (by kernel_rfl) (by kernel_rfl) hd1 ok1
 obtain ⟨x2, s2, rfl, hc2, -, -, rfl⟩ := errorString_of_trod Tryd.underlying51 rowE Tryd.underlying124 Tryd.underlying145 rfl rfl Tryd.underlying9 (by kernel_rfl) (by kernel_rfl) hd2 ok2
 obtain ⟨x3, s3, rfl, hc3, -, -, rfl⟩ := errorString_of_trod Tryd.underlying51 rowE Tryd.underlying124 Tryd.underlying145 rfl rfl Tryd.underlying9 (by kernel_rfl) (by kernel_rfl) hd3 ok3
 obtain ⟨x4, s4, rfl, hc4, -, -, rfl⟩ := errorString_of_trod Tryd.underlying51 rowE Tryd.underlying124 Tryd.underlying145 rfl rfl Tryd.underlying9 (by kernel_rfl) (by kernel_rfl) hd4 ok4
 refine ⟨x0, x1, x2, x3, x4, by simpa using World.var?_cell hg0 hv0 0, by simpa using World.var?_cell hg1 hv1 0, by simpa using World.var?_cell hg2 hv2 0, by simpa using World.var?_cell hg3 hv3 0, by simpa using World.var?_cell hg4 hv4 0, (hrows x0.block x0.off (by simp [MemPlace.row])).1, (hrows x1.block x1.off (by simp [MemPlace.row])).1, (hrows x2.block x2.off (by simp [MemPlace.row])).1, (hrows x3.block x3.off (by simp [MemPlace.row])).1, (hrows x4.block x4.off (by simp [MemPlace.row])).1, ?_⟩
 have hr : ∀ (a b : Addr), a = b → MemPlace.row a 1 = MemPlace.row b 1 := fun a b e => by rw [e]
 simp [MemPlace.row] at hnd
 simp
 refine ⟨⟨?_, ?_, ?_, ?_⟩, ⟨?_, ?_, ?_⟩, ⟨?_, ?_⟩, ?_⟩ <;> (rintro rfl; simp_all)
end Go.Proofs.YtkdplhhkkpkmoaaDoor
