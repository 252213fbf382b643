/- Texts put together: StT StA. -/
import Derived.Test.YtninnmcehcaadaaDoorZStE
import Derived.Stop.LaidTwo
import Derived.LaidHandle
import Derived.OpenVars
import Derived.LaidMore
import Derived.Test.YtninnmcehcaadaaDoorZReadFT
import Derived.Test.YtninnmcehcaadaaDoorZApN
import Derived.Stop.LaidErr
/- What the row's list gives of the named errors of stores. -/
namespace Go.Proofs.YtninnmcehcaadaaDoor
open Go.ChangeShapes Go.WideShapes Go.ChangeAt Go.RowKit
set_option linter.unusedVariables false
theorem starE : "*" ++ "errors.errorString" = "*errors.errorString" := by decide
theorem rowE (u : TypeId) (h : Tryd.prog.typeName? 3 u = some "*errors.errorString") : u = 119 :=
  typeName_ptr_named (nm := "errors.errorString") (by rw [starE]; kernel_rfl) (by kernel_rfl) (by decide) u (by rw [starE]; exact h)
set_option maxHeartbeats 1000000 in
set_option maxRecDepth 100000 in
theorem errs5 {W : World} (h : laidMet Tryd.prog [("loop.example/g00308/impl.errNoRecord", Rows.laid_loop_example_g00308_impl_errNoRecord), ("loop.example/g00308/impl.errNotRight", Rows.laid_loop_example_g00308_impl_errNotRight), ("loop.example/g00308/impl.errLowerTerm", Rows.laid_loop_example_g00308_impl_errLowerTerm), ("loop.example/g00308/impl.errRecordSize", Rows.laid_loop_example_g00308_impl_errRecordSize), ("loop.example/g00308/impl.errNoRoom", Rows.laid_loop_example_g00308_impl_errNoRoom)] W) : ∃ x0 x1 x2 x3 x4, StE W x0 x1 x2 x3 x4 := by
  obtain ⟨ps, ⟨g0, t0, cs0, f0, p0, q0, hg0, ht0, hv0, hd0, ⟨g1, t1, cs1, f1, p1, q1, hg1, ht1, hv1, hd1, ⟨g2, t2, cs2, f2, p2, q2, hg2, ht2, hv2, hd2, ⟨g3, t3, cs3, f3, p3, q3, hg3, ht3, hv3, hd3, ⟨g4, t4, cs4, f4, p4, q4, hg4, ht4, hv4, hd4, _, e4⟩, e3⟩, e2⟩, e1⟩, e0⟩, hnd, hrows⟩ := h
  obtain rfl : g0 = 2 := Option.some.inj (hg0.symm.trans (by kernel_rfl))
  obtain rfl : t0 = 43 := Option.some.inj (ht0.symm.trans (by kernel_rfl))
  obtain rfl : g1 = 0 := Option.some.inj (hg1.symm.trans (by kernel_rfl))
  obtain rfl : t1 = 43 := Option.some.inj (ht1.symm.trans (by kernel_rfl))
  obtain rfl : g2 = 1 := Option.some.inj (hg2.symm.trans (by kernel_rfl))
  obtain rfl : t2 = 43 := Option.some.inj (ht2.symm.trans (by kernel_rfl))
  obtain rfl : g3 = 3 := Option.some.inj (hg3.symm.trans (by kernel_rfl))
  obtain rfl : t3 = 43 := Option.some.inj (ht3.symm.trans (by kernel_rfl))
  obtain rfl : g4 = 4 := Option.some.inj (hg4.symm.trans (by kernel_rfl))
  obtain rfl : t4 = 43 := Option.some.inj (ht4.symm.trans (by kernel_rfl))
  subst e4
  subst e3
  subst e2
  subst e1
  subst e0
  obtain ⟨l0⟩ := cs0
  obtain ⟨l1⟩ := cs1
  obtain ⟨l2⟩ := cs2
  obtain ⟨l3⟩ := cs3
  obtain ⟨l4⟩ := cs4
  have ok0 : ∀ u v, l0 = [.iface u v] → Value.okWide Tryd.prog W .any 0 u v := fun u v e => by
    subst e
    exact (hrows 2 0 (by simp [MemPlace.row])).2 u v (by simpa using World.var?_cell hg0 hv0 0)
  have ok1 : ∀ u v, l1 = [.iface u v] → Value.okWide Tryd.prog W .any 0 u v := fun u v e => by
    subst e
    exact (hrows 0 0 (by simp [MemPlace.row])).2 u v (by simpa using World.var?_cell hg1 hv1 0)
  have ok2 : ∀ u v, l2 = [.iface u v] → Value.okWide Tryd.prog W .any 0 u v := fun u v e => by
    subst e
    exact (hrows 1 0 (by simp [MemPlace.row])).2 u v (by simpa using World.var?_cell hg2 hv2 0)
  have ok3 : ∀ u v, l3 = [.iface u v] → Value.okWide Tryd.prog W .any 0 u v := fun u v e => by
    subst e
    exact (hrows 3 0 (by simp [MemPlace.row])).2 u v (by simpa using World.var?_cell hg3 hv3 0)
  have ok4 : ∀ u v, l4 = [.iface u v] → Value.okWide Tryd.prog W .any 0 u v := fun u v e => by
    subst e
    exact (hrows 4 0 (by simp [MemPlace.row])).2 u v (by simpa using World.var?_cell hg4 hv4 0)
  obtain ⟨x0, s0, rfl, hc0, -, -, rfl⟩ := errorString_of_trod Tryd.underlying43 rowE Tryd.underlying119 Tryd.underlying141 rfl rfl Tryd.underlying9 (by kernel_rfl) (by kernel_rfl) hd0 ok0
  obtain ⟨x1, s1, rfl, hc1, -, -, rfl⟩ := errorString_of_trod Tryd.underlying43 rowE Tryd.underlying119 Tryd.underlying141 rfl rfl Tryd.underlying9 (by kernel_rfl) (by kernel_rfl) hd1 ok1
  obtain ⟨x2, s2, rfl, hc2, -, -, rfl⟩ := errorString_of_trod Tryd.underlying43 rowE Tryd.underlying119 Tryd.underlying141 rfl rfl Tryd.underlying9 (by kernel_rfl) (by kernel_rfl) hd2 ok2
  obtain ⟨x3, s3, rfl, hc3, -, -, rfl⟩ := errorString_of_trod Tryd.underlying43 rowE Tryd.underlying119 Tryd.underlying141 rfl rfl Tryd.underlying9 (by kernel_rfl) (by kernel_rfl) hd3 ok3
  obtain ⟨x4, s4, rfl, hc4, -, -, rfl⟩ := errorString_of_trod Tryd.underlying43 rowE Tryd.underlying119 Tryd.underlying141 rfl rfl Tryd.underlying9 (by kernel_rfl) (by kernel_rfl) hd4 ok4
  refine ⟨x0, x1, x2, x3, x4, by simpa using World.var?_cell hg0 hv0 0, by simpa using World.var?_cell hg1 hv1 0, by simpa using World.var?_cell hg2 hv2 0, by simpa using World.var?_cell hg3 hv3 0, by simpa using World.var?_cell hg4 hv4 0, (hrows x0.block x0.off (by simp [MemPlace.row])).1, (hrows x1.block x1.off (by simp [MemPlace.row])).1, (hrows x2.block x2.off (by simp [MemPlace.row])).1, (hrows x3.block x3.off (by simp [MemPlace.row])).1, (hrows x4.block x4.off (by simp [MemPlace.row])).1, ?_⟩
  have hr : ∀ (a b : Addr), a = b → MemPlace.row a 1 = MemPlace.row b 1 := fun a b e => by rw [e]
  simp [MemPlace.row] at hnd
  simp
  refine ⟨⟨?_, ?_, ?_, ?_⟩, ⟨?_, ?_, ?_⟩, ⟨?_, ?_⟩, ?_⟩ <;> (rintro rfl; simp_all)
end Go.Proofs.YtninnmcehcaadaaDoor

/- What the row's list gives of the named errors of fields and of stores, together; ApplyRecord's answer is there. -/
namespace Go.Proofs.YtninnmcehcaadaaDoor
open Go.ChangeShapes Go.WideShapes Go.ChangeAt Go.RowKit
set_option linter.unusedVariables false
theorem errs8 {W : World} (h : laidMet Tryd.prog [("loop.example/g00308/impl.errCutOff", Rows.laid_loop_example_g00308_impl_errCutOff), ("loop.example/g00308/impl.errBounds", Rows.laid_loop_example_g00308_impl_errBounds), ("loop.example/g00308/impl.errBehind", Rows.laid_loop_example_g00308_impl_errBehind), ("loop.example/g00308/impl.errNoRecord", Rows.laid_loop_example_g00308_impl_errNoRecord), ("loop.example/g00308/impl.errNotRight", Rows.laid_loop_example_g00308_impl_errNotRight), ("loop.example/g00308/impl.errLowerTerm", Rows.laid_loop_example_g00308_impl_errLowerTerm), ("loop.example/g00308/impl.errRecordSize", Rows.laid_loop_example_g00308_impl_errRecordSize), ("loop.example/g00308/impl.errNoRoom", Rows.laid_loop_example_g00308_impl_errNoRoom)] W) (h2 : handlesMet Tryd.prog [("errors.errorType", Rows.laid_errors_errorType)] W) : ErrsIn W ∧ ∃ x0 x1 x2 x3 x4, StE W x0 x1 x2 x3 x4 :=
  ⟨⟨handle_of h2, iface_cell (by kernel_rfl) (by kernel_rfl) Tryd.underlying43 (Lib.laidMet.reads h (List.mem_cons_self ..)),
    iface_cell (by kernel_rfl) (by kernel_rfl) Tryd.underlying43 (Lib.laidMet.reads h (List.mem_cons_of_mem _ (List.mem_cons_self ..))),
    iface_cell (by kernel_rfl) (by kernel_rfl) Tryd.underlying43 (Lib.laidMet.reads h (List.mem_cons_of_mem _ (List.mem_cons_of_mem _ (List.mem_cons_self ..))))⟩, errs5 h.tail.tail.tail⟩
theorem errs_laidA {W : World} (h : laidMetH Tryd.prog Rows.fnExactApplyRecordRow.laid W) : ErrsIn W ∧ ∃ x0 x1 x2 x3 x4, StE W x0 x1 x2 x3 x4 := by
  have h' : laidMet Tryd.prog [("loop.example/g00308/impl.errCutOff", Rows.laid_loop_example_g00308_impl_errCutOff), ("loop.example/g00308/impl.errBounds", Rows.laid_loop_example_g00308_impl_errBounds), ("loop.example/g00308/impl.errBehind", Rows.laid_loop_example_g00308_impl_errBehind), ("loop.example/g00308/impl.errNoRecord", Rows.laid_loop_example_g00308_impl_errNoRecord), ("loop.example/g00308/impl.errNotRight", Rows.laid_loop_example_g00308_impl_errNotRight), ("loop.example/g00308/impl.errLowerTerm", Rows.laid_loop_example_g00308_impl_errLowerTerm), ("loop.example/g00308/impl.errRecordSize", Rows.laid_loop_example_g00308_impl_errRecordSize), ("loop.example/g00308/impl.errNoRoom", Rows.laid_loop_example_g00308_impl_errNoRoom)] W ∧ handlesMet Tryd.prog [("errors.errorType", Rows.laid_errors_errorType)] W := h
  exact errs8 h'.1 h'.2
theorem vars_len8 {H : Type} {enc : TypeId × Value → H} {P : Program} {w : World} {spare : Nat → Bool} {n1 n2 n3 n4 n5 n6 n7 n8 : String} {gs : List (DataW H)} {ps : List MemPlace} (h : DataW.TrodVars enc P w spare [n1, n2, n3, n4, n5, n6, n7, n8] gs ps) : ∃ d1 d2 d3 d4 d5 d6 d7 d8, gs = [d1, d2, d3, d4, d5, d6, d7, d8] := by
  match gs, h with
  | [d1, d2, d3, d4, d5, d6, d7, d8], _ => exact ⟨d1, d2, d3, d4, d5, d6, d7, d8, rfl⟩
theorem ap_ex (tm vt : Int) (l : List Ent) (t : ByteArray) : ∃ tm' vt' l' c, ApIs tm vt l t tm' vt' l' c ∧ l'.length ≤ 60 := by
  by_cases h1 : 65536 < t.size
  · exact ⟨0, 0, [], 2, by unfold ApIs; rw [if_pos h1], by decide⟩
  · by_cases h2 : stateB tm vt l = false
    · exact ⟨0, 0, [], 1, by unfold ApIs; rw [if_neg h1, if_pos h2], by decide⟩
    · cases hF : apF tm vt l t with
      | none => exact ⟨tm, vt, l, 3, by unfold ApIs; rw [if_neg h1, if_neg h2, hF], (state_parts (by simpa using h2)).2.2.1⟩
      | some q =>
        obtain ⟨tm2, vt2, l2⟩ := q
        refine ⟨tm2, vt2, l2, 0, by unfold ApIs; rw [if_neg h1, if_neg h2, hF], ?_⟩
        unfold apF at hF
        split at hF
        · split at hF
          · rename_i h4 h5
            injection hF with hF; injection hF with e1 hF; injection hF with e2 e3
            subst e1 e2 e3
            exact (state_parts h5.1).2.2.1
          · cases hF
        · cases hF
end Go.Proofs.YtninnmcehcaadaaDoor
