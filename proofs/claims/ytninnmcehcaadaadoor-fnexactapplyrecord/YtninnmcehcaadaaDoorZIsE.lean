/- errors.Is where both errors are of errors.New's make: what it answers. Go's own text is walked. -/
import Derived.Test.YtninnmcehcaadaaDoorZRowV
import Derived.LaidEql
import Derived.Stop.Asserts
import Derived.RowKitTokens
namespace Go.Proofs.YtninnmcehcaadaaDoor
open Go.ChangeShapes Go.WideShapes Go.ChangeAt Go.RowKit Go.Extern.Stop Go.Stop Go.Extern
theorem Tryd.eComp : (Tryd.prog.info? 119).map (·.comparable) = some true := by kernel_rfl
theorem Tryd.eSize : (Tryd.prog.info? 141).map (·.size) = some 1 := by kernel_rfl
/-- What is asked of the target's type. -/
theorem typeOfE (v : Value) (w : World) : (callFunc 40 #[.iface 119 v]).run Tryd.prog w = .ok (.value (.iface 89 (.agg #[.pointer (some ⟨9, 119, none⟩)]))) w := by
  rw [@run_callFunc_extern Tryd.prog 40 _ Extern.ReflectliteType.typeOf Tryd.func40 (by kernel_rfl) (by kernel_rfl) (by kernel_rfl) (by kernel_rfl)]
  kernel_rfl
theorem compOfE (w : World) : (callFunc 75 #[.agg #[.pointer (some ⟨9, 119, none⟩)]]).run Tryd.prog w = .ok (.value (.bool true)) w := by
  rw [@run_callFunc_extern Tryd.prog 75 _ (Extern.ReflectliteType.method fun t => do Rtype.noPackHeld "Comparable" t; pure (.bool (← typeInfo t).comparable)) Tryd.func75 (by kernel_rfl) (by kernel_rfl) (by kernel_rfl) (by kernel_rfl)]
  kernel_rfl
theorem methOfE (v : Value) (w : World) : (Go.method 252 89 v "Comparable").run Tryd.prog w = .ok (75, v) w := by kernel_rfl
/-- An error of errors.New's make has none of the methods that errors.Is asks for. -/
theorem lackE (v : Value) (xT : TypeId) (w : World) : (Instr.typeAssert (.iface 119 v) xT 91 true).run Tryd.prog w = .ok (.tuple #[.nilIface, .bool false]) w ∧ (Instr.typeAssert (.iface 119 v) xT 94 true).run Tryd.prog w = .ok (.tuple #[.nilIface, .bool false]) w ∧ (Instr.typeAssert (.iface 119 v) xT 96 true).run Tryd.prog w = .ok (.tuple #[.nilIface, .bool false]) w :=
  ⟨run_typeAssert_lacksB Tryd.underlying91 (by kernel_rfl) (by kernel_rfl) v xT w, run_typeAssert_lacksB Tryd.underlying94 (by kernel_rfl) (by kernel_rfl) v xT w, run_typeAssert_lacksB Tryd.underlying96 (by kernel_rfl) (by kernel_rfl) v xT w⟩
set_option maxHeartbeats 1000000 in
set_option maxRecDepth 100000 in
/-- Two errors of errors.New's make: errors.Is says whether they are one. -/
theorem iis (a b : Addr) (R : Bool) (w : World) (h : (R = true ∧ a = b) ∨ (R = false ∧ a ≠ b ∧ (∃ c t, w.heap[a.block]? = some (.cells c t (0, 0))) ∧ ∃ c t, w.heap[b.block]? = some (.cells c t (0, 0)))) :
    Calls Tryd.prog 33 #[.iface 119 (.pointer (some a)), .iface 119 (.pointer (some b))] w fun e w' => e = .returned (.bool R) ∧ w' = w := by
  obtain ⟨i, hi, hcmp⟩ := Option.map_eq_some_iff.1 Tryd.eComp
  obtain ⟨j, hj, hjs⟩ := Option.map_eq_some_iff.1 Tryd.eSize
  have tT := typeOfE
  have cT := compOfE
  have mR := methOfE
  have l1 := fun v xT w => (lackE v xT w).1
  have l2 := fun v xT w => (lackE v xT w).2.1
  have l3 := fun v xT w => (lackE v xT w).2.2
  rcases h with ⟨rfl, rfl⟩ | ⟨rfl, hne, ⟨ca, ta, ha⟩, cb, tb, hb⟩
  · have heq := run_eql_iface_ptr_same (P := Tryd.prog) w a Tryd.underlying43 Tryd.underlying119 hi hcmp hj
    go_enter Tryd.func33, Tryd.ntmps33
    go_wp2
    refine wp_loop_rounds 1 ?_
    rw [rounds_succ]
    go_wp2
    go_ret
    exact ⟨rfl, rfl⟩
  · have heq := run_eql_iface_ptr_other (P := Tryd.prog) w Tryd.underlying43 Tryd.underlying119 hi hcmp hj (by rw [hjs]; decide) hne ha hb
    go_enter Tryd.func33, Tryd.ntmps33
    go_wp2
    refine wp_loop_rounds 1 ?_
    rw [rounds_succ]
    go_wp2
    go_ret
    exact ⟨rfl, rfl⟩
end Go.Proofs.YtninnmcehcaadaaDoor
