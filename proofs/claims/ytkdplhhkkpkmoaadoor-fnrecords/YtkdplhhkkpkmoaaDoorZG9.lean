/- Texts put together: IsE StE. -/
import Derived.Test.YtkdplhhkkpkmoaaDoorZRowV
import Derived.LaidEql
import Derived.Stop.Asserts
import Derived.RowKitTokens
import Derived.Test.YtkdplhhkkpkmoaaDoorZG3
/- errors.Is where both errors are of errors.New's make: what it answers. Go's own text is walked. -/
namespace Go.Proofs.YtkdplhhkkpkmoaaDoor
open Go.ChangeShapes Go.WideShapes Go.ChangeAt Go.RowKit Go.Extern.Stop Go.Stop Go.Extern
theorem Tryd.eComp : (Tryd.prog.info? 124).map (·.comparable) = some true := by kernel_rfl
theorem Tryd.eSize : (Tryd.prog.info? 145).map (·.size) = some 1 := by kernel_rfl
/-- What is asked of the target's type. -/
theorem typeOfE (v : Value) (w : World) : (callFunc 47 #[.iface 124 v]).run Tryd.prog w = .ok (.value (.iface 95 (.agg #[.pointer (some ⟨9, 124, none⟩)]))) w := by
 rw [@run_callFunc_extern Tryd.prog 47 _ Extern.ReflectliteType.typeOf Tryd.func47 (by kernel_rfl) (by kernel_rfl) (by kernel_rfl) (by kernel_rfl)]
 kernel_rfl
theorem compOfE (w : World) : (callFunc 82 #[.agg #[.pointer (some ⟨9, 124, none⟩)]]).run Tryd.prog w = .ok (.value (.bool true)) w := by
 rw [@run_callFunc_extern Tryd.prog 82 _ (Extern.ReflectliteType.method fun t => do Rtype.noPackHeld "Comparable" t; pure (.bool (← typeInfo t).comparable)) Tryd.func82 (by kernel_rfl) (by kernel_rfl) (by kernel_rfl) (by kernel_rfl)]
 kernel_rfl
theorem methOfE (v : Value) (w : World) : (Go.method 256 95 v "Comparable").run Tryd.prog w = .ok (82, v) w := by kernel_rfl
/-- An error of errors.New's make has none of the methods that errors.Is asks for. -/
theorem lackE (v : Value) (xT : TypeId) (w : World) : (Instr.typeAssert (.iface 124 v) xT 97 true).run Tryd.prog w = .ok (.tuple #[.nilIface, .bool false]) w ∧ (Instr.typeAssert (.iface 124 v) xT 100 true).run Tryd.prog w = .ok (.tuple #[.nilIface, .bool false]) w ∧ (Instr.typeAssert (.iface 124 v) xT 102 true).run Tryd.prog w = .ok (.tuple #[.nilIface, .bool false]) w :=
 ⟨run_typeAssert_lacksB Tryd.underlying97 (by kernel_rfl) (by kernel_rfl) v xT w, run_typeAssert_lacksB Tryd.underlying100 (by kernel_rfl) (by kernel_rfl) v xT w, run_typeAssert_lacksB Tryd.underlying102 (by kernel_rfl) (by kernel_rfl) v xT w⟩
set_option maxHeartbeats 1000000 in
set_option maxRecDepth 100000 in
/-- Two errors of errors.New's make: errors.Is says whether they are one. -/
theorem iis (a b : Addr) (R : Bool) (w : World) (h : (R = true ∧ a = b) ∨ (R = false ∧ a ≠ b ∧ (∃ c t, w.heap[a.block]? = some (.cells c t (0, 0))) ∧ ∃ c t, w.heap[b.block]? = some (.cells c t (0, 0)))) :
  Calls Tryd.prog 38 #[.iface 124 (.pointer (some a)), .iface 124 (.pointer (some b))] w fun e w' => e = .returned (.bool R) ∧ w' = w := by
 obtain ⟨i, hi, hcmp⟩ := Option.map_eq_some_iff.1 Tryd.eComp
 obtain ⟨j, hj, hjs⟩ := Option.map_eq_some_iff.1 Tryd.eSize
 have tT := typeOfE
 have cT := compOfE
 have mR := methOfE
 have l1 := fun v xT w => (lackE v xT w).1
 have l2 := fun v xT w => (lackE v xT w).2.1
 have l3 := fun v xT w => (lackE v xT w).2.2
 rcases h with ⟨rfl, rfl⟩ | ⟨rfl, hne, ⟨ca, ta, ha⟩, cb, tb, hb⟩
 ·have heq := run_eql_iface_ptr_same (P := Tryd.prog) w a Tryd.underlying51 Tryd.underlying124 hi hcmp hj
  go_enter Tryd.func38, Tryd.ntmps38
  go_wp2
  refine wp_loop_rounds 1 ?_
  rw [rounds_succ]
  go_wp2
  go_ret
  exact ⟨rfl, rfl⟩
 ·have heq := run_eql_iface_ptr_other (P := Tryd.prog) w Tryd.underlying51 Tryd.underlying124 hi hcmp hj (by rw [hjs]; decide) hne ha hb
  go_enter Tryd.func38, Tryd.ntmps38
  go_wp2
  refine wp_loop_rounds 1 ?_
  rw [rounds_succ]
  go_wp2
  go_ret
  exact ⟨rfl, rfl⟩
end Go.Proofs.YtkdplhhkkpkmoaaDoor

/- The named errors of stores: what the listed variables hold; storeCode. -/
namespace Go.Proofs.YtkdplhhkkpkmoaaDoor
open Go.ChangeShapes Go.WideShapes Go.ChangeAt Go.RowKit
set_option linter.unusedVariables false
/-- Five named errors, each of its own. -/
structure StE (w : World) (x0 x1 x2 x3 x4 : Addr) : Prop where
 g0 : w.cell? ⟨2, 0, none⟩ = some (.iface 124 (.pointer (some x0)))
 g1 : w.cell? ⟨0, 0, none⟩ = some (.iface 124 (.pointer (some x1)))
 g2 : w.cell? ⟨1, 0, none⟩ = some (.iface 124 (.pointer (some x2)))
 g3 : w.cell? ⟨3, 0, none⟩ = some (.iface 124 (.pointer (some x3)))
 g4 : w.cell? ⟨4, 0, none⟩ = some (.iface 124 (.pointer (some x4)))
 b0 : ∃ c t, w.heap[x0.block]? = some (.cells c t (0, 0))
 b1 : ∃ c t, w.heap[x1.block]? = some (.cells c t (0, 0))
 b2 : ∃ c t, w.heap[x2.block]? = some (.cells c t (0, 0))
 b3 : ∃ c t, w.heap[x3.block]? = some (.cells c t (0, 0))
 b4 : ∃ c t, w.heap[x4.block]? = some (.cells c t (0, 0))
 ne : [x0, x1, x2, x3, x4].Pairwise (· ≠ ·)
theorem cell_old {w w' : World} {a : Addr} {v : Value} (hb : Below w.heap.size w w') (h : w.cell? a = some v) : w'.cell? a = some v := (hb.cell (p := a) (World.block_lt_of_cell? w _ h)).trans h
theorem blk_old {w w' : World} {n : Nat} (hb : Below w.heap.size w w') (h : ∃ c t, w.heap[n]? = some (.cells c t (0, 0))) : ∃ c t, w'.heap[n]? = some (.cells c t (0, 0)) := by
 obtain ⟨c, t, h⟩ := h
 exact ⟨c, t, (hb.block n (by obtain ⟨h1, -⟩ := Array.getElem?_eq_some_iff.1 h; exact h1)).trans h⟩
theorem StE.below {w w' : World} {x0 x1 x2 x3 x4 : Addr} (h : StE w x0 x1 x2 x3 x4) (hb : Below w.heap.size w w') : StE w' x0 x1 x2 x3 x4 :=
 ⟨cell_old hb h.g0, cell_old hb h.g1, cell_old hb h.g2, cell_old hb h.g3, cell_old hb h.g4, blk_old hb h.b0, blk_old hb h.b1, blk_old hb h.b2, blk_old hb h.b3, blk_old hb h.b4, h.ne⟩
theorem StE.pairs {w : World} {x0 x1 x2 x3 x4 : Addr} (h : StE w x0 x1 x2 x3 x4) : (x0 ≠ x1 ∧ x0 ≠ x2 ∧ x0 ≠ x3 ∧ x0 ≠ x4) ∧ (x1 ≠ x2 ∧ x1 ≠ x3 ∧ x1 ≠ x4) ∧ (x2 ≠ x3 ∧ x2 ≠ x4) ∧ x3 ≠ x4 := by
 have := h.ne; simp at this; exact this
set_option maxHeartbeats 1000000 in
set_option maxRecDepth 100000 in
theorem icode0 (w : World) : Calls Tryd.prog 24 #[.nilIface] w fun e w' => e = .returned (.int .i64 0) ∧ w' = w := by
 go_enter Tryd.func24, Tryd.ntmps24
 go_wp2_with fail
 go_ret
 exact ⟨rfl, rfl⟩
set_option maxHeartbeats 1000000 in
set_option maxRecDepth 100000 in
theorem icode_0 {x0 x1 x2 x3 x4 : Addr} (w : World) (h : StE w x0 x1 x2 x3 x4) : Calls Tryd.prog 24 #[.iface 124 (.pointer (some x0))] w fun e w' => e = .returned (.int .i64 3) ∧ w' = w := by
 have hp := h.pairs
 have HE := hide h
 have c0 := h.g0
 have T0 := hide (iis x0 x0 true w (.inl ⟨rfl, rfl⟩))
 clear h hp HE
 go_enter Tryd.func24, Tryd.ntmps24
 go_wp2_with fail
 refine (unhide T0).mono ?_
 rintro e w0 ⟨rfl, hw⟩
 subst hw
 go_wp2_with fail
 go_ret
 exact ⟨rfl, rfl⟩
set_option maxHeartbeats 1000000 in
set_option maxRecDepth 100000 in
theorem icode_1 {x0 x1 x2 x3 x4 : Addr} (w : World) (h : StE w x0 x1 x2 x3 x4) : Calls Tryd.prog 24 #[.iface 124 (.pointer (some x1))] w fun e w' => e = .returned (.int .i64 3) ∧ w' = w := by
 have hp := h.pairs
 have HE := hide h
 have c0 := h.g0
 have c1 := h.g1
 have T0 := hide (iis x1 x0 false w (.inr ⟨rfl, hp.1.1.symm, (unhide HE).b1, (unhide HE).b0⟩))
 have T1 := hide (iis x1 x1 true w (.inl ⟨rfl, rfl⟩))
 clear h hp HE
 go_enter Tryd.func24, Tryd.ntmps24
 go_wp2_with fail
 refine (unhide T0).mono ?_
 rintro e w0 ⟨rfl, hw⟩
 subst hw
 go_wp2_with fail
 refine (unhide T1).mono ?_
 rintro e w1 ⟨rfl, hw⟩
 subst hw
 go_wp2_with fail
 go_ret
 exact ⟨rfl, rfl⟩
set_option maxHeartbeats 1000000 in
set_option maxRecDepth 100000 in
theorem icode_2 {x0 x1 x2 x3 x4 : Addr} (w : World) (h : StE w x0 x1 x2 x3 x4) : Calls Tryd.prog 24 #[.iface 124 (.pointer (some x2))] w fun e w' => e = .returned (.int .i64 3) ∧ w' = w := by
 have hp := h.pairs
 have HE := hide h
 have c0 := h.g0
 have c1 := h.g1
 have c2 := h.g2
 have T0 := hide (iis x2 x0 false w (.inr ⟨rfl, hp.1.2.1.symm, (unhide HE).b2, (unhide HE).b0⟩))
 have T1 := hide (iis x2 x1 false w (.inr ⟨rfl, hp.2.1.1.symm, (unhide HE).b2, (unhide HE).b1⟩))
 have T2 := hide (iis x2 x2 true w (.inl ⟨rfl, rfl⟩))
 clear h hp HE
 go_enter Tryd.func24, Tryd.ntmps24
 go_wp2_with fail
 refine (unhide T0).mono ?_
 rintro e w0 ⟨rfl, hw⟩
 subst hw
 go_wp2_with fail
 refine (unhide T1).mono ?_
 rintro e w1 ⟨rfl, hw⟩
 subst hw
 go_wp2_with fail
 refine (unhide T2).mono ?_
 rintro e w2 ⟨rfl, hw⟩
 subst hw
 go_wp2_with fail
 go_ret
 exact ⟨rfl, rfl⟩
end Go.Proofs.YtkdplhhkkpkmoaaDoor
