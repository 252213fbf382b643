/- errors.As at the target fault passes a placed error by and hits its cause. -/
import Derived.Test.YtgcihpcogkeanaaDoorAsP
import Derived.Test.YtgcihpcogkeanaaDoorAsF
namespace Go.Proofs.YtgcihpcogkeanaaDoor
open Go.RowKit Go.Extern.Stop Go.Stop Go.Extern
theorem flt_assignNo (w : World) : (ReflectliteType.relation "AssignableTo" ReflectliteType.assignableTo #[.agg #[.pointer (some ⟨4, 38, none⟩)], .iface 66 (.agg #[.pointer (some ⟨4, 61, none⟩)])]).run Tryd.prog w = .ok (.bool false) w := by kernel_rfl
theorem plc_noAs (v : Value) (xT : TypeId) (w : World) : (Instr.typeAssert (.iface 38 v) xT 71 true).run Tryd.prog w = .ok (.tuple #[.nilIface, .bool false]) w := run_typeAssert_lacksB Tryd.underlying71 (by kernel_rfl) (by kernel_rfl) v xT w
theorem plc_hasUnwrap (v : Value) (xT : TypeId) (w : World) : (Instr.typeAssert (.iface 38 v) xT 74 true).run Tryd.prog w = .ok (.tuple #[.iface 38 v, .bool true]) w := run_typeAssert_hasB Tryd.underlying74 (by kernel_rfl) v xT w
theorem plc_mUnwrap (v : Value) (w : World) : (Go.method 218 38 v "Unwrap").run Tryd.prog w = .ok (52, v) w := by kernel_rfl
set_option maxHeartbeats 8000000 in
theorem flt_miss (tb : Nat) (p c : Int) (u : TypeId) (y o0 o1 : Value) (w : World) (hg : w.cell? ⟨0, 0, none⟩ = some (.iface 66 (.agg #[.pointer (some ⟨4, 34, none⟩)]))) (h0 : w.cell? ⟨tb, 0, none⟩ = some o0) (h1 : w.cell? ⟨tb, 1, none⟩ = some o1) (f0 : w.frozen? ⟨tb, 0, none⟩ = false) (f1 : w.frozen? ⟨tb, 1, none⟩ = false) :
    Calls Tryd.prog 14 #[.iface 38 (.agg #[.int .i64 p, .iface 61 (.agg #[.int .i64 c, .iface u y])]), .iface 62 (.pointer (some ⟨tb, 0, none⟩))] w fun ev w' => ev = .returned (.bool true) ∧ w' = ((((((((w.alloc (.cells #[.pointer (some ⟨tb, 0, none⟩)] 62))).alloc (.cells #[.pointer (some ⟨4, 62, none⟩), .pointer (some ⟨w.heap.size, 0, none⟩), .int .u64 150] 50)).alloc (.cells #[.pointer (some ⟨4, 62, none⟩), .pointer (some ⟨w.heap.size, 0, none⟩), .int .u64 150] 50)).alloc (.cells #[.int .i64 p, .iface 61 (.agg #[.int .i64 c, .iface u y])] 38)).alloc (.cells #[.int .i64 c, .iface u y] 61)).setCell ⟨tb, 0, none⟩ (.int .i64 c)).setCell ⟨tb, 1, none⟩ (.iface u y)) := by
  have hlt : 0 < w.heap.size := World.block_lt_of_cell? w _ hg
  have htl : tb < w.heap.size := World.block_lt_of_cell? w _ h0
  have hvo := @run_callFunc_extern Tryd.prog 20 _ (fun args => ReflectliteValue.unpack (args.getD 0 (.tuple #[]))) Tryd.func20 (by kernel_rfl) (by kernel_rfl) (by kernel_rfl) (by kernel_rfl)
  have hty := @run_callFunc_extern Tryd.prog 21 _ (ReflectliteValue.methodAny (ReflectliteValue.valueError "reflectlite.Value.Type" 0) (fun t _ _ _ => ReflectliteType.toType t)) Tryd.func21 (by kernel_rfl) (by kernel_rfl) (by kernel_rfl) (by kernel_rfl)
  have hnil := @run_callFunc_extern Tryd.prog 22 _ (ReflectliteValue.method (ReflectliteValue.valueError "reflectlite.Value.IsNil" 0) ReflectliteValue.isNil) Tryd.func22 (by kernel_rfl) (by kernel_rfl) (by kernel_rfl) (by kernel_rfl)
  have hkd := @run_callFunc_extern Tryd.prog 48 _ (ReflectliteType.abiMethod fun t => do pure (.int .u8 (← Rtype.kind t))) Tryd.func48 (by kernel_rfl) (by kernel_rfl) (by kernel_rfl) (by kernel_rfl)
  have hel := @run_callFunc_extern Tryd.prog 61 _ (ReflectliteType.method ReflectliteType.elem) Tryd.func61 (by kernel_rfl) (by kernel_rfl) (by kernel_rfl) (by kernel_rfl)
  have him := @run_callFunc_extern Tryd.prog 62 _ (ReflectliteType.relation "Implements" ReflectliteType.implements_) Tryd.func62 (by kernel_rfl) (by kernel_rfl) (by kernel_rfl) (by kernel_rfl)
  have hto := @run_callFunc_extern Tryd.prog 27 _ (ReflectliteType.typeOf) Tryd.func27 (by kernel_rfl) (by kernel_rfl) (by kernel_rfl) (by kernel_rfl)
  have has := @run_callFunc_extern Tryd.prog 59 _ (ReflectliteType.relation "AssignableTo" ReflectliteType.assignableTo) Tryd.func59 (by kernel_rfl) (by kernel_rfl) (by kernel_rfl) (by kernel_rfl)
  have hev := @run_callFunc_extern Tryd.prog 28 _ (ReflectliteValue.method (ReflectliteValue.valueError "reflectlite.Value.Elem" 0) ReflectliteValue.elem) Tryd.func28 (by kernel_rfl) (by kernel_rfl) (by kernel_rfl) (by kernel_rfl)
  have hst := @run_callFunc_extern Tryd.prog 29 _ (ReflectliteValue.set) Tryd.func29 (by kernel_rfl) (by kernel_rfl) (by kernel_rfl) (by kernel_rfl)
  have m1 := as_mKind
  have m2 := as_mElem
  have m3 := as_mImplements
  have m4 := as_mAssignableTo
  have m5 := plc_mUnwrap
  have a1 := flt_valueOfP
  have a2 := flt_typeP
  have a3 := flt_kindP
  have a4 := flt_kindS
  have a5 := flt_elemP
  have a6 := flt_implementsS
  have a7 := flt_typeOfS
  have a8 := flt_assignS
  have a9 := flt_valueOfS
  have b7 := plc_typeOfS
  have b8 := flt_assignNo
  have b1 := plc_noAs
  have b2 := plc_hasUnwrap
  have n8 := flt_isNilP ⟨w.heap.size, 0, none⟩ ⟨tb, 0, none⟩ ((w.alloc (.cells #[.pointer (some ⟨tb, 0, none⟩)] 62)).alloc (.cells #[.pointer (some ⟨4, 62, none⟩), .pointer (some ⟨w.heap.size, 0, none⟩), .int .u64 150] 50)) (by simp)
  have hg2 : ((w.alloc (.cells #[.pointer (some ⟨tb, 0, none⟩)] 62)).alloc (.cells #[.pointer (some ⟨4, 62, none⟩), .pointer (some ⟨w.heap.size, 0, none⟩), .int .u64 150] 50)).cell? ⟨0, 0, none⟩ = some (.iface 66 (.agg #[.pointer (some ⟨4, 34, none⟩)])) := by
    rw [World.cell?_alloc_lt _ _ ⟨0, 0, none⟩ (by simp <;> omega), World.cell?_alloc_lt _ _ ⟨0, 0, none⟩ hlt]; exact hg
  have el := flt_elemVP ⟨w.heap.size, 0, none⟩ ⟨tb, 0, none⟩ (((((w.alloc (.cells #[.pointer (some ⟨tb, 0, none⟩)] 62))).alloc (.cells #[.pointer (some ⟨4, 62, none⟩), .pointer (some ⟨w.heap.size, 0, none⟩), .int .u64 150] 50)).alloc (.cells #[.pointer (some ⟨4, 62, none⟩), .pointer (some ⟨w.heap.size, 0, none⟩), .int .u64 150] 50)).alloc (.cells #[.int .i64 p, .iface 61 (.agg #[.int .i64 c, .iface u y])] 38)) (by rw [World.cell?_alloc_lt _ _ ⟨w.heap.size, 0, none⟩ (by simp <;> omega), World.cell?_alloc_lt _ _ ⟨w.heap.size, 0, none⟩ (by simp <;> omega)]; simp)
  have st := flt_set tb (w.heap.size + 1 + 1 + 1 + 1) c u y o0 o1 ((((((w.alloc (.cells #[.pointer (some ⟨tb, 0, none⟩)] 62))).alloc (.cells #[.pointer (some ⟨4, 62, none⟩), .pointer (some ⟨w.heap.size, 0, none⟩), .int .u64 150] 50)).alloc (.cells #[.pointer (some ⟨4, 62, none⟩), .pointer (some ⟨w.heap.size, 0, none⟩), .int .u64 150] 50)).alloc (.cells #[.int .i64 p, .iface 61 (.agg #[.int .i64 c, .iface u y])] 38)).alloc (.cells #[.int .i64 c, .iface u y] 61))
    (by rw [World.cell?_alloc_at _ _ _ _ (by simp)]; rfl) (by rw [World.cell?_alloc_at _ _ _ _ (by simp)]; rfl)
    (by rw [World.cell?_alloc_lt _ _ ⟨tb, 0, none⟩ (by simp <;> omega), World.cell?_alloc_lt _ _ ⟨tb, 0, none⟩ (by simp <;> omega), World.cell?_alloc_lt _ _ ⟨tb, 0, none⟩ (by simp <;> omega), World.cell?_alloc_lt _ _ ⟨tb, 0, none⟩ (by simp <;> omega), World.cell?_alloc_lt _ _ ⟨tb, 0, none⟩ htl]; exact h0)
    (by rw [World.cell?_alloc_lt _ _ ⟨tb, 1, none⟩ (by simp <;> omega), World.cell?_alloc_lt _ _ ⟨tb, 1, none⟩ (by simp <;> omega), World.cell?_alloc_lt _ _ ⟨tb, 1, none⟩ (by simp <;> omega), World.cell?_alloc_lt _ _ ⟨tb, 1, none⟩ (by simp <;> omega), World.cell?_alloc_lt _ _ ⟨tb, 1, none⟩ htl]; exact h1)
    (by rw [World.frozen?_alloc_old _ _ ⟨tb, 0, none⟩ (by simp <;> omega), World.frozen?_alloc_old _ _ ⟨tb, 0, none⟩ (by simp <;> omega), World.frozen?_alloc_old _ _ ⟨tb, 0, none⟩ (by simp <;> omega), World.frozen?_alloc_old _ _ ⟨tb, 0, none⟩ (by simp <;> omega), World.frozen?_alloc_old _ _ ⟨tb, 0, none⟩ (Nat.ne_of_lt htl)]; exact f0)
    (by rw [World.frozen?_alloc_old _ _ ⟨tb, 1, none⟩ (by simp <;> omega), World.frozen?_alloc_old _ _ ⟨tb, 1, none⟩ (by simp <;> omega), World.frozen?_alloc_old _ _ ⟨tb, 1, none⟩ (by simp <;> omega), World.frozen?_alloc_old _ _ ⟨tb, 1, none⟩ (by simp <;> omega), World.frozen?_alloc_old _ _ ⟨tb, 1, none⟩ (Nat.ne_of_lt htl)]; exact f1)
  go_enter Tryd.func14, Tryd.ntmps14
  go_wp2
  refine wp_loop_rounds 2 ?_
  rw [rounds_succ]
  go_wp2
  rw [rounds_succ]
  go_wp2
  go_ret
  exact ⟨rfl, rfl⟩
end Go.Proofs.YtgcihpcogkeanaaDoor
