/- errors.As at a struct target whose type is the error's own: the closed facts on the model's entries. -/
import Derived.Test.YtpcdjpfffanlbaaDoorZBase
import Derived.LaidEql
import Derived.Stop.Asserts
import Derived.RowKitTokens
namespace Go.Proofs.YtpcdjpfffanlbaaDoor
open Go.RowKit Go.Extern.Stop Go.Stop Go.Extern
theorem flt_valueOfP (t : Addr) (w : World) : (ReflectliteValue.unpack (.iface 76 (.pointer (some t)))).run Tryd.prog w
  = .ok (.agg #[.pointer (some ⟨4, 76, none⟩), .pointer (some ⟨w.heap.size, 0, none⟩), .int .u64 150]) (w.alloc (.cells #[.pointer (some t)] 76)) := by kernel_rfl
theorem flt_typeP (a : Addr) (w : World) : (ReflectliteValue.methodAny (ReflectliteValue.valueError "reflectlite.Value.Type" 0) (fun t _ _ _ => ReflectliteType.toType t) #[.agg #[.pointer (some ⟨4, 76, none⟩), .pointer (some a), .int .u64 150]]).run Tryd.prog w
  = .ok (.iface 92 (.agg #[.pointer (some ⟨4, 76, none⟩)])) w := by kernel_rfl
theorem flt_kindP (w : World) : ((ReflectliteType.abiMethod fun t => Functor.map (fun a : Nat => Value.int IntKind.u8 (a : Int)) (Rtype.kind t)) #[.pointer (some ⟨4, 76, none⟩)]).run Tryd.prog w = .ok (.int .u8 22) w := by kernel_rfl
theorem flt_kindS (w : World) : ((ReflectliteType.abiMethod fun t => Functor.map (fun a : Nat => Value.int IntKind.u8 (a : Int)) (Rtype.kind t)) #[.pointer (some ⟨4, 72, none⟩)]).run Tryd.prog w = .ok (.int .u8 25) w := by kernel_rfl
theorem flt_partsP (a : Addr) (w : World) : (ReflectliteValue.parts (.agg #[.pointer (some ⟨4, 76, none⟩), .pointer (some a), .int .u64 150])).run Tryd.prog w = .ok (some (76, a, 150)) w := by kernel_rfl
theorem flt_isNilP (a p : Addr) (W : World) (ha : W.cell? a = some (.pointer (some p))) :
  (ReflectliteValue.method (ReflectliteValue.valueError "reflectlite.Value.IsNil" 0) ReflectliteValue.isNil #[.agg #[.pointer (some ⟨4, 76, none⟩), .pointer (some a), .int .u64 150]]).run Tryd.prog W = .ok (.bool false) W := by
 have e1 := flt_partsP a W
 obtain ⟨V, hV⟩ : ∃ V, V = (.agg #[.pointer (some ⟨4, 76, none⟩), .pointer (some a), .int .u64 150] : Value) := ⟨_, rfl⟩
 rw [← hV] at e1 ⊢
 clear hV
 delta ReflectliteValue.method ReflectliteValue.method.match_2
 simp only [List.size_toArray, List.length_cons, List.length_nil, Nat.zero_add, dif_pos, Array.getLit, List.getElem_toArray, List.getElem_cons_zero]
 simp only [Sem.run_bind, e1, Result.andThen]
 simp [ReflectliteValue.isNil, loadVar, isAgg, underlying, Tryd.underlying76, ha, Result.andThen]
theorem flt_elemP (w : World) : (ReflectliteType.method ReflectliteType.elem #[.agg #[.pointer (some ⟨4, 76, none⟩)]]).run Tryd.prog w = .ok (.iface 92 (.agg #[.pointer (some ⟨4, 72, none⟩)])) w := by kernel_rfl
theorem flt_implementsS (w : World) : (ReflectliteType.relation "Implements" ReflectliteType.implements_ #[.agg #[.pointer (some ⟨4, 72, none⟩)], .iface 92 (.agg #[.pointer (some ⟨4, 55, none⟩)])]).run Tryd.prog w = .ok (.bool true) w := by kernel_rfl
theorem flt_typeOfS (v : Value) (w : World) : (ReflectliteType.typeOf #[.iface 72 v]).run Tryd.prog w = .ok (.iface 92 (.agg #[.pointer (some ⟨4, 72, none⟩)])) w := by kernel_rfl
theorem flt_assignS (w : World) : (ReflectliteType.relation "AssignableTo" ReflectliteType.assignableTo #[.agg #[.pointer (some ⟨4, 72, none⟩)], .iface 92 (.agg #[.pointer (some ⟨4, 72, none⟩)])]).run Tryd.prog w = .ok (.bool true) w := by kernel_rfl
theorem flt_valueOfS (c : Int) (v : Value) (w : World) : (ReflectliteValue.unpack (.iface 72 (.agg #[.int .i64 c, v]))).run Tryd.prog w
  = .ok (.agg #[.pointer (some ⟨4, 72, none⟩), .pointer (some ⟨w.heap.size, 0, none⟩), .int .u64 153]) (w.alloc (.cells #[.int .i64 c, v] 72)) := by kernel_rfl
theorem flt_elemOfP (w : World) : (Rtype.elem? 76).run Tryd.prog w = .ok (some 72) w := by kernel_rfl
theorem flt_mkS (p : Addr) (w : World) : (ReflectliteValue.mk 72 p ReflectliteValue.flagAddr).run Tryd.prog w = .ok (.agg #[.pointer (some ⟨4, 72, none⟩), .pointer (some p), .int .u64 409]) w := by kernel_rfl
theorem flt_elemVP (a p : Addr) (W : World) (ha : W.cell? a = some (.pointer (some p))) :
  (ReflectliteValue.method (ReflectliteValue.valueError "reflectlite.Value.Elem" 0) ReflectliteValue.elem #[.agg #[.pointer (some ⟨4, 76, none⟩), .pointer (some a), .int .u64 150]]).run Tryd.prog W
   = .ok (.agg #[.pointer (some ⟨4, 72, none⟩), .pointer (some p), .int .u64 409]) W := by
 have e1 := flt_partsP a W
 obtain ⟨V, hV⟩ : ∃ V, V = (.agg #[.pointer (some ⟨4, 76, none⟩), .pointer (some a), .int .u64 150] : Value) := ⟨_, rfl⟩
 rw [← hV] at e1 ⊢
 clear hV
 delta ReflectliteValue.method ReflectliteValue.method.match_2
 simp only [List.size_toArray, List.length_cons, List.length_nil, Nat.zero_add, dif_pos, Array.getLit, List.getElem_toArray, List.getElem_cons_zero]
 simp only [Sem.run_bind, e1, Result.andThen]
 simp [ReflectliteValue.elem, loadVar, isAgg, underlying, Tryd.underlying76, ha, Result.andThen, flt_elemOfP, flt_mkS]
theorem flt_partsSa (a : Addr) (w : World) : (ReflectliteValue.parts (.agg #[.pointer (some ⟨4, 72, none⟩), .pointer (some a), .int .u64 409])).run Tryd.prog w = .ok (some (72, a, 409)) w := by kernel_rfl
theorem flt_partsS (a : Addr) (w : World) : (ReflectliteValue.parts (.agg #[.pointer (some ⟨4, 72, none⟩), .pointer (some a), .int .u64 153])).run Tryd.prog w = .ok (some (72, a, 153)) w := by kernel_rfl
theorem flt_directS (w : World) : (Rtype.directlyAssignable 72 72).run Tryd.prog w = .ok true w := by kernel_rfl
theorem flt_load (bb : Nat) (c : Int) (v : Value) (W : World) (h0 : W.cell? ⟨bb, 0, none⟩ = some (.int .i64 c)) (h1 : W.cell? ⟨bb, 1, none⟩ = some v) : (loadVar 72 ⟨bb, 0, none⟩).run Tryd.prog W = .ok (.agg #[.int .i64 c, v]) W := by
 simp [go_sem, loadVar, h0, h1]
theorem flt_store (tb : Nat) (c : Int) (u : TypeId) (y o0 o1 : Value) (W : World) (h0 : W.cell? ⟨tb, 0, none⟩ = some o0) (h1 : W.cell? ⟨tb, 1, none⟩ = some o1) (f0 : W.frozen? ⟨tb, 0, none⟩ = false) (f1 : W.frozen? ⟨tb, 1, none⟩ = false) : (storeVar 72 ⟨tb, 0, none⟩ (.agg #[.int .i64 c, .iface u y])).run Tryd.prog W = .ok () ((W.setCell ⟨tb, 0, none⟩ (.int .i64 c)).setCell ⟨tb, 1, none⟩ (.iface u y)) := by
 simp [go_sem, storeVar, h0, h1, f0, f1]
theorem flt_set (tb bb : Nat) (c : Int) (u : TypeId) (y o0 o1 : Value) (W : World) (b0 : W.cell? ⟨bb, 0, none⟩ = some (.int .i64 c)) (b1 : W.cell? ⟨bb, 1, none⟩ = some (.iface u y)) (h0 : W.cell? ⟨tb, 0, none⟩ = some o0) (h1 : W.cell? ⟨tb, 1, none⟩ = some o1) (f0 : W.frozen? ⟨tb, 0, none⟩ = false) (f1 : W.frozen? ⟨tb, 1, none⟩ = false) :
  (ReflectliteValue.set #[.agg #[.pointer (some ⟨4, 72, none⟩), .pointer (some ⟨tb, 0, none⟩), .int .u64 409], .agg #[.pointer (some ⟨4, 72, none⟩), .pointer (some ⟨bb, 0, none⟩), .int .u64 153]]).run Tryd.prog W = .ok (.tuple #[]) ((W.setCell ⟨tb, 0, none⟩ (.int .i64 c)).setCell ⟨tb, 1, none⟩ (.iface u y)) := by
 have e1 := flt_partsSa ⟨tb, 0, none⟩ W
 have e2 := flt_partsS ⟨bb, 0, none⟩ W
 have e3 := flt_load bb c _ W b0 b1
 have e4 := flt_directS W
 have e5 := flt_store tb c u y o0 o1 W h0 h1 f0 f1
 obtain ⟨V, hV⟩ : ∃ V, V = (.agg #[.pointer (some ⟨4, 72, none⟩), .pointer (some ⟨tb, 0, none⟩), .int .u64 409] : Value) := ⟨_, rfl⟩
 obtain ⟨X, hX⟩ : ∃ X, X = (.agg #[.pointer (some ⟨4, 72, none⟩), .pointer (some ⟨bb, 0, none⟩), .int .u64 153] : Value) := ⟨_, rfl⟩
 rw [← hV] at e1 ⊢
 rw [← hX] at e2 ⊢
 clear hV hX
 delta ReflectliteValue.set ReflectliteValue.set.match_3
 simp only [List.size_toArray, List.length_cons, List.length_nil, Nat.zero_add, Nat.reduceAdd, dif_pos, Array.getLit, List.getElem_toArray, List.getElem_cons_zero, List.getElem_cons_succ]
 simp only [Sem.run_bind, e1, e2, Result.andThen]
 simp [e3, e4, e5, ReflectliteValue.flagAddr, Result.andThen]
end Go.Proofs.YtpcdjpfffanlbaaDoor
