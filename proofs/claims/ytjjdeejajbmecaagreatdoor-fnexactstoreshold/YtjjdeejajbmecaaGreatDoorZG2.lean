/- Texts put together: AsI AsH AsF TakeI NumI FldI StrS. -/
import Derived.Test.YtjjdeejajbmecaaGreatDoorZG0
import Derived.LaidEql
import Derived.Stop.Asserts
import Derived.RowKitTokens
import Derived.Test.YtjjdeejajbmecaaGreatDoorZG1
/- errors.As at a struct target whose type is the error's own: the closed facts on the model's entries. -/
namespace Go.Proofs.YtjjdeejajbmecaaGreatDoor
open Go.RowKit Go.Extern.Stop Go.Stop Go.Extern
theorem flt_valueOfP (t : Addr) (w : World) : (ReflectliteValue.unpack (.iface 148 (.pointer (some t)))).run Tryz.prog w
  = .ok (.agg #[.pointer (some ⟨10, 148, none⟩), .pointer (some ⟨w.heap.size, 0, none⟩), .int .u64 150]) (w.alloc (.cells #[.pointer (some t)] 148)) := by kernel_rfl
theorem flt_typeP (a : Addr) (w : World) : (ReflectliteValue.methodAny (ReflectliteValue.valueError "reflectlite.Value.Type" 0) (fun t _ _ _ => ReflectliteType.toType t) #[.agg #[.pointer (some ⟨10, 148, none⟩), .pointer (some a), .int .u64 150]]).run Tryz.prog w
  = .ok (.iface 157 (.agg #[.pointer (some ⟨10, 148, none⟩)])) w := by kernel_rfl
theorem flt_kindP (w : World) : ((ReflectliteType.abiMethod fun t => Functor.map (fun a : Nat => Value.int IntKind.u8 (a : Int)) (Rtype.kind t)) #[.pointer (some ⟨10, 148, none⟩)]).run Tryz.prog w = .ok (.int .u8 22) w := by kernel_rfl
theorem flt_kindS (w : World) : ((ReflectliteType.abiMethod fun t => Functor.map (fun a : Nat => Value.int IntKind.u8 (a : Int)) (Rtype.kind t)) #[.pointer (some ⟨10, 146, none⟩)]).run Tryz.prog w = .ok (.int .u8 25) w := by kernel_rfl
theorem flt_partsP (a : Addr) (w : World) : (ReflectliteValue.parts (.agg #[.pointer (some ⟨10, 148, none⟩), .pointer (some a), .int .u64 150])).run Tryz.prog w = .ok (some (148, a, 150)) w := by kernel_rfl
theorem flt_isNilP (a p : Addr) (W : World) (ha : W.cell? a = some (.pointer (some p))) :
  (ReflectliteValue.method (ReflectliteValue.valueError "reflectlite.Value.IsNil" 0) ReflectliteValue.isNil #[.agg #[.pointer (some ⟨10, 148, none⟩), .pointer (some a), .int .u64 150]]).run Tryz.prog W = .ok (.bool false) W := by
 have e1 := flt_partsP a W
 obtain ⟨V, hV⟩ : ∃ V, V = (.agg #[.pointer (some ⟨10, 148, none⟩), .pointer (some a), .int .u64 150] : Value) := ⟨_, rfl⟩
 rw [← hV] at e1 ⊢
 clear hV
 delta ReflectliteValue.method ReflectliteValue.method.match_2
 simp only [List.size_toArray, List.length_cons, List.length_nil, Nat.zero_add, dif_pos, Array.getLit, List.getElem_toArray, List.getElem_cons_zero]
 simp only [Sem.run_bind, e1, Result.andThen]
 simp [ReflectliteValue.isNil, loadVar, isAgg, underlying, Tryz.underlying148, ha, Result.andThen]
theorem flt_elemP (w : World) : (ReflectliteType.method ReflectliteType.elem #[.agg #[.pointer (some ⟨10, 148, none⟩)]]).run Tryz.prog w = .ok (.iface 157 (.agg #[.pointer (some ⟨10, 146, none⟩)])) w := by kernel_rfl
theorem flt_implementsS (w : World) : (ReflectliteType.relation "Implements" ReflectliteType.implements_ #[.agg #[.pointer (some ⟨10, 146, none⟩)], .iface 157 (.agg #[.pointer (some ⟨10, 126, none⟩)])]).run Tryz.prog w = .ok (.bool true) w := by kernel_rfl
theorem flt_typeOfS (v : Value) (w : World) : (ReflectliteType.typeOf #[.iface 146 v]).run Tryz.prog w = .ok (.iface 157 (.agg #[.pointer (some ⟨10, 146, none⟩)])) w := by kernel_rfl
theorem flt_assignS (w : World) : (ReflectliteType.relation "AssignableTo" ReflectliteType.assignableTo #[.agg #[.pointer (some ⟨10, 146, none⟩)], .iface 157 (.agg #[.pointer (some ⟨10, 146, none⟩)])]).run Tryz.prog w = .ok (.bool true) w := by kernel_rfl
theorem flt_valueOfS (c : Int) (v : Value) (w : World) : (ReflectliteValue.unpack (.iface 146 (.agg #[.int .i64 c, v]))).run Tryz.prog w
  = .ok (.agg #[.pointer (some ⟨10, 146, none⟩), .pointer (some ⟨w.heap.size, 0, none⟩), .int .u64 153]) (w.alloc (.cells #[.int .i64 c, v] 146)) := by kernel_rfl
theorem flt_elemOfP (w : World) : (Rtype.elem? 148).run Tryz.prog w = .ok (some 146) w := by kernel_rfl
theorem flt_mkS (p : Addr) (w : World) : (ReflectliteValue.mk 146 p ReflectliteValue.flagAddr).run Tryz.prog w = .ok (.agg #[.pointer (some ⟨10, 146, none⟩), .pointer (some p), .int .u64 409]) w := by kernel_rfl
theorem flt_elemVP (a p : Addr) (W : World) (ha : W.cell? a = some (.pointer (some p))) :
  (ReflectliteValue.method (ReflectliteValue.valueError "reflectlite.Value.Elem" 0) ReflectliteValue.elem #[.agg #[.pointer (some ⟨10, 148, none⟩), .pointer (some a), .int .u64 150]]).run Tryz.prog W
   = .ok (.agg #[.pointer (some ⟨10, 146, none⟩), .pointer (some p), .int .u64 409]) W := by
 have e1 := flt_partsP a W
 obtain ⟨V, hV⟩ : ∃ V, V = (.agg #[.pointer (some ⟨10, 148, none⟩), .pointer (some a), .int .u64 150] : Value) := ⟨_, rfl⟩
 rw [← hV] at e1 ⊢
 clear hV
 delta ReflectliteValue.method ReflectliteValue.method.match_2
 simp only [List.size_toArray, List.length_cons, List.length_nil, Nat.zero_add, dif_pos, Array.getLit, List.getElem_toArray, List.getElem_cons_zero]
 simp only [Sem.run_bind, e1, Result.andThen]
 simp [ReflectliteValue.elem, loadVar, isAgg, underlying, Tryz.underlying148, ha, Result.andThen, flt_elemOfP, flt_mkS]
theorem flt_partsSa (a : Addr) (w : World) : (ReflectliteValue.parts (.agg #[.pointer (some ⟨10, 146, none⟩), .pointer (some a), .int .u64 409])).run Tryz.prog w = .ok (some (146, a, 409)) w := by kernel_rfl
theorem flt_partsS (a : Addr) (w : World) : (ReflectliteValue.parts (.agg #[.pointer (some ⟨10, 146, none⟩), .pointer (some a), .int .u64 153])).run Tryz.prog w = .ok (some (146, a, 153)) w := by kernel_rfl
theorem flt_directS (w : World) : (Rtype.directlyAssignable 146 146).run Tryz.prog w = .ok true w := by kernel_rfl
theorem flt_load (bb : Nat) (c : Int) (v : Value) (W : World) (h0 : W.cell? ⟨bb, 0, none⟩ = some (.int .i64 c)) (h1 : W.cell? ⟨bb, 1, none⟩ = some v) : (loadVar 146 ⟨bb, 0, none⟩).run Tryz.prog W = .ok (.agg #[.int .i64 c, v]) W := by
 simp [go_sem, loadVar, h0, h1]
theorem flt_store (tb : Nat) (c : Int) (u : TypeId) (y o0 o1 : Value) (W : World) (h0 : W.cell? ⟨tb, 0, none⟩ = some o0) (h1 : W.cell? ⟨tb, 1, none⟩ = some o1) (f0 : W.frozen? ⟨tb, 0, none⟩ = false) (f1 : W.frozen? ⟨tb, 1, none⟩ = false) : (storeVar 146 ⟨tb, 0, none⟩ (.agg #[.int .i64 c, .iface u y])).run Tryz.prog W = .ok () ((W.setCell ⟨tb, 0, none⟩ (.int .i64 c)).setCell ⟨tb, 1, none⟩ (.iface u y)) := by
 simp [go_sem, storeVar, h0, h1, f0, f1]
theorem flt_set (tb bb : Nat) (c : Int) (u : TypeId) (y o0 o1 : Value) (W : World) (b0 : W.cell? ⟨bb, 0, none⟩ = some (.int .i64 c)) (b1 : W.cell? ⟨bb, 1, none⟩ = some (.iface u y)) (h0 : W.cell? ⟨tb, 0, none⟩ = some o0) (h1 : W.cell? ⟨tb, 1, none⟩ = some o1) (f0 : W.frozen? ⟨tb, 0, none⟩ = false) (f1 : W.frozen? ⟨tb, 1, none⟩ = false) :
  (ReflectliteValue.set #[.agg #[.pointer (some ⟨10, 146, none⟩), .pointer (some ⟨tb, 0, none⟩), .int .u64 409], .agg #[.pointer (some ⟨10, 146, none⟩), .pointer (some ⟨bb, 0, none⟩), .int .u64 153]]).run Tryz.prog W = .ok (.tuple #[]) ((W.setCell ⟨tb, 0, none⟩ (.int .i64 c)).setCell ⟨tb, 1, none⟩ (.iface u y)) := by
 have e1 := flt_partsSa ⟨tb, 0, none⟩ W
 have e2 := flt_partsS ⟨bb, 0, none⟩ W
 have e3 := flt_load bb c _ W b0 b1
 have e4 := flt_directS W
 have e5 := flt_store tb c u y o0 o1 W h0 h1 f0 f1
 obtain ⟨V, hV⟩ : ∃ V, V = (.agg #[.pointer (some ⟨10, 146, none⟩), .pointer (some ⟨tb, 0, none⟩), .int .u64 409] : Value) := ⟨_, rfl⟩
 obtain ⟨X, hX⟩ : ∃ X, X = (.agg #[.pointer (some ⟨10, 146, none⟩), .pointer (some ⟨bb, 0, none⟩), .int .u64 153] : Value) := ⟨_, rfl⟩
 rw [← hV] at e1 ⊢
 rw [← hX] at e2 ⊢
 clear hV hX
 delta ReflectliteValue.set ReflectliteValue.set.match_3
 simp only [List.size_toArray, List.length_cons, List.length_nil, Nat.zero_add, Nat.reduceAdd, dif_pos, Array.getLit, List.getElem_toArray, List.getElem_cons_zero, List.getElem_cons_succ]
 simp only [Sem.run_bind, e1, e2, Result.andThen]
 simp [e3, e4, e5, ReflectliteValue.flagAddr, Result.andThen]
end Go.Proofs.YtjjdeejajbmecaaGreatDoor

/- errors.As hits at once at a struct target. -/
namespace Go.Proofs.YtjjdeejajbmecaaGreatDoor
open Go.RowKit Go.Extern.Stop Go.Stop Go.Extern
theorem as_mKind (h : Value) (w : World) : (Go.method 321 157 (.agg #[h]) "Kind").run Tryz.prog w = .ok (137, h) w := by kernel_rfl
theorem as_mElem (h : Value) (w : World) : (Go.method 321 157 (.agg #[h]) "Elem").run Tryz.prog w = .ok (147, .agg #[h]) w := by kernel_rfl
theorem as_mImplements (h : Value) (w : World) : (Go.method 321 157 (.agg #[h]) "Implements").run Tryz.prog w = .ok (148, .agg #[h]) w := by kernel_rfl
theorem as_mAssignableTo (h : Value) (w : World) : (Go.method 321 157 (.agg #[h]) "AssignableTo").run Tryz.prog w = .ok (145, .agg #[h]) w := by kernel_rfl
end Go.Proofs.YtjjdeejajbmecaaGreatDoor

/- impl.faultCode of a fault. -/
namespace Go.Proofs.YtjjdeejajbmecaaGreatDoor
open Go.RowKit Go.Extern.Stop Go.Stop Go.Extern
end Go.Proofs.YtjjdeejajbmecaaGreatDoor

/- impl.take: too short a row, and a long enough one. -/
namespace Go.Proofs.YtjjdeejajbmecaaGreatDoor
open Go.RowKit
theorem itakeNo (a : Option Addr) (len cap n : Nat) (hs : len < n) (u : TypeId) (y : Value) (w : World) (hg : w.cell? ⟨0, 0, none⟩ = some (.iface u y)) :
  Calls Tryz.prog 107 #[.slice a len cap, .int .i64 n] w fun e w' => e = .returned (.tuple #[.slice none 0 0, .slice none 0 0, .iface u y]) ∧ Below w.heap.size w w' := by
 have h1 : (len : Int) < (n : Int) := by omega
 go_enter Tryz.func107, Tryz.ntmps107
 go_wp2
 go_region_held3 (fun w' => w'.cell? ⟨0, 0, none⟩ = some (.iface u y)) (go_keep) (fail)
 go_wp2
 go_ret3
 exact ⟨rfl, (Below.refl _ _).drew⟩
theorem itakeOk (b off len cap n : Nat) (hn : n ≤ len) (hc : len ≤ cap) (w : World) :
  Calls Tryz.prog 107 #[.slice (some ⟨b, off, none⟩) len cap, .int .i64 n] w fun e w' => e = .returned (.tuple #[.slice (some ⟨b, off, none⟩) n cap, .slice (if cap = n then some ⟨b, off, none⟩ else some ⟨b, off + n, none⟩) (len - n) (cap - n), .nilIface]) ∧ Below w.heap.size w w' := by
 have h1 : ¬ (len : Int) < (n : Int) := by omega
 have h2 : (n : Int) ≤ (cap : Int) := by omega
 have h3 : (n : Int) ≤ (len : Int) := by omega
 have h4 : (0 : Int) ≤ (n : Int) := by omega
 have h5 : (len : Int) ≤ (cap : Int) := by omega
 go_enter Tryz.func107, Tryz.ntmps107
 go_wp2
 go_region_held3 (fun _ => True) (trivial) (fail)
 go_wp2
 all_goals (go_ret3; exact ⟨rfl, (Below.refl _ _).drew⟩)
theorem row8_take {w : World} {a : Option Addr} {l : List UInt8} (h : Row8 w a l) (n : Nat) : Row8 w a (l.take n) := by
 rcases h with rfl | ⟨b, off, e, hlt, hc⟩
 ·exact .inl (by simp)
 ·refine .inr ⟨b, off, e, hlt, fun i hi => ?_⟩
  rw [List.length_take] at hi
  rw [hc i (by omega), List.getElem_take]
theorem row8_drop {w : World} {b off : Nat} {l : List UInt8} (h : Row8 w (some ⟨b, off, none⟩) l) (n : Nat) : Row8 w (some ⟨b, off + n, none⟩) (l.drop n) := by
 rcases h with rfl | ⟨b', off', e, hlt, hc⟩
 ·exact .inl (by simp)
 ·simp only [Option.some.injEq, Addr.mk.injEq, and_true] at e
  obtain ⟨rfl, rfl⟩ := e
  refine .inr ⟨b, off + n, rfl, hlt, fun i hi => ?_⟩
  rw [List.length_drop] at hi
  rw [Nat.add_assoc, hc (n + i) (by omega), List.getElem_drop]
/-- The first n bytes of a row and what stands behind them. -/
theorem itake (b off cap n : Nat) (l : List UInt8) (len : Nat) (el : l.length = len) (hn : n ≤ len) (hc : len ≤ cap) (w : World) (hr : Row8 w (some ⟨b, off, none⟩) l) :
  Calls Tryz.prog 107 #[.slice (some ⟨b, off, none⟩) len cap, .int .i64 n] w fun e w' => ∃ o2, e = .returned (.tuple #[.slice (some ⟨b, off, none⟩) n cap, .slice (some ⟨b, o2, none⟩) (len - n) (cap - n), .nilIface]) ∧ Row8 w' (some ⟨b, off, none⟩) (l.take n) ∧ Row8 w' (some ⟨b, o2, none⟩) (l.drop n) ∧ Below w.heap.size w w' := by
 refine (itakeOk b off len cap n hn hc w).mono ?_
 rintro e w' ⟨rfl, hb⟩
 by_cases h : cap = n
 ·refine ⟨off, by rw [if_pos h], (row8_take hr n).below hb, .inl (List.drop_eq_nil_of_le (by omega)), hb⟩
 ·refine ⟨off + n, by rw [if_neg h], (row8_take hr n).below hb, (row8_drop hr n).below hb, hb⟩
end Go.Proofs.YtjjdeejajbmecaaGreatDoor

/- numberOf: the number of a row of bytes. -/
namespace Go.Proofs.YtjjdeejajbmecaaGreatDoor
open Go.ChangeShapes Go.WideShapes Go.ChangeAt Go.RowKit
set_option maxHeartbeats 400000 in
set_option maxRecDepth 100000 in
/-- numberOf: the number of at most four bytes. -/
theorem inumber (a : Option Addr) (cap : Nat) (l : List UInt8) (hl : l.length ≤ 4) (w : World) (hr : Row8 w a l) :
  Calls Tryz.prog 108 #[.slice a l.length cap] w fun e w' => e = .returned (.int .i64 ((ofBE l : Nat) : Int)) ∧ w' = w := by
 have HR := hide hr
 clear hr
 go_enter Tryz.func108, Tryz.ntmps108
 go_wp2_with fail
 go_loop [3, 8] (fun r i => ∃ k y : Nat, k ≤ l.length ∧ i = .int .i64 k ∧ r = .int .i64 (y : Int) ∧ Hid (y = ofBE (l.take k))) (fun _ i => l.length - (intOf i).toNat)
 case atStart => exact ⟨0, 0, by omega, rfl, rfl, rfl⟩
 case round =>
  obtain ⟨k, y, hk, rfl, rfl, HY⟩ := hrel
  have hy : y < 256 ^ k := by have := ofBE_lt l k; rw [← unhide HY] at this; exact this
  by_cases hlt : k < l.length
  ·obtain ⟨b, off, ha, hblt, hc⟩ := (unhide HR).at (by omega)
   subst ha
   have hy2 : y < 16777216 := Nat.lt_of_lt_of_le hy (Nat.le_trans (Nat.pow_le_pow_right (by decide) (show k ≤ 3 by omega)) (by decide))
   have hc1 := hc k hlt
   have hlt' : (k : Int) < (l.length : Int) := by omega
   have hcv := l[k].toNat_lt
   have h2 : bits BinOp.or IntKind.i64 ((y : Int) * 256) (l[k].toNat : Int) = ((y * 256 + l[k].toNat : Nat) : Int) := or_byte y l[k].toNat (by omega) (by omega)
   have c0 : (l[k].toNat : Int) ≤ 255 := by omega
   have y0 : (y : Int) ≤ 16777216 := by omega
   clear hc HR hy hblt hcv hy2
   go_wp2_with fail
   go_round
   case rel => exact ⟨k + 1, y * 256 + l[k].toNat, by omega, by go_num, rfl, by show _ = _; rw [ofBE_snoc l k hlt, unhide HY]⟩
   case measure => simp [intOf]; omega
  ·have HV : Hid (((ofBE l : Nat) : Int) = (y : Int)) := by show _ = _; rw [unhide HY, List.take_of_length_le (by omega)]
   clear hy
   go_wp2_with fail
   go_ret
   exact ⟨ret_int (unhide HV).symm, rfl⟩
end Go.Proofs.YtjjdeejajbmecaaGreatDoor

/- impl.takeField: one field of a row of bytes, and what stands behind it. -/
namespace Go.Proofs.YtjjdeejajbmecaaGreatDoor
open Go.ChangeShapes Go.WideShapes Go.ChangeAt Go.RowKit
/-- One field and what stands behind it; none where the bytes are cut off or the length is out of its bounds. -/
def fld (l : List UInt8) : Option (List UInt8 × List UInt8) :=
 if l.length < 2 then none else if 20000 < ofBE (l.take 2) then none else if l.length - 2 < ofBE (l.take 2) then none
 else some ((l.drop 2).take (ofBE (l.take 2)), (l.drop 2).drop (ofBE (l.take 2)))
theorem fld_some {l x r : List UInt8} (h : fld l = some (x, r)) : 2 ≤ l.length ∧ ofBE (l.take 2) ≤ 20000 ∧ ofBE (l.take 2) ≤ l.length - 2 ∧ x = (l.drop 2).take (ofBE (l.take 2)) ∧ r = (l.drop 2).drop (ofBE (l.take 2)) := by
 unfold fld at h
 split at h
 ·simp at h
 ·split at h
  ·simp at h
  ·split at h
   ·simp at h
   ·simp only [Option.some.injEq, Prod.mk.injEq] at h
    exact ⟨by omega, by omega, by omega, h.1.symm, h.2.symm⟩
set_option maxHeartbeats 400000 in
theorem itakefieldOk (b off cap len : Nat) (l x r : List UInt8) (el : l.length = len) (hc : len ≤ cap) (hf : fld l = some (x, r)) (w : World) (hr : Row8 w (some ⟨b, off, none⟩) l) :
  Calls Tryz.prog 120 #[.slice (some ⟨b, off, none⟩) len cap] w fun e w' => ∃ o1 o2, e = .returned (.tuple #[.slice (some ⟨b, o1, none⟩) x.length (cap - 2), .slice (some ⟨b, o2, none⟩) r.length (cap - 2 - x.length), .nilIface]) ∧ Row8 w' (some ⟨b, o1, none⟩) x ∧ Row8 w' (some ⟨b, o2, none⟩) r ∧ Below w.heap.size w w' := by
 obtain ⟨h2, hy, hle, ex, er⟩ := fld_some hf
 rw [el] at h2 hle
 have HTL : Hid ((l.take 2).length = 2) := by show _ = _; rw [List.length_take]; omega
 have HDL : Hid ((l.drop 2).length = len - 2) := by show _ = _; rw [List.length_drop, el]
 have T1 := itake b off cap 2 l len el h2 hc w hr
 change Calls _ _ #[_, .int .i64 2] _ _ at T1
 obtain ⟨y, ey⟩ : ∃ y : Nat, y = ofBE (l.take 2) := ⟨_, rfl⟩
 rw [← ey] at hy hle ex er
 have xl : x.length = y := by rw [ex, List.length_take, unhide HDL]; omega
 have rl : r.length = len - 2 - y := by rw [er, List.length_drop, unhide HDL]
 rw [xl, rl]
 have HEY := hide ey
 have HEX := hide ex
 have HER := hide er
 obtain ⟨m, em⟩ : ∃ m, m = len - 2 := ⟨_, rfl⟩
 obtain ⟨cp, ecp⟩ : ∃ cp, cp = cap - 2 := ⟨_, rfl⟩
 rw [← em, ← ecp] at T1 ⊢
 rw [← em] at HDL hle
 have hc2 : m ≤ cp := by omega
 have n1 : ¬ (20000 : Int) < (y : Int) := by omega
 clear hf ey ex er xl rl hr em ecp hc
 go_enter Tryz.func120, Tryz.ntmps120
 go_wp2_with (first | (have hq := HR2; go_at_call 107; refine (itake b o2 cp y (l.drop 2) m (unhide HDL) hle hc2 _ (unhide HR2)).mono ?_; rintro e w3 ⟨o3, rfl, hx, hrr, hb3⟩; have HX := hide hx; have HRR := hide hrr; have HB3 := hide ((unhide HB).trans (hb3.mono (unhide HB).size)); clear hx hrr hb3 HR2) | (have hq := HT; go_at_call 108; have h3 := inumber (some ⟨b, off, none⟩) cap (l.take 2) (by rw [unhide HTL]; decide) _ (unhide HT); rw [unhide HTL, ← unhide HEY] at h3; refine h3.mono ?_; clear h3; rintro e w2 ⟨rfl, hw⟩; subst w2) | (go_at_call 107; refine T1.mono ?_; clear T1; rintro e w1 ⟨o2, rfl, ht, hd, hb⟩; have HT := hide ht; have HR2 := hide hd; have HB := hide hb; clear ht hd hb))
 go_ret3
 refine ⟨o2, o3, rfl, ?_, ?_, unhide HB3⟩
 ·rw [unhide HEX]; exact unhide HX
 ·rw [unhide HER]; exact unhide HRR
/-- What the listed variables hold that reading asks for. -/
structure ErrsIn (w : World) : Prop where
 type : w.cell? ⟨8, 0, none⟩ = some (.iface 157 (.agg #[.pointer (some ⟨10, 126, none⟩)]))
 cut : ∃ u y, w.cell? ⟨0, 0, none⟩ = some (.iface u y)
 bounds : ∃ u y, w.cell? ⟨6, 0, none⟩ = some (.iface u y)
 behind : ∃ u y, w.cell? ⟨9, 0, none⟩ = some (.iface u y)
theorem ErrsIn.below {w w' : World} (h : ErrsIn w) (hb : Below w.heap.size w w') : ErrsIn w' := by
 obtain ⟨t, ⟨u1, y1, c1⟩, ⟨u2, y2, c2⟩, ⟨u3, y3, c3⟩⟩ := h
 exact ⟨cell_later hb t, ⟨u1, y1, cell_later hb c1⟩, ⟨u2, y2, cell_later hb c2⟩, ⟨u3, y3, cell_later hb c3⟩⟩
set_option maxHeartbeats 400000 in
theorem itakefieldNo (b off cap len : Nat) (l : List UInt8) (el : l.length = len) (hc : len ≤ cap) (hf : fld l = none) (w : World) (hE : ErrsIn w) (hr : Row8 w (some ⟨b, off, none⟩) l) :
  Calls Tryz.prog 120 #[.slice (some ⟨b, off, none⟩) len cap] w fun e w' => (∃ u y, e = .returned (.tuple #[.slice none 0 0, .slice none 0 0, .iface 146 (.agg #[.int .i64 3, .iface u y])])) ∧ Below w.heap.size w w' := by
 obtain ⟨u1, y1, c1⟩ := hE.cut
 by_cases h2 : len < 2
 ·have T1 := itakeNo (some ⟨b, off, none⟩) len cap 2 h2 u1 y1 w c1
  change Calls _ _ #[_, .int .i64 2] _ _ at T1
  clear hf hr hE
  go_enter Tryz.func120, Tryz.ntmps120
  go_wp2_with (go_at_call 107; refine T1.mono ?_; clear T1; rintro e w1 ⟨rfl, hb⟩)
  go_ret3
  exact ⟨⟨_, _, rfl⟩, hb⟩
 have HTL : Hid ((l.take 2).length = 2) := by show _ = _; rw [List.length_take]; omega
 have HDL : Hid ((l.drop 2).length = len - 2) := by show _ = _; rw [List.length_drop, el]
 have T1 := itake b off cap 2 l len el (by omega) hc w hr
 change Calls _ _ #[_, .int .i64 2] _ _ at T1
 obtain ⟨y, ey⟩ : ∃ y : Nat, y = ofBE (l.take 2) := ⟨_, rfl⟩
 have HEY := hide ey
 have HE := hide hE
 obtain ⟨m, em⟩ : ∃ m, m = len - 2 := ⟨_, rfl⟩
 obtain ⟨cp, ecp⟩ : ∃ cp, cp = cap - 2 := ⟨_, rfl⟩
 have hf2 : 20000 < y ∨ m < y := by
  unfold fld at hf
  rw [← ey, el, if_neg h2, ← em] at hf
  by_cases q1 : 20000 < y
  ·exact .inl q1
  ·rw [if_neg q1] at hf
   by_cases q2 : m < y
   ·exact .inr q2
   ·rw [if_neg q2] at hf; simp at hf
 rw [← em, ← ecp] at T1
 clear hf ey hr em ecp hc hE c1
 by_cases n1 : 20000 < y
 ·have n2 : (20000 : Int) < (y : Int) := by omega
  clear hf2
  go_enter Tryz.func120, Tryz.ntmps120
  go_wp2_with (first | (have hq := HT; go_at_call 108; have h3 := inumber (some ⟨b, off, none⟩) cap (l.take 2) (by rw [unhide HTL]; decide) _ (unhide HT); rw [unhide HTL, ← unhide HEY] at h3; refine h3.mono ?_; clear h3; rintro e w2 ⟨rfl, hw⟩; subst w2; obtain ⟨u2, y2, c2⟩ := (unhide HE1).bounds; clear HE1) | (go_at_call 107; refine T1.mono ?_; clear T1; rintro e w1 ⟨o2, rfl, ht, hd, hb⟩; have HT := hide ht; have HB := hide hb; have HE1 := hide ((unhide HE).below hb); clear ht hd hb))
  go_region_held3 (fun w' => w'.cell? ⟨6, 0, none⟩ = some (.iface u2 y2)) (go_keep) (fail)
  go_wp2
  go_ret3
  exact ⟨⟨_, _, rfl⟩, (unhide HB).drew⟩
 ·have n2 : ¬ (20000 : Int) < (y : Int) := by omega
  have n3 : m < y := by omega
  clear hf2
  go_enter Tryz.func120, Tryz.ntmps120
  go_wp2_with (first | (have hq := HR2; go_at_call 107; obtain ⟨u1, y1, c1⟩ := (unhide HE1).cut; refine (itakeNo (some ⟨b, o2, none⟩) m cp y n3 u1 y1 _ c1).mono ?_; rintro e w3 ⟨rfl, hb3⟩; have HB3 := hide ((unhide HB).trans (hb3.mono (unhide HB).size)); clear hb3 HR2 c1) | (have hq := HT; go_at_call 108; have h3 := inumber (some ⟨b, off, none⟩) cap (l.take 2) (by rw [unhide HTL]; decide) _ (unhide HT); rw [unhide HTL, ← unhide HEY] at h3; refine h3.mono ?_; clear h3; rintro e w2 ⟨rfl, hw⟩; subst w2) | (go_at_call 107; refine T1.mono ?_; clear T1; rintro e w1 ⟨o2, rfl, ht, hd, hb⟩; have HT := hide ht; have HR2 := hide hd; have HB := hide hb; have HE1 := hide ((unhide HE).below hb); clear ht hd hb))
  go_ret3
  exact ⟨⟨_, _, rfl⟩, unhide HB3⟩
end Go.Proofs.YtjjdeejajbmecaaGreatDoor

/- Rows of texts: the laws' own helpers. -/
namespace Go.Proofs.YtjjdeejajbmecaaGreatDoor
open Go.ChangeShapes Go.WideShapes Go.ChangeAt Go.RowKit
theorem Tryz.infL9 : (Tryz.prog.info? 9).map (fun i => (i.zero, i.size, i.bytes)) = some (some (.string ⟨#[]⟩), 1, 16) := by kernel_rfl
def cS (l : List ByteArray) : List Value := l.map fun c => .string (c)
theorem cS_len (l : List ByteArray) : (cS l).length = l.length := by simp [cS]
theorem cS_at (l : List ByteArray) (k : Nat) (h : k < l.length) : (cS l)[k]? = some (.string (l[k])) := by simp [cS, List.getElem?_eq_getElem h]
theorem cS_app (l m : List ByteArray) : cS (l ++ m) = cS l ++ cS m := by simp [cS]
theorem cS_one (l : List ByteArray) : ∀ u ∈ cS l, u.oneCell' = true := by
 intro u hu; simp [cS] at hu; obtain ⟨c, _, rfl⟩ := hu; rfl

set_option maxHeartbeats 400000 in
set_option maxRecDepth 100000 in
theorem copyString (a : Option Addr) (cap : Nat) (l : List ByteArray) (hl : l.length ≤ 1048576) (w : World) (hr : RowV w a (cS l)) :
  Calls Tryz.prog 19 #[.slice a l.length cap] w fun e w' => e = .returned (.slice (some ⟨w.heap.size, 0, none⟩) l.length l.length) ∧
   w'.ownsRow w.heap.size 9 1 (.slice (some ⟨w.heap.size, 0, none⟩) l.length l.length) l.length (cS l) ∧ Below w.heap.size w w' := by
 obtain ⟨i0, hi, hz0, hz1, hz2⟩ := info_parts Tryz.infL9
 have hcl := cS_len l
 go_enter Tryz.func19, Tryz.ntmps19
 go_wp2_with (at_make; refine wpList_make_full _ rfl _ _ 25 rfl w.heap.size 9 i0 (.string ⟨#[]⟩) 1 Tryz.underlying25 hi hz0 hz1 .i64 .i64 _ _ l.length rfl rfl rfl rfl (by rw [hz2]; omega) (by unfold maxLen; omega) (Nat.le_refl _) ?_; intro w1 hown hgrow)
 rw [show l.length * 1 = (cS l).length * 1 from by rw [hcl], ← fillV_zero _ _ rfl] at hown
 have hb1 := (Below.refl w.heap.size w).grown hgrow (Nat.le_refl _) (fun k hk => by cases hk)
 clear hgrow
 have HR := hide hr
 have HCL := hide hcl
 clear hr hcl
 go_loopw [4] (fun i wr => ∃ k : Nat, k ≤ l.length ∧ i = .int .i64 k ∧ wr.ownsRow w.heap.size 9 1 (.slice (some ⟨w.heap.size, 0, none⟩) l.length l.length) l.length (fillV (.string ⟨#[]⟩) (cS l) k) ∧ Below w.heap.size w wr) (fun i _ => l.length - (intOf i).toNat)
 case atStart => exact ⟨0, by omega, rfl, hown, hb1⟩
 case round =>
  clear hown hb1
  obtain ⟨k, hk, rfl, hown, hb⟩ := hrel
  by_cases hlt : k < l.length
  ·obtain ⟨b, off, ha, hblt, hc⟩ := (unhide HR).at (by rw [unhide HCL]; omega)
   subst ha
   have hc1 : wr.cell? ⟨b, off + k, none⟩ = some (.string (l[k])) := (hb.cell (p := ⟨b, off + k, none⟩) hblt).trans (hc k _ (cS_at l k hlt))
   have hc2 : wr.cell? ⟨w.heap.size, k, none⟩ = some (.string ⟨#[]⟩) := by rw [hown.cellAt k (by omega), fillV_at _ _ k (by rw [unhide HCL]; exact hlt)]
   have hf2 := hown.frozenAt k
   have hlt' : (k : Int) < (l.length : Int) := by omega
   have R := hown.stored k (.string (l[k]))
   rw [fillV_set _ _ k _ (cS_at l k hlt)] at R
   have R2 : Below w.heap.size w (wr.setCell ⟨w.heap.size, k, none⟩ (.string (l[k]))) := hb.setCell (p := ⟨w.heap.size, k, none⟩) (Nat.le_refl _) _
   have R1 := R.1
   clear hc R hown hb HR hblt HCL
   go_wp2_with fail
   go_roundw
   case rel => exact ⟨k + 1, by omega, by go_num, R1, R2⟩
   case measure => simp [intOf]; omega
  ·rw [fillV_all _ _ k (by rw [unhide HCL]; omega)] at hown
   go_wp2_with fail
   go_ret
   exact ⟨rfl, hown, hb⟩

set_option maxHeartbeats 400000 in
set_option maxRecDepth 100000 in
theorem sameString (a c : Option Addr) (cap cap2 : Nat) (l : List ByteArray) (hl : l.length ≤ 1048576) (w : World) (hr : RowV w a (cS l)) (hr2 : RowV w c (cS l)) :
  Calls Tryz.prog 28 #[.slice a l.length cap, .slice c l.length cap2] w fun e w' => e = .returned (.bool true) ∧ Below w.heap.size w w' := by
 have HR := hide hr
 have HR2 := hide hr2
 have HCL := hide (cS_len l)
 clear hr hr2
 have hne : ((l.length : Int) != (l.length : Int)) = false := by simp
 go_enter Tryz.func28, Tryz.ntmps28
 go_wp2_with fail
 go_loopw [5] (fun i wr => ∃ k : Nat, k ≤ l.length ∧ i = .int .i64 k ∧ Below w.heap.size w wr) (fun i _ => l.length - (intOf i).toNat)
 case atStart => exact ⟨0, by omega, rfl, Below.refl _ _⟩
 case round =>
  obtain ⟨k, hk, rfl, hb⟩ := hrel
  by_cases hlt : k < l.length
  ·obtain ⟨b, off, ha, hblt, hc⟩ := (unhide HR).at (by rw [unhide HCL]; omega)
   obtain ⟨b2, off2, ha2, hblt2, hc2⟩ := (unhide HR2).at (by rw [unhide HCL]; omega)
   subst ha ha2
   have hc1 : wr.cell? ⟨b, off + k, none⟩ = some (.string (l[k])) := (hb.cell (p := ⟨b, off + k, none⟩) hblt).trans (hc k _ (cS_at l k hlt))
   have hc3 : wr.cell? ⟨b2, off2 + k, none⟩ = some (.string (l[k])) := (hb.cell (p := ⟨b2, off2 + k, none⟩) hblt2).trans (hc2 k _ (cS_at l k hlt))
   have hlt' : (k : Int) < (l.length : Int) := by omega
   have hlt0 : (0 : Int) ≤ (k : Int) := by omega
   have hne2 : (l[k].toList != l[k].toList) = false := by simp
   clear hc hc2 HR HR2 HCL
   go_wp2_with fail
   go_region_held3 (fun w' => w'.cell? ⟨b, off + k, none⟩ = some (.string (l[k])) ∧ w'.cell? ⟨b2, off2 + k, none⟩ = some (.string (l[k]))) (go_keep) (fail)
   all_goals
    go_wp2_with fail
    go_roundw
    case rel => exact ⟨k + 1, by omega, by go_num, hb.drew⟩
    case measure => simp [intOf]; omega
  ·go_wp2_with fail
   go_ret
   exact ⟨rfl, hb⟩

/-- The text of a mark. -/
def mtD : Nat → Nat → List UInt8 → List UInt8
 | 0, _, acc => acc
 | f + 1, k, acc => if k = 0 then acc else mtD f (k / 10) (UInt8.ofNat (48 + k % 10) :: acc)
def mtS (k : Nat) : ByteArray := ⟨(109 :: mtD k k []).toArray⟩
end Go.Proofs.YtjjdeejajbmecaaGreatDoor
