/- Texts put together: EntD EntK HeldS RecAll AsP AsM. -/
import Derived.Test.YtamjljhbnhdgdaaDoorZG3
import Derived.Test.YtamjljhbnhdgdaaDoorZG10
import Derived.Deep.Cut
import Derived.Test.YtamjljhbnhdgdaaDoorZG24
import Derived.Test.YtamjljhbnhdgdaaDoorZRecS
import Derived.Test.YtamjljhbnhdgdaaDoorZRecT
import Derived.Test.YtamjljhbnhdgdaaDoorZRecU
import Derived.Test.YtamjljhbnhdgdaaDoorZG13
import Derived.Test.YtamjljhbnhdgdaaDoorZSteS
import Derived.Test.YtamjljhbnhdgdaaDoorZG4
/- Marks of rows of a number and a text. -/
namespace Go.Proofs.YtamjljhbnhdgdaaDoor
open Go.ChangeShapes Go.WideShapes Go.ChangeAt Go.RowKit
def mkE (k0 j : Nat) : Value := if j % 2 = 0 then .int .i64 ((k0 + j : Nat) : Int) else .string (mtS (k0 + j))
def onesEnt (k0 n : Nat) : List Value := (List.range (n * 2)).map (mkE k0)
end Go.Proofs.YtamjljhbnhdgdaaDoor

/- Rows of entries, states: what the laws' own helpers mark, and tell of marked rows. -/
namespace Go.Proofs.YtamjljhbnhdgdaaDoor
open Go.ChangeShapes Go.WideShapes Go.ChangeAt Go.RowKit
set_option linter.unusedVariables false
end Go.Proofs.YtamjljhbnhdgdaaDoor

/- Rows of texts: what the laws' own helper tells of a marked row. -/
namespace Go.Proofs.YtamjljhbnhdgdaaDoor
open Go.ChangeShapes Go.WideShapes Go.ChangeAt Go.RowKit
end Go.Proofs.YtamjljhbnhdgdaaDoor

/- RecordsOf on both sides. -/
namespace Go.Proofs.YtamjljhbnhdgdaaDoor
open Go.ChangeShapes Go.WideShapes Go.ChangeAt Go.RowKit
set_option linter.unusedVariables false
theorem srecs0 (tm vt : Int) (a : Option Addr) (cap n : Nat) (l : List Ent) (HN : Hid (l.length = n)) (hn : n ≤ 1048576) (HSZ : Hid (∀ k (h : k < l.length), l[k].2.size ≤ 1048576)) (tm2 vt2 : Int) (b2 o2 : Nat) (cap2 n2 : Nat) (m : List Ent) (HN2 : Hid (m.length = n2)) (hn2 : n2 ≤ 1048576) (HSZ2 : Hid (∀ k (h : k < m.length), m[k].2.size ≤ 1048576)) (k1 : stateB tm vt l = true) (k2 : stateB tm2 vt2 m = true) (L : List ByteArray) (HL : Hid (L = recsL tm vt l tm2 vt2 m)) (w : World) (hr : RowV w a (cE l)) (hr2 : RowV w (some ⟨b2, o2, none⟩) (cE m)) :
  Calls Tryd.prog 17 #[.agg #[.int .i64 tm, .int .i64 vt, .slice a n cap], .agg #[.int .i64 tm2, .int .i64 vt2, .slice (some ⟨b2, o2, none⟩) n2 cap2]] w fun e w' => ∃ v, e = .returned v ∧ w'.ownsRow w.heap.size 9 1 v L.length (cS L) ∧ Below w.heap.size w w' := by
 by_cases hc : comN l m < l.length
 ·by_cases h1 : tm = tm2
  ·subst h1
   by_cases h2 : vt = vt2
   ·exact srecs_nc tm vt a cap n l HN hn HSZ tm vt2 b2 o2 cap2 n2 m HN2 hn2 HSZ2 (hide ⟨rfl, h2⟩) hc k1 k2 L HL w hr hr2
   ·exact srecs_vc tm vt a cap n l HN hn HSZ vt2 b2 o2 cap2 n2 m HN2 hn2 HSZ2 (hide h2) hc k1 k2 L HL w hr hr2
  ·exact srecs_tc tm vt a cap n l HN hn HSZ tm2 vt2 b2 o2 cap2 n2 m HN2 hn2 HSZ2 (hide h1) hc k1 k2 L HL w hr hr2
 ·by_cases h1 : tm = tm2
  ·subst h1
   by_cases h2 : vt = vt2
   ·exact srecs_nn tm vt a cap n l HN hn HSZ tm vt2 b2 o2 cap2 n2 m HN2 hn2 HSZ2 (hide ⟨rfl, h2⟩) hc k1 k2 L HL w hr hr2
   ·exact srecs_vn tm vt a cap n l HN hn HSZ vt2 b2 o2 cap2 n2 m HN2 hn2 HSZ2 (hide h2) hc k1 k2 L HL w hr hr2
  ·exact srecs_tn tm vt a cap n l HN hn HSZ tm2 vt2 b2 o2 cap2 n2 m HN2 hn2 HSZ2 (hide h1) hc k1 k2 L HL w hr hr2
set_option maxHeartbeats 1000000 in
set_option maxRecDepth 100000 in
theorem srecs (tm vt : Int) (a : Option Addr) (cap n : Nat) (l : List Ent) (HN : Hid (l.length = n)) (hn : n ≤ 1048576) (HSZ : Hid (∀ k (h : k < l.length), l[k].2.size ≤ 1048576)) (tm2 vt2 : Int) (b2 o2 : Nat) (cap2 n2 : Nat) (m : List Ent) (HN2 : Hid (m.length = n2)) (hn2 : n2 ≤ 1048576) (HSZ2 : Hid (∀ k (h : k < m.length), m[k].2.size ≤ 1048576)) (L : List ByteArray) (c : Int) (HIS : Hid (RecIs tm vt l tm2 vt2 m L c)) (w : World) (hr : RowV w a (cE l)) (hr2 : RowV w (some ⟨b2, o2, none⟩) (cE m)) :
  Calls Tryd.prog 5 #[.agg #[.int .i64 tm, .int .i64 vt, .slice a n cap], .agg #[.int .i64 tm2, .int .i64 vt2, .slice (some ⟨b2, o2, none⟩) n2 cap2]] w fun e w' => ∃ v, e = .returned (.tuple #[v, .int .i64 c]) ∧ w'.ownsRow w.heap.size 9 1 v L.length (cS L) ∧ Below w.heap.size w w' := by
 have B0 := hide (Go.Joins.below_alloc2 w (.cells #[.int .i64 tm, .int .i64 vt, .slice a n cap] 25) (.cells #[.int .i64 tm2, .int .i64 vt2, .slice (some ⟨b2, o2, none⟩) n2 cap2] 25))
 have A0 := hide ((BF.new w #[.int .i64 tm, .int .i64 vt, .slice a n cap] 25).alloc (.cells #[.int .i64 tm2, .int .i64 vt2, .slice (some ⟨b2, o2, none⟩) n2 cap2] 25))
 have C0 := hide (BF.new (w.alloc (.cells #[.int .i64 tm, .int .i64 vt, .slice a n cap] 25)) #[.int .i64 tm2, .int .i64 vt2, .slice (some ⟨b2, o2, none⟩) n2 cap2] 25)
 rw [show (w.alloc (.cells #[.int .i64 tm, .int .i64 vt, .slice a n cap] 25)).heap.size = w.heap.size + 1 from by simp] at C0
 have HRW1 := hide (hr.below (unhide B0))
 have HRW2 := hide (hr2.below (unhide B0))
 clear hr hr2
 rcases unhide HIS with ⟨k1, k2, hL, rfl⟩ | ⟨hb, rfl, rfl⟩
 ·have HL := hide hL
  have HK1 := hide k1.symm
  have HK2 := hide k2.symm
  clear HIS hL k1 k2
  go_enter Tryd.func5, Tryd.ntmps5
  go_wp2_with fail
  refine (sstateok tm vt a cap n l HN hn HSZ true HK1 _ (unhide HRW1)).mono ?_
  rintro e w1 ⟨rfl, hb⟩
  have B1 := hide ((unhide B0).trans (hb.mono (unhide B0).size))
  have A1 := hide ((unhide A0).below hb)
  have C1 := hide ((unhide C0).below hb)
  replace HRW1 := hide ((unhide HRW1).below hb)
  replace HRW2 := hide ((unhide HRW2).below hb)
  clear hb B0 A0 C0
  have ka1 := (unhide A1).S
  have kc1 := (unhide C1).S
  go_wp2_with fail
  refine (sstateok tm2 vt2 (some ⟨b2, o2, none⟩) cap2 n2 m HN2 hn2 HSZ2 true HK2 _ (unhide HRW2)).mono ?_
  rintro e w2 ⟨rfl, hb⟩
  have B2 := hide ((unhide B1).trans (hb.mono (unhide B1).size))
  have A2 := hide ((unhide A1).below hb)
  have C2 := hide ((unhide C1).below hb)
  replace HRW1 := hide ((unhide HRW1).below hb)
  replace HRW2 := hide ((unhide HRW2).below hb)
  clear hb B1 A1 C1
  have ka2 := (unhide A2).S
  have kc2 := (unhide C2).S
  go_wp2_with fail
  refine (srecs0 tm vt a cap n l HN hn HSZ tm2 vt2 b2 o2 cap2 n2 m HN2 hn2 HSZ2 (unhide HK1).symm (unhide HK2).symm L HL _ (unhide HRW1) (unhide HRW2)).mono ?_
  rintro e w3 ⟨v, rfl, ho, hb⟩
  have B3 := hide ((unhide B2).trans (hb.mono (unhide B2).size))
  have HO := hide (Go.Joins.ownsRow_le (base' := w.heap.size) ho (unhide B2).size)
  clear hb ho
  go_wp2_with fail
  go_ret2
  exact ⟨_, rfl, unhide HO, unhide B3⟩
 ·clear HIS
  rcases hb with k1 | ⟨k1, k2⟩
  ·have HK1 := hide k1.symm
   clear k1
   go_enter Tryd.func5, Tryd.ntmps5
   go_wp2_with fail
   refine (sstateok tm vt a cap n l HN hn HSZ false HK1 _ (unhide HRW1)).mono ?_
   rintro e w1 ⟨rfl, hb⟩
   have B1 := hide ((unhide B0).trans (hb.mono (unhide B0).size))
   have A1 := hide ((unhide A0).below hb)
   have C1 := hide ((unhide C0).below hb)
   replace HRW1 := hide ((unhide HRW1).below hb)
   replace HRW2 := hide ((unhide HRW2).below hb)
   clear hb B0 A0 C0
   have ka1 := (unhide A1).S
   have kc1 := (unhide C1).S
   have HE := hide (lit_emptyR w1 9 w.heap.size (unhide B1).size)
   have B9 := hide ((unhide B1).alloc (unhide B1).size (.cells #[] 9))
   go_wp2_with fail
   go_ret2
   exact ⟨_, rfl, unhide HE, unhide B9⟩
  ·have HK1 := hide k1.symm
   have HK2 := hide k2.symm
   clear k1 k2
   go_enter Tryd.func5, Tryd.ntmps5
   go_wp2_with fail
   refine (sstateok tm vt a cap n l HN hn HSZ true HK1 _ (unhide HRW1)).mono ?_
   rintro e w1 ⟨rfl, hb⟩
   have B1 := hide ((unhide B0).trans (hb.mono (unhide B0).size))
   have A1 := hide ((unhide A0).below hb)
   have C1 := hide ((unhide C0).below hb)
   replace HRW1 := hide ((unhide HRW1).below hb)
   replace HRW2 := hide ((unhide HRW2).below hb)
   clear hb B0 A0 C0
   have ka1 := (unhide A1).S
   have kc1 := (unhide C1).S
   go_wp2_with fail
   refine (sstateok tm2 vt2 (some ⟨b2, o2, none⟩) cap2 n2 m HN2 hn2 HSZ2 false HK2 _ (unhide HRW2)).mono ?_
   rintro e w2 ⟨rfl, hb⟩
   have B2 := hide ((unhide B1).trans (hb.mono (unhide B1).size))
   have A2 := hide ((unhide A1).below hb)
   have C2 := hide ((unhide C1).below hb)
   replace HRW1 := hide ((unhide HRW1).below hb)
   replace HRW2 := hide ((unhide HRW2).below hb)
   clear hb B1 A1 C1
   have ka2 := (unhide A2).S
   have kc2 := (unhide C2).S
   have HE := hide (lit_emptyR w2 9 w.heap.size (unhide B2).size)
   have B9 := hide ((unhide B2).alloc (unhide B2).size (.cells #[] 9))
   go_wp2_with fail
   go_ret2
   exact ⟨_, rfl, unhide HE, unhide B9⟩
end Go.Proofs.YtamjljhbnhdgdaaDoor

/- errors.As hits at once at the target placed. -/
namespace Go.Proofs.YtamjljhbnhdgdaaDoor
open Go.RowKit Go.Extern.Stop Go.Stop Go.Extern
theorem plc_typeOfS (v : Value) (w : World) : (ReflectliteType.typeOf #[.iface 113 v]).run Tryd.prog w = .ok (.iface 96 (.agg #[.pointer (some ⟨10, 113, none⟩)])) w := by kernel_rfl
end Go.Proofs.YtamjljhbnhdgdaaDoor

/- errors.As at the target fault passes a placed error by and hits its cause. -/
namespace Go.Proofs.YtamjljhbnhdgdaaDoor
open Go.RowKit Go.Extern.Stop Go.Stop Go.Extern
theorem flt_assignNo (w : World) : (ReflectliteType.relation "AssignableTo" ReflectliteType.assignableTo #[.agg #[.pointer (some ⟨10, 113, none⟩)], .iface 96 (.agg #[.pointer (some ⟨10, 107, none⟩)])]).run Tryd.prog w = .ok (.bool false) w := by kernel_rfl
theorem plc_noAs (v : Value) (xT : TypeId) (w : World) : (Instr.typeAssert (.iface 113 v) xT 142 true).run Tryd.prog w = .ok (.tuple #[.nilIface, .bool false]) w := run_typeAssert_lacksB Tryd.underlying142 (by kernel_rfl) (by kernel_rfl) v xT w
theorem plc_hasUnwrap (v : Value) (xT : TypeId) (w : World) : (Instr.typeAssert (.iface 113 v) xT 101 true).run Tryd.prog w = .ok (.tuple #[.iface 113 v, .bool true]) w := run_typeAssert_hasB Tryd.underlying101 (by kernel_rfl) v xT w
theorem plc_mUnwrap (v : Value) (w : World) : (Go.method 276 113 v "Unwrap").run Tryd.prog w = .ok (102, v) w := by kernel_rfl
set_option maxHeartbeats 8000000 in
theorem flt_miss (tb : Nat) (p c : Int) (u : TypeId) (y o0 o1 : Value) (w : World) (hg : w.cell? ⟨6, 0, none⟩ = some (.iface 96 (.agg #[.pointer (some ⟨10, 51, none⟩)]))) (h0 : w.cell? ⟨tb, 0, none⟩ = some o0) (h1 : w.cell? ⟨tb, 1, none⟩ = some o1) (f0 : w.frozen? ⟨tb, 0, none⟩ = false) (f1 : w.frozen? ⟨tb, 1, none⟩ = false) :
  Calls Tryd.prog 50 #[.iface 113 (.agg #[.int .i64 p, .iface 107 (.agg #[.int .i64 c, .iface u y])]), .iface 109 (.pointer (some ⟨tb, 0, none⟩))] w fun ev w' => ev = .returned (.bool true) ∧ w' = ((((((((w.alloc (.cells #[.pointer (some ⟨tb, 0, none⟩)] 109))).alloc (.cells #[.pointer (some ⟨10, 109, none⟩), .pointer (some ⟨w.heap.size, 0, none⟩), .int .u64 150] 126)).alloc (.cells #[.pointer (some ⟨10, 109, none⟩), .pointer (some ⟨w.heap.size, 0, none⟩), .int .u64 150] 126)).alloc (.cells #[.int .i64 p, .iface 107 (.agg #[.int .i64 c, .iface u y])] 113)).alloc (.cells #[.int .i64 c, .iface u y] 107)).setCell ⟨tb, 0, none⟩ (.int .i64 c)).setCell ⟨tb, 1, none⟩ (.iface u y)) := by
 have hlt : 6 < w.heap.size := World.block_lt_of_cell? w _ hg
 have htl : tb < w.heap.size := World.block_lt_of_cell? w _ h0
 have hvo := @run_callFunc_extern Tryd.prog 57 _ (fun args => ReflectliteValue.unpack (args.getD 0 (.tuple #[]))) Tryd.func57 (by kernel_rfl) (by kernel_rfl) (by kernel_rfl) (by kernel_rfl)
 have hty := @run_callFunc_extern Tryd.prog 58 _ (ReflectliteValue.methodAny (ReflectliteValue.valueError "reflectlite.Value.Type" 0) (fun t _ _ _ => ReflectliteType.toType t)) Tryd.func58 (by kernel_rfl) (by kernel_rfl) (by kernel_rfl) (by kernel_rfl)
 have hnil := @run_callFunc_extern Tryd.prog 59 _ (ReflectliteValue.method (ReflectliteValue.valueError "reflectlite.Value.IsNil" 0) ReflectliteValue.isNil) Tryd.func59 (by kernel_rfl) (by kernel_rfl) (by kernel_rfl) (by kernel_rfl)
 have hkd := @run_callFunc_extern Tryd.prog 84 _ (ReflectliteType.abiMethod fun t => do pure (.int .u8 (← Rtype.kind t))) Tryd.func84 (by kernel_rfl) (by kernel_rfl) (by kernel_rfl) (by kernel_rfl)
 have hel := @run_callFunc_extern Tryd.prog 91 _ (ReflectliteType.method ReflectliteType.elem) Tryd.func91 (by kernel_rfl) (by kernel_rfl) (by kernel_rfl) (by kernel_rfl)
 have him := @run_callFunc_extern Tryd.prog 92 _ (ReflectliteType.relation "Implements" ReflectliteType.implements_) Tryd.func92 (by kernel_rfl) (by kernel_rfl) (by kernel_rfl) (by kernel_rfl)
 have hto := @run_callFunc_extern Tryd.prog 37 _ (ReflectliteType.typeOf) Tryd.func37 (by kernel_rfl) (by kernel_rfl) (by kernel_rfl) (by kernel_rfl)
 have has := @run_callFunc_extern Tryd.prog 89 _ (ReflectliteType.relation "AssignableTo" ReflectliteType.assignableTo) Tryd.func89 (by kernel_rfl) (by kernel_rfl) (by kernel_rfl) (by kernel_rfl)
 have hev := @run_callFunc_extern Tryd.prog 67 _ (ReflectliteValue.method (ReflectliteValue.valueError "reflectlite.Value.Elem" 0) ReflectliteValue.elem) Tryd.func67 (by kernel_rfl) (by kernel_rfl) (by kernel_rfl) (by kernel_rfl)
 have hst := @run_callFunc_extern Tryd.prog 68 _ (ReflectliteValue.set) Tryd.func68 (by kernel_rfl) (by kernel_rfl) (by kernel_rfl) (by kernel_rfl)
 have m1 := as_mKind
 have m2 := as_mElem
 have m3 := as_mImplements
 have m4 := as_mAssignableTo
 have m5 := plc_mUnwrap
 have a1 := flt_valueOfP
 have a2 := flt_typeP
 have a3 := flt_kindP
 have a4 := flt_kindS
 have a5 := flt_elemP
 have a6 := flt_implementsS
 have a7 := flt_typeOfS
 have a8 := flt_assignS
 have a9 := flt_valueOfS
 have b7 := plc_typeOfS
 have b8 := flt_assignNo
 have b1 := plc_noAs
 have b2 := plc_hasUnwrap
 have n8 := flt_isNilP ⟨w.heap.size, 0, none⟩ ⟨tb, 0, none⟩ ((w.alloc (.cells #[.pointer (some ⟨tb, 0, none⟩)] 109)).alloc (.cells #[.pointer (some ⟨10, 109, none⟩), .pointer (some ⟨w.heap.size, 0, none⟩), .int .u64 150] 126)) (by simp)
 have hg2 : ((w.alloc (.cells #[.pointer (some ⟨tb, 0, none⟩)] 109)).alloc (.cells #[.pointer (some ⟨10, 109, none⟩), .pointer (some ⟨w.heap.size, 0, none⟩), .int .u64 150] 126)).cell? ⟨6, 0, none⟩ = some (.iface 96 (.agg #[.pointer (some ⟨10, 51, none⟩)])) := by
  rw [World.cell?_alloc_lt _ _ ⟨6, 0, none⟩ (by simp <;> omega), World.cell?_alloc_lt _ _ ⟨6, 0, none⟩ hlt]; exact hg
 have el := flt_elemVP ⟨w.heap.size, 0, none⟩ ⟨tb, 0, none⟩ (((((w.alloc (.cells #[.pointer (some ⟨tb, 0, none⟩)] 109))).alloc (.cells #[.pointer (some ⟨10, 109, none⟩), .pointer (some ⟨w.heap.size, 0, none⟩), .int .u64 150] 126)).alloc (.cells #[.pointer (some ⟨10, 109, none⟩), .pointer (some ⟨w.heap.size, 0, none⟩), .int .u64 150] 126)).alloc (.cells #[.int .i64 p, .iface 107 (.agg #[.int .i64 c, .iface u y])] 113)) (by rw [World.cell?_alloc_lt _ _ ⟨w.heap.size, 0, none⟩ (by simp <;> omega), World.cell?_alloc_lt _ _ ⟨w.heap.size, 0, none⟩ (by simp <;> omega)]; simp)
 have st := flt_set tb (w.heap.size + 1 + 1 + 1 + 1) c u y o0 o1 ((((((w.alloc (.cells #[.pointer (some ⟨tb, 0, none⟩)] 109))).alloc (.cells #[.pointer (some ⟨10, 109, none⟩), .pointer (some ⟨w.heap.size, 0, none⟩), .int .u64 150] 126)).alloc (.cells #[.pointer (some ⟨10, 109, none⟩), .pointer (some ⟨w.heap.size, 0, none⟩), .int .u64 150] 126)).alloc (.cells #[.int .i64 p, .iface 107 (.agg #[.int .i64 c, .iface u y])] 113)).alloc (.cells #[.int .i64 c, .iface u y] 107))
  (by rw [World.cell?_alloc_at _ _ _ _ (by simp)]; rfl) (by rw [World.cell?_alloc_at _ _ _ _ (by simp)]; rfl)
  (by rw [World.cell?_alloc_lt _ _ ⟨tb, 0, none⟩ (by simp <;> omega), World.cell?_alloc_lt _ _ ⟨tb, 0, none⟩ (by simp <;> omega), World.cell?_alloc_lt _ _ ⟨tb, 0, none⟩ (by simp <;> omega), World.cell?_alloc_lt _ _ ⟨tb, 0, none⟩ (by simp <;> omega), World.cell?_alloc_lt _ _ ⟨tb, 0, none⟩ htl]; exact h0)
  (by rw [World.cell?_alloc_lt _ _ ⟨tb, 1, none⟩ (by simp <;> omega), World.cell?_alloc_lt _ _ ⟨tb, 1, none⟩ (by simp <;> omega), World.cell?_alloc_lt _ _ ⟨tb, 1, none⟩ (by simp <;> omega), World.cell?_alloc_lt _ _ ⟨tb, 1, none⟩ (by simp <;> omega), World.cell?_alloc_lt _ _ ⟨tb, 1, none⟩ htl]; exact h1)
  (by rw [World.frozen?_alloc_old _ _ ⟨tb, 0, none⟩ (by simp <;> omega), World.frozen?_alloc_old _ _ ⟨tb, 0, none⟩ (by simp <;> omega), World.frozen?_alloc_old _ _ ⟨tb, 0, none⟩ (by simp <;> omega), World.frozen?_alloc_old _ _ ⟨tb, 0, none⟩ (by simp <;> omega), World.frozen?_alloc_old _ _ ⟨tb, 0, none⟩ (Nat.ne_of_lt htl)]; exact f0)
  (by rw [World.frozen?_alloc_old _ _ ⟨tb, 1, none⟩ (by simp <;> omega), World.frozen?_alloc_old _ _ ⟨tb, 1, none⟩ (by simp <;> omega), World.frozen?_alloc_old _ _ ⟨tb, 1, none⟩ (by simp <;> omega), World.frozen?_alloc_old _ _ ⟨tb, 1, none⟩ (by simp <;> omega), World.frozen?_alloc_old _ _ ⟨tb, 1, none⟩ (Nat.ne_of_lt htl)]; exact f1)
 go_enter Tryd.func50, Tryd.ntmps50
 go_wp2
 refine wp_loop_rounds 2 ?_
 rw [rounds_succ]
 go_wp2
 rw [rounds_succ]
 go_wp2
 go_ret
 exact ⟨rfl, rfl⟩
end Go.Proofs.YtamjljhbnhdgdaaDoor
