/- Texts put together: MsgM NumM ReadNumM AsI. -/
import Derived.Test.YtfogppnijdjakaaGreatDoorZG1
import Derived.Test.YtfogppnijdjakaaGreatDoorZG0
import Derived.Laws.BitsAllLaws
import Derived.Laws.BitsLemmas
import Derived.LaidEql
import Derived.Stop.Asserts
import Derived.RowKitTokens
/- Which messages are right. Plain mathematics. -/
namespace Go.Proofs.YtfogppnijdjakaaGreatDoor
open Go.ChangeShapes Go.WideShapes Go.ChangeAt Go.RowKit
set_option linter.unusedVariables false
/-- The first one's term is not below. -/
def firstB (lt : Int) : List Ent → Bool
 | [] => true
 | e :: _ => decide (lt ≤ e.1)
def entsB (kd tm ix lt : Int) (l : List Ent) : Bool := if kd = 3 then (decide (ix ≠ 0) || decide (lt = 0)) && decide (ix + (l.length : Int) ≤ 60) && firstB lt l && stateB tm (-1) l else decide (l.length = 0)
def msgB (kd fr dst tm ix lt cm : Int) (l : List Ent) : Bool := inB kd 1 4 && inB fr 0 4 && inB dst 0 4 && decide (fr ≠ dst) && inB tm 1 1000 && inB ix 0 60 && inB cm 0 60 && inB lt 0 tm && entsB kd tm ix lt l
theorem stateB_vote (tm : Int) (l : List Ent) : stateB tm 0 l = stateB tm (-1) l := by unfold stateB inB; simp
theorem firstB_at {lt : Int} {l : List Ent} (h : 0 < l.length) : firstB lt l = decide (lt ≤ l[0].1) := by cases l with | nil => simp at h | cons e l => rfl
theorem firstB_nil {lt : Int} {l : List Ent} (h : l.length = 0) : firstB lt l = true := by cases l with | nil => rfl | cons e l => simp at h
theorem ents_not {kd tm ix lt : Int} {l : List Ent} (h : kd ≠ 3) : entsB kd tm ix lt l = decide (l.length = 0) := by unfold entsB; rw [if_neg h]
theorem ents_app {tm ix lt : Int} {l : List Ent} : entsB 3 tm ix lt l = ((decide (ix ≠ 0) || decide (lt = 0)) && decide (ix + (l.length : Int) ≤ 60) && firstB lt l && stateB tm (-1) l) := by unfold entsB; rw [if_pos rfl]
end Go.Proofs.YtfogppnijdjakaaGreatDoor

/- Numbers as bytes, the higher ones first: what both texts write and read. -/
namespace Go.Proofs.YtfogppnijdjakaaGreatDoor
open Go.ChangeShapes Go.WideShapes Go.ChangeAt Go.RowKit

def nb (v j : Nat) : UInt8 := UInt8.ofNat (v / 256 ^ j % 256)
def be (v : Nat) : Nat → List UInt8
 | 0 => []
 | s + 1 => nb v s :: be v s
def ofBE (l : List UInt8) : Nat := l.foldl (fun n c => n * 256 + c.toNat) 0
theorem ofBE_app (l : List UInt8) (c : UInt8) : ofBE (l ++ [c]) = ofBE l * 256 + c.toNat := by unfold ofBE; rw [List.foldl_append]; rfl
theorem ofBE_snoc (l : List UInt8) (k : Nat) (h : k < l.length) : ofBE (l.take (k + 1)) = ofBE (l.take k) * 256 + l[k].toNat := by
 rw [List.take_succ_eq_append_getElem h, ofBE_app]
theorem ofBE_lt (l : List UInt8) (k : Nat) : ofBE (l.take k) < 256 ^ k := by
 induction k with
 | zero => simp [ofBE]
 | succ k ih =>
  by_cases h : k < l.length
  ·rw [ofBE_snoc l k h, Nat.pow_succ]; have := l[k].toNat_lt; omega
  ·rw [List.take_of_length_le (by omega)]; rw [List.take_of_length_le (by omega)] at ih; rw [Nat.pow_succ]; omega
theorem or_byte (n : Nat) (c : Nat) (hn : n < 4294967296) (hc : c < 256) : bits .or .i64 ((n : Int) * 256) (c : Int) = ((n * 256 + c : Nat) : Int) := by
 have h : n <<< 8 + c = n <<< 8 ||| c := Nat.shiftLeft_add_eq_or_of_lt (by omega) n
 rw [Nat.shiftLeft_eq, show (2 : Nat) ^ 8 = 256 from rfl] at h
 show IntKind.i64.wrap ((BitVec.ofInt 64 ((n : Int) * 256) ||| BitVec.ofInt 64 (c : Int)).toNat : Int) = _
 rw [show (n : Int) * 256 = ((n * 256 : Nat) : Int) from by omega, BitVec.toNat_or, ofInt_u64 (n * 256) (by omega), ofInt_u64 c (by omega), ← h, IntKind.wrap_i64]
 omega
theorem lit_empty (w : World) (base : Nat) (t : TypeId) (hb : base ≤ w.heap.size) : (w.alloc (.cells #[] t)).ownsRow base t 1 (.slice (some ⟨w.heap.size, 0, none⟩) 0 0) ([] : List UInt8).length (B8 []) :=
 World.ownsRow_lit w #[] 0 hb (by decide) rfl

end Go.Proofs.YtfogppnijdjakaaGreatDoor

/- Bytes read as numbers: the plain mathematics. -/
namespace Go.Proofs.YtfogppnijdjakaaGreatDoor
open Go.ChangeShapes Go.WideShapes Go.ChangeAt Go.RowKit
def chunk (l : List UInt8) (k : Nat) : List UInt8 := (l.drop (3 * k)).take 3
def numsR (l : List UInt8) (n : Nat) : List Int := (List.range n).map fun k => ((ofBE (chunk l k) : Nat) : Int) - 1
theorem numsR_len (l : List UInt8) (n : Nat) : (numsR l n).length = n := by simp [numsR]
theorem numsR_snoc (l : List UInt8) (k : Nat) : numsR l (k + 1) = numsR l k ++ [((ofBE (chunk l k) : Nat) : Int) - 1] := by
 unfold numsR; rw [List.range_succ, List.map_append]; rfl
def rnL (l : List UInt8) : List Int := if 65536 < l.length then [] else if l.length % 3 = 0 then (if 4096 < l.length / 3 then [] else numsR l (l.length / 3)) else []
def rnC (l : List UInt8) : Int := if 65536 < l.length then 2 else if l.length % 3 = 0 then (if 4096 < l.length / 3 then 6 else 0) else 3
theorem rn_long {l : List UInt8} (h : 65536 < l.length) : rnL l = [] ∧ rnC l = 2 := by unfold rnL rnC; rw [if_pos h, if_pos h]; exact ⟨rfl, rfl⟩
theorem rn_form {l : List UInt8} (h : ¬ 65536 < l.length) (h2 : ¬ l.length % 3 = 0) : rnL l = [] ∧ rnC l = 3 := by unfold rnL rnC; rw [if_neg h, if_neg h, if_neg h2, if_neg h2]; exact ⟨rfl, rfl⟩
theorem rn_many {l : List UInt8} (h : ¬ 65536 < l.length) (h2 : l.length % 3 = 0) (h3 : 4096 < l.length / 3) : rnL l = [] ∧ rnC l = 6 := by unfold rnL rnC; rw [if_neg h, if_neg h, if_pos h2, if_pos h2, if_pos h3, if_pos h3]; exact ⟨rfl, rfl⟩
theorem rn_ok {l : List UInt8} (h : ¬ 65536 < l.length) (h2 : l.length % 3 = 0) (h3 : ¬ 4096 < l.length / 3) : rnL l = numsR l (l.length / 3) ∧ rnC l = 0 := by unfold rnL rnC; rw [if_neg h, if_neg h, if_pos h2, if_pos h2, if_neg h3, if_neg h3]; exact ⟨rfl, rfl⟩
theorem rnL_le (l : List UInt8) : (rnL l).length ≤ 4096 := by
 unfold rnL; split
 ·simp
 ·split
  ·split
   ·simp
   ·rw [numsR_len]; omega
  ·simp
theorem nil_ownI (w : World) (base : Nat) (t : TypeId) : w.ownsRow base t 1 (.slice none 0 0) ([] : List Int).length (cI []) := World.ownsRow_nil w base t 1
theorem lit_emptyI (w : World) (base : Nat) (t : TypeId) (hb : base ≤ w.heap.size) : (w.alloc (.cells #[] t)).ownsRow base t 1 (.slice (some ⟨w.heap.size, 0, none⟩) 0 0) ([] : List Int).length (cI []) :=
 World.ownsRow_lit w #[] 0 hb (by decide) rfl
theorem own_appI {w : World} {base : Nat} {e : TypeId} {v : Value} {l m : List Int} {n : Nat} (h : w.ownsRow base e 1 v (l.length + n) (cI l ++ cI m)) (hn : m.length = n) : w.ownsRow base e 1 v (l ++ m).length (cI (l ++ m)) := by
 rw [cI_app, List.length_append, hn]; exact h
end Go.Proofs.YtfogppnijdjakaaGreatDoor

/- errors.As at a struct target whose type is the error's own: the closed facts on the model's entries. -/
namespace Go.Proofs.YtfogppnijdjakaaGreatDoor
open Go.RowKit Go.Extern.Stop Go.Stop Go.Extern
theorem flt_valueOfP (t : Addr) (w : World) : (ReflectliteValue.unpack (.iface 152 (.pointer (some t)))).run Tryz.prog w
  = .ok (.agg #[.pointer (some ⟨10, 152, none⟩), .pointer (some ⟨w.heap.size, 0, none⟩), .int .u64 150]) (w.alloc (.cells #[.pointer (some t)] 152)) := by kernel_rfl
theorem flt_typeP (a : Addr) (w : World) : (ReflectliteValue.methodAny (ReflectliteValue.valueError "reflectlite.Value.Type" 0) (fun t _ _ _ => ReflectliteType.toType t) #[.agg #[.pointer (some ⟨10, 152, none⟩), .pointer (some a), .int .u64 150]]).run Tryz.prog w
  = .ok (.iface 161 (.agg #[.pointer (some ⟨10, 152, none⟩)])) w := by kernel_rfl
theorem flt_kindP (w : World) : ((ReflectliteType.abiMethod fun t => Functor.map (fun a : Nat => Value.int IntKind.u8 (a : Int)) (Rtype.kind t)) #[.pointer (some ⟨10, 152, none⟩)]).run Tryz.prog w = .ok (.int .u8 22) w := by kernel_rfl
theorem flt_kindS (w : World) : ((ReflectliteType.abiMethod fun t => Functor.map (fun a : Nat => Value.int IntKind.u8 (a : Int)) (Rtype.kind t)) #[.pointer (some ⟨10, 150, none⟩)]).run Tryz.prog w = .ok (.int .u8 25) w := by kernel_rfl
theorem flt_partsP (a : Addr) (w : World) : (ReflectliteValue.parts (.agg #[.pointer (some ⟨10, 152, none⟩), .pointer (some a), .int .u64 150])).run Tryz.prog w = .ok (some (152, a, 150)) w := by kernel_rfl
theorem flt_isNilP (a p : Addr) (W : World) (ha : W.cell? a = some (.pointer (some p))) :
  (ReflectliteValue.method (ReflectliteValue.valueError "reflectlite.Value.IsNil" 0) ReflectliteValue.isNil #[.agg #[.pointer (some ⟨10, 152, none⟩), .pointer (some a), .int .u64 150]]).run Tryz.prog W = .ok (.bool false) W := by
 have e1 := flt_partsP a W
 obtain ⟨V, hV⟩ : ∃ V, V = (.agg #[.pointer (some ⟨10, 152, none⟩), .pointer (some a), .int .u64 150] : Value) := ⟨_, rfl⟩
 rw [← hV] at e1 ⊢
 clear hV
 delta ReflectliteValue.method ReflectliteValue.method.match_2
 simp only [List.size_toArray, List.length_cons, List.length_nil, Nat.zero_add, dif_pos, Array.getLit, List.getElem_toArray, List.getElem_cons_zero]
 simp only [Sem.run_bind, e1, Result.andThen]
 simp [ReflectliteValue.isNil, loadVar, isAgg, underlying, Tryz.underlying152, ha, Result.andThen]
theorem flt_elemP (w : World) : (ReflectliteType.method ReflectliteType.elem #[.agg #[.pointer (some ⟨10, 152, none⟩)]]).run Tryz.prog w = .ok (.iface 161 (.agg #[.pointer (some ⟨10, 150, none⟩)])) w := by kernel_rfl
theorem flt_implementsS (w : World) : (ReflectliteType.relation "Implements" ReflectliteType.implements_ #[.agg #[.pointer (some ⟨10, 150, none⟩)], .iface 161 (.agg #[.pointer (some ⟨10, 130, none⟩)])]).run Tryz.prog w = .ok (.bool true) w := by kernel_rfl
theorem flt_typeOfS (v : Value) (w : World) : (ReflectliteType.typeOf #[.iface 150 v]).run Tryz.prog w = .ok (.iface 161 (.agg #[.pointer (some ⟨10, 150, none⟩)])) w := by kernel_rfl
theorem flt_assignS (w : World) : (ReflectliteType.relation "AssignableTo" ReflectliteType.assignableTo #[.agg #[.pointer (some ⟨10, 150, none⟩)], .iface 161 (.agg #[.pointer (some ⟨10, 150, none⟩)])]).run Tryz.prog w = .ok (.bool true) w := by kernel_rfl
theorem flt_valueOfS (c : Int) (v : Value) (w : World) : (ReflectliteValue.unpack (.iface 150 (.agg #[.int .i64 c, v]))).run Tryz.prog w
  = .ok (.agg #[.pointer (some ⟨10, 150, none⟩), .pointer (some ⟨w.heap.size, 0, none⟩), .int .u64 153]) (w.alloc (.cells #[.int .i64 c, v] 150)) := by kernel_rfl
theorem flt_elemOfP (w : World) : (Rtype.elem? 152).run Tryz.prog w = .ok (some 150) w := by kernel_rfl
theorem flt_mkS (p : Addr) (w : World) : (ReflectliteValue.mk 150 p ReflectliteValue.flagAddr).run Tryz.prog w = .ok (.agg #[.pointer (some ⟨10, 150, none⟩), .pointer (some p), .int .u64 409]) w := by kernel_rfl
theorem flt_elemVP (a p : Addr) (W : World) (ha : W.cell? a = some (.pointer (some p))) :
  (ReflectliteValue.method (ReflectliteValue.valueError "reflectlite.Value.Elem" 0) ReflectliteValue.elem #[.agg #[.pointer (some ⟨10, 152, none⟩), .pointer (some a), .int .u64 150]]).run Tryz.prog W
   = .ok (.agg #[.pointer (some ⟨10, 150, none⟩), .pointer (some p), .int .u64 409]) W := by
 have e1 := flt_partsP a W
 obtain ⟨V, hV⟩ : ∃ V, V = (.agg #[.pointer (some ⟨10, 152, none⟩), .pointer (some a), .int .u64 150] : Value) := ⟨_, rfl⟩
 rw [← hV] at e1 ⊢
 clear hV
 delta ReflectliteValue.method ReflectliteValue.method.match_2
 simp only [List.size_toArray, List.length_cons, List.length_nil, Nat.zero_add, dif_pos, Array.getLit, List.getElem_toArray, List.getElem_cons_zero]
 simp only [Sem.run_bind, e1, Result.andThen]
 simp [ReflectliteValue.elem, loadVar, isAgg, underlying, Tryz.underlying152, ha, Result.andThen, flt_elemOfP, flt_mkS]
theorem flt_partsSa (a : Addr) (w : World) : (ReflectliteValue.parts (.agg #[.pointer (some ⟨10, 150, none⟩), .pointer (some a), .int .u64 409])).run Tryz.prog w = .ok (some (150, a, 409)) w := by kernel_rfl
theorem flt_partsS (a : Addr) (w : World) : (ReflectliteValue.parts (.agg #[.pointer (some ⟨10, 150, none⟩), .pointer (some a), .int .u64 153])).run Tryz.prog w = .ok (some (150, a, 153)) w := by kernel_rfl
theorem flt_directS (w : World) : (Rtype.directlyAssignable 150 150).run Tryz.prog w = .ok true w := by kernel_rfl
theorem flt_load (bb : Nat) (c : Int) (v : Value) (W : World) (h0 : W.cell? ⟨bb, 0, none⟩ = some (.int .i64 c)) (h1 : W.cell? ⟨bb, 1, none⟩ = some v) : (loadVar 150 ⟨bb, 0, none⟩).run Tryz.prog W = .ok (.agg #[.int .i64 c, v]) W := by
 simp [go_sem, loadVar, h0, h1]
theorem flt_store (tb : Nat) (c : Int) (u : TypeId) (y o0 o1 : Value) (W : World) (h0 : W.cell? ⟨tb, 0, none⟩ = some o0) (h1 : W.cell? ⟨tb, 1, none⟩ = some o1) (f0 : W.frozen? ⟨tb, 0, none⟩ = false) (f1 : W.frozen? ⟨tb, 1, none⟩ = false) : (storeVar 150 ⟨tb, 0, none⟩ (.agg #[.int .i64 c, .iface u y])).run Tryz.prog W = .ok () ((W.setCell ⟨tb, 0, none⟩ (.int .i64 c)).setCell ⟨tb, 1, none⟩ (.iface u y)) := by
 simp [go_sem, storeVar, h0, h1, f0, f1]
theorem flt_set (tb bb : Nat) (c : Int) (u : TypeId) (y o0 o1 : Value) (W : World) (b0 : W.cell? ⟨bb, 0, none⟩ = some (.int .i64 c)) (b1 : W.cell? ⟨bb, 1, none⟩ = some (.iface u y)) (h0 : W.cell? ⟨tb, 0, none⟩ = some o0) (h1 : W.cell? ⟨tb, 1, none⟩ = some o1) (f0 : W.frozen? ⟨tb, 0, none⟩ = false) (f1 : W.frozen? ⟨tb, 1, none⟩ = false) :
  (ReflectliteValue.set #[.agg #[.pointer (some ⟨10, 150, none⟩), .pointer (some ⟨tb, 0, none⟩), .int .u64 409], .agg #[.pointer (some ⟨10, 150, none⟩), .pointer (some ⟨bb, 0, none⟩), .int .u64 153]]).run Tryz.prog W = .ok (.tuple #[]) ((W.setCell ⟨tb, 0, none⟩ (.int .i64 c)).setCell ⟨tb, 1, none⟩ (.iface u y)) := by
 have e1 := flt_partsSa ⟨tb, 0, none⟩ W
 have e2 := flt_partsS ⟨bb, 0, none⟩ W
 have e3 := flt_load bb c _ W b0 b1
 have e4 := flt_directS W
 have e5 := flt_store tb c u y o0 o1 W h0 h1 f0 f1
 obtain ⟨V, hV⟩ : ∃ V, V = (.agg #[.pointer (some ⟨10, 150, none⟩), .pointer (some ⟨tb, 0, none⟩), .int .u64 409] : Value) := ⟨_, rfl⟩
 obtain ⟨X, hX⟩ : ∃ X, X = (.agg #[.pointer (some ⟨10, 150, none⟩), .pointer (some ⟨bb, 0, none⟩), .int .u64 153] : Value) := ⟨_, rfl⟩
 rw [← hV] at e1 ⊢
 rw [← hX] at e2 ⊢
 clear hV hX
 delta ReflectliteValue.set ReflectliteValue.set.match_3
 simp only [List.size_toArray, List.length_cons, List.length_nil, Nat.zero_add, Nat.reduceAdd, dif_pos, Array.getLit, List.getElem_toArray, List.getElem_cons_zero, List.getElem_cons_succ]
 simp only [Sem.run_bind, e1, e2, Result.andThen]
 simp [e3, e4, e5, ReflectliteValue.flagAddr, Result.andThen]
end Go.Proofs.YtfogppnijdjakaaGreatDoor
