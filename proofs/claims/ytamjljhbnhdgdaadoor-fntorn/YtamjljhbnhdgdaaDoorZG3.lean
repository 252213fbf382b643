/- Texts put together: EntM SteM IntS ReadNumM AsI. -/
import Derived.Test.YtamjljhbnhdgdaaDoorZG2
import Derived.Test.YtamjljhbnhdgdaaDoorZG1
import Derived.Test.YtamjljhbnhdgdaaDoorZG0
import Derived.LaidEql
import Derived.Stop.Asserts
import Derived.RowKitTokens
/- Rows of entries: a number and a text, two cells each. -/
namespace Go.Proofs.YtamjljhbnhdgdaaDoor
open Go.ChangeShapes Go.WideShapes Go.ChangeAt Go.RowKit
def cE (l : List (Int × ByteArray)) : List Value := l.flatMap fun c => [.int .i64 c.1, .string c.2]
theorem cE_cons (c : Int × ByteArray) (l : List (Int × ByteArray)) : cE (c :: l) = .int .i64 c.1 :: .string c.2 :: cE l := rfl
theorem cE_len (l : List (Int × ByteArray)) : (cE l).length = l.length * 2 := by
 induction l with
 | nil => rfl
 | cons c l ih => rw [cE_cons]; simp [ih]; omega
theorem cE_at (l : List (Int × ByteArray)) : ∀ (k : Nat) (h : k < l.length), (cE l)[k * 2]? = some (.int .i64 l[k].1) ∧ (cE l)[k * 2 + 1]? = some (.string l[k].2) := by
 induction l with
 | nil => intro k h; simp at h
 | cons c l ih =>
  intro k h
  cases k with
  | zero => exact ⟨rfl, rfl⟩
  | succ k =>
   have := ih k (by simpa using h)
   rw [cE_cons, show (k + 1) * 2 = k * 2 + 1 + 1 from by omega]
   simpa using this
theorem cE_app (l m : List (Int × ByteArray)) : cE (l ++ m) = cE l ++ cE m := by simp [cE]
theorem cE_one (l : List (Int × ByteArray)) : ∀ u ∈ cE l, u.oneCell' = true := by
 intro u hu; simp [cE] at hu; obtain ⟨a, b, _, rfl | rfl⟩ := hu <;> rfl
theorem cE_take (l : List (Int × ByteArray)) (k : Nat) : cE (l.take k) = (cE l).take (k * 2) := by
 induction l generalizing k with
 | nil => simp [cE]
 | cons c l ih =>
  cases k with
  | zero => simp [cE]
  | succ k => rw [List.take_succ_cons, cE_cons, cE_cons, ih, show (k + 1) * 2 = k * 2 + 1 + 1 from by omega, List.take_succ_cons, List.take_succ_cons]
/-- The first k entries, the others still nought. -/
def fillE (l : List (Int × ByteArray)) (k : Nat) : List (Int × ByteArray) := l.take k ++ List.replicate (l.length - k) (0, ⟨#[]⟩)
theorem row_ent {w : World} {b off : Nat} {l : List (Int × ByteArray)} (hc : ∀ i u, (cE l)[i]? = some u → w.cell? ⟨b, off + i, none⟩ = some u) (k : Nat) (h : k < l.length) :
  w.cell? ⟨b, off + k * 2, none⟩ = some (.int .i64 l[k].1) ∧ w.cell? ⟨b, off + k * 2 + 1, none⟩ = some (.string l[k].2) :=
 ⟨hc _ _ (cE_at l k h).1, hc _ _ (cE_at l k h).2⟩
end Go.Proofs.YtamjljhbnhdgdaaDoor

/- Which states are right. Plain mathematics. -/
namespace Go.Proofs.YtamjljhbnhdgdaaDoor
open Go.ChangeShapes Go.WideShapes Go.ChangeAt Go.RowKit
set_option linter.unusedVariables false
abbrev Ent := Int × ByteArray
def entB (p T : Int) (e : Ent) : Bool := inB e.1 p T && decide (e.2.size ≤ 400)
def logB (T : Int) : Int → List Ent → Bool
 | _, [] => true
 | p, e :: l => entB p T e && logB T e.1 l
def stateB (tm vt : Int) (l : List Ent) : Bool := inB tm 0 1000 && inB vt (-1) 4 && decide (l.length ≤ 60) && logB tm 1 l
theorem logB_step (T p : Int) (l : List Ent) (k : Nat) (h : k < l.length) : logB T p (l.drop k) = (entB p T l[k] && logB T l[k].1 (l.drop (k + 1))) := by
 rw [List.drop_eq_getElem_cons h]; rfl
theorem logB_end (T p : Int) (l : List Ent) (k : Nat) (h : l.length ≤ k) : logB T p (l.drop k) = true := by
 rw [List.drop_eq_nil_of_le h]; rfl
theorem st1 {tm vt : Int} {l : List Ent} (h : inB tm 0 1000 = false) : stateB tm vt l = false := by unfold stateB; rw [h]; rfl
theorem st2 {tm vt : Int} {l : List Ent} (h : inB vt (-1) 4 = false) : stateB tm vt l = false := by unfold stateB; rw [h]; simp
theorem st3 {tm vt : Int} {l : List Ent} (h : ¬ l.length ≤ 60) : stateB tm vt l = false := by unfold stateB; rw [decide_eq_false h]; simp
theorem st4 {tm vt : Int} {l : List Ent} (h1 : inB tm 0 1000 = true) (h2 : inB vt (-1) 4 = true) (h3 : l.length ≤ 60) : stateB tm vt l = logB tm 1 l := by unfold stateB; rw [h1, h2, decide_eq_true h3]; rfl
theorem state_parts {tm vt : Int} {l : List Ent} (h : stateB tm vt l = true) : (0 ≤ tm ∧ tm ≤ 1000) ∧ (-1 ≤ vt ∧ vt ≤ 4) ∧ l.length ≤ 60 ∧ logB tm 1 l = true := by
 unfold stateB inB at h; simp at h; exact ⟨h.1.1.1, h.1.1.2, h.1.2, h.2⟩
/-- The term that an entry at place k may not be below. -/
def prevT (l : List Ent) (k : Nat) : Int := if h : k - 1 < l.length ∧ 0 < k then l[k - 1].1 else 1
theorem prevT_zero (l : List Ent) : prevT l 0 = 1 := by unfold prevT; rw [dif_neg (by omega)]
theorem prevT_succ (l : List Ent) (k : Nat) (h : k < l.length) : prevT l (k + 1) = l[k].1 := by unfold prevT; rw [dif_pos ⟨by simpa using h, by omega⟩]; rfl
end Go.Proofs.YtamjljhbnhdgdaaDoor

/- Rows of integers: the laws' own helpers. -/
namespace Go.Proofs.YtamjljhbnhdgdaaDoor
open Go.ChangeShapes Go.WideShapes Go.ChangeAt Go.RowKit
def cI (l : List Int) : List Value := l.map fun c => .int .i64 (c)
theorem cI_len (l : List Int) : (cI l).length = l.length := by simp [cI]
theorem cI_at (l : List Int) (k : Nat) (h : k < l.length) : (cI l)[k]? = some (.int .i64 (l[k])) := by simp [cI, List.getElem?_eq_getElem h]
theorem cI_app (l m : List Int) : cI (l ++ m) = cI l ++ cI m := by simp [cI]
theorem cI_one (l : List Int) : ∀ u ∈ cI l, u.oneCell' = true := by
 intro u hu; simp [cI] at hu; obtain ⟨c, _, rfl⟩ := hu; rfl

end Go.Proofs.YtamjljhbnhdgdaaDoor

/- Bytes read as numbers: the plain mathematics. -/
namespace Go.Proofs.YtamjljhbnhdgdaaDoor
open Go.ChangeShapes Go.WideShapes Go.ChangeAt Go.RowKit
def chunk (l : List UInt8) (k : Nat) : List UInt8 := (l.drop (3 * k)).take 3
def numsR (l : List UInt8) (n : Nat) : List Int := (List.range n).map fun k => ((ofBE (chunk l k) : Nat) : Int) - 1
theorem numsR_len (l : List UInt8) (n : Nat) : (numsR l n).length = n := by simp [numsR]
theorem numsR_snoc (l : List UInt8) (k : Nat) : numsR l (k + 1) = numsR l k ++ [((ofBE (chunk l k) : Nat) : Int) - 1] := by
 unfold numsR; rw [List.range_succ, List.map_append]; rfl
def rnL (l : List UInt8) : List Int := if 65536 < l.length then [] else if l.length % 3 = 0 then (if 4096 < l.length / 3 then [] else numsR l (l.length / 3)) else []
def rnC (l : List UInt8) : Int := if 65536 < l.length then 2 else if l.length % 3 = 0 then (if 4096 < l.length / 3 then 6 else 0) else 3
theorem rn_long {l : List UInt8} (h : 65536 < l.length) : rnL l = [] ∧ rnC l = 2 := by unfold rnL rnC; rw [if_pos h, if_pos h]; exact ⟨rfl, rfl⟩
theorem rn_form {l : List UInt8} (h : ¬ 65536 < l.length) (h2 : ¬ l.length % 3 = 0) : rnL l = [] ∧ rnC l = 3 := by unfold rnL rnC; rw [if_neg h, if_neg h, if_neg h2, if_neg h2]; exact ⟨rfl, rfl⟩
theorem rn_many {l : List UInt8} (h : ¬ 65536 < l.length) (h2 : l.length % 3 = 0) (h3 : 4096 < l.length / 3) : rnL l = [] ∧ rnC l = 6 := by unfold rnL rnC; rw [if_neg h, if_neg h, if_pos h2, if_pos h2, if_pos h3, if_pos h3]; exact ⟨rfl, rfl⟩
theorem rn_ok {l : List UInt8} (h : ¬ 65536 < l.length) (h2 : l.length % 3 = 0) (h3 : ¬ 4096 < l.length / 3) : rnL l = numsR l (l.length / 3) ∧ rnC l = 0 := by unfold rnL rnC; rw [if_neg h, if_neg h, if_pos h2, if_pos h2, if_neg h3, if_neg h3]; exact ⟨rfl, rfl⟩
theorem rnL_le (l : List UInt8) : (rnL l).length ≤ 4096 := by
 unfold rnL; split
 ·simp
 ·split
  ·split
   ·simp
   ·rw [numsR_len]; omega
  ·simp
theorem nil_ownI (w : World) (base : Nat) (t : TypeId) : w.ownsRow base t 1 (.slice none 0 0) ([] : List Int).length (cI []) := World.ownsRow_nil w base t 1
theorem lit_emptyI (w : World) (base : Nat) (t : TypeId) (hb : base ≤ w.heap.size) : (w.alloc (.cells #[] t)).ownsRow base t 1 (.slice (some ⟨w.heap.size, 0, none⟩) 0 0) ([] : List Int).length (cI []) :=
 World.ownsRow_lit w #[] 0 hb (by decide) rfl
theorem own_appI {w : World} {base : Nat} {e : TypeId} {v : Value} {l m : List Int} {n : Nat} (h : w.ownsRow base e 1 v (l.length + n) (cI l ++ cI m)) (hn : m.length = n) : w.ownsRow base e 1 v (l ++ m).length (cI (l ++ m)) := by
 rw [cI_app, List.length_append, hn]; exact h
end Go.Proofs.YtamjljhbnhdgdaaDoor

/- errors.As at a struct target whose type is the error's own: the closed facts on the model's entries. -/
namespace Go.Proofs.YtamjljhbnhdgdaaDoor
open Go.RowKit Go.Extern.Stop Go.Stop Go.Extern
theorem flt_valueOfP (t : Addr) (w : World) : (ReflectliteValue.unpack (.iface 109 (.pointer (some t)))).run Tryd.prog w
  = .ok (.agg #[.pointer (some ⟨10, 109, none⟩), .pointer (some ⟨w.heap.size, 0, none⟩), .int .u64 150]) (w.alloc (.cells #[.pointer (some t)] 109)) := by kernel_rfl
theorem flt_typeP (a : Addr) (w : World) : (ReflectliteValue.methodAny (ReflectliteValue.valueError "reflectlite.Value.Type" 0) (fun t _ _ _ => ReflectliteType.toType t) #[.agg #[.pointer (some ⟨10, 109, none⟩), .pointer (some a), .int .u64 150]]).run Tryd.prog w
  = .ok (.iface 96 (.agg #[.pointer (some ⟨10, 109, none⟩)])) w := by kernel_rfl
theorem flt_kindP (w : World) : ((ReflectliteType.abiMethod fun t => Functor.map (fun a : Nat => Value.int IntKind.u8 (a : Int)) (Rtype.kind t)) #[.pointer (some ⟨10, 109, none⟩)]).run Tryd.prog w = .ok (.int .u8 22) w := by kernel_rfl
theorem flt_kindS (w : World) : ((ReflectliteType.abiMethod fun t => Functor.map (fun a : Nat => Value.int IntKind.u8 (a : Int)) (Rtype.kind t)) #[.pointer (some ⟨10, 107, none⟩)]).run Tryd.prog w = .ok (.int .u8 25) w := by kernel_rfl
theorem flt_partsP (a : Addr) (w : World) : (ReflectliteValue.parts (.agg #[.pointer (some ⟨10, 109, none⟩), .pointer (some a), .int .u64 150])).run Tryd.prog w = .ok (some (109, a, 150)) w := by kernel_rfl
theorem flt_isNilP (a p : Addr) (W : World) (ha : W.cell? a = some (.pointer (some p))) :
  (ReflectliteValue.method (ReflectliteValue.valueError "reflectlite.Value.IsNil" 0) ReflectliteValue.isNil #[.agg #[.pointer (some ⟨10, 109, none⟩), .pointer (some a), .int .u64 150]]).run Tryd.prog W = .ok (.bool false) W := by
 have e1 := flt_partsP a W
 obtain ⟨V, hV⟩ : ∃ V, V = (.agg #[.pointer (some ⟨10, 109, none⟩), .pointer (some a), .int .u64 150] : Value) := ⟨_, rfl⟩
 rw [← hV] at e1 ⊢
 clear hV
 delta ReflectliteValue.method ReflectliteValue.method.match_2
 simp only [List.size_toArray, List.length_cons, List.length_nil, Nat.zero_add, dif_pos, Array.getLit, List.getElem_toArray, List.getElem_cons_zero]
 simp only [Sem.run_bind, e1, Result.andThen]
 simp [ReflectliteValue.isNil, loadVar, isAgg, underlying, Tryd.underlying109, ha, Result.andThen]
theorem flt_elemP (w : World) : (ReflectliteType.method ReflectliteType.elem #[.agg #[.pointer (some ⟨10, 109, none⟩)]]).run Tryd.prog w = .ok (.iface 96 (.agg #[.pointer (some ⟨10, 107, none⟩)])) w := by kernel_rfl
theorem flt_implementsS (w : World) : (ReflectliteType.relation "Implements" ReflectliteType.implements_ #[.agg #[.pointer (some ⟨10, 107, none⟩)], .iface 96 (.agg #[.pointer (some ⟨10, 51, none⟩)])]).run Tryd.prog w = .ok (.bool true) w := by kernel_rfl
theorem flt_typeOfS (v : Value) (w : World) : (ReflectliteType.typeOf #[.iface 107 v]).run Tryd.prog w = .ok (.iface 96 (.agg #[.pointer (some ⟨10, 107, none⟩)])) w := by kernel_rfl
theorem flt_assignS (w : World) : (ReflectliteType.relation "AssignableTo" ReflectliteType.assignableTo #[.agg #[.pointer (some ⟨10, 107, none⟩)], .iface 96 (.agg #[.pointer (some ⟨10, 107, none⟩)])]).run Tryd.prog w = .ok (.bool true) w := by kernel_rfl
theorem flt_valueOfS (c : Int) (v : Value) (w : World) : (ReflectliteValue.unpack (.iface 107 (.agg #[.int .i64 c, v]))).run Tryd.prog w
  = .ok (.agg #[.pointer (some ⟨10, 107, none⟩), .pointer (some ⟨w.heap.size, 0, none⟩), .int .u64 153]) (w.alloc (.cells #[.int .i64 c, v] 107)) := by kernel_rfl
theorem flt_elemOfP (w : World) : (Rtype.elem? 109).run Tryd.prog w = .ok (some 107) w := by kernel_rfl
theorem flt_mkS (p : Addr) (w : World) : (ReflectliteValue.mk 107 p ReflectliteValue.flagAddr).run Tryd.prog w = .ok (.agg #[.pointer (some ⟨10, 107, none⟩), .pointer (some p), .int .u64 409]) w := by kernel_rfl
theorem flt_elemVP (a p : Addr) (W : World) (ha : W.cell? a = some (.pointer (some p))) :
  (ReflectliteValue.method (ReflectliteValue.valueError "reflectlite.Value.Elem" 0) ReflectliteValue.elem #[.agg #[.pointer (some ⟨10, 109, none⟩), .pointer (some a), .int .u64 150]]).run Tryd.prog W
   = .ok (.agg #[.pointer (some ⟨10, 107, none⟩), .pointer (some p), .int .u64 409]) W := by
 have e1 := flt_partsP a W
 obtain ⟨V, hV⟩ : ∃ V, V = (.agg #[.pointer (some ⟨10, 109, none⟩), .pointer (some a), .int .u64 150] : Value) := ⟨_, rfl⟩
 rw [← hV] at e1 ⊢
 clear hV
 delta ReflectliteValue.method ReflectliteValue.method.match_2
 simp only [List.size_toArray, List.length_cons, List.length_nil, Nat.zero_add, dif_pos, Array.getLit, List.getElem_toArray, List.getElem_cons_zero]
 simp only [Sem.run_bind, e1, Result.andThen]
 simp [ReflectliteValue.elem, loadVar, isAgg, underlying, Tryd.underlying109, ha, Result.andThen, flt_elemOfP, flt_mkS]
theorem flt_partsSa (a : Addr) (w : World) : (ReflectliteValue.parts (.agg #[.pointer (some ⟨10, 107, none⟩), .pointer (some a), .int .u64 409])).run Tryd.prog w = .ok (some (107, a, 409)) w := by kernel_rfl
theorem flt_partsS (a : Addr) (w : World) : (ReflectliteValue.parts (.agg #[.pointer (some ⟨10, 107, none⟩), .pointer (some a), .int .u64 153])).run Tryd.prog w = .ok (some (107, a, 153)) w := by kernel_rfl
theorem flt_directS (w : World) : (Rtype.directlyAssignable 107 107).run Tryd.prog w = .ok true w := by kernel_rfl
theorem flt_load (bb : Nat) (c : Int) (v : Value) (W : World) (h0 : W.cell? ⟨bb, 0, none⟩ = some (.int .i64 c)) (h1 : W.cell? ⟨bb, 1, none⟩ = some v) : (loadVar 107 ⟨bb, 0, none⟩).run Tryd.prog W = .ok (.agg #[.int .i64 c, v]) W := by
 simp [go_sem, loadVar, h0, h1]
theorem flt_store (tb : Nat) (c : Int) (u : TypeId) (y o0 o1 : Value) (W : World) (h0 : W.cell? ⟨tb, 0, none⟩ = some o0) (h1 : W.cell? ⟨tb, 1, none⟩ = some o1) (f0 : W.frozen? ⟨tb, 0, none⟩ = false) (f1 : W.frozen? ⟨tb, 1, none⟩ = false) : (storeVar 107 ⟨tb, 0, none⟩ (.agg #[.int .i64 c, .iface u y])).run Tryd.prog W = .ok () ((W.setCell ⟨tb, 0, none⟩ (.int .i64 c)).setCell ⟨tb, 1, none⟩ (.iface u y)) := by
 simp [go_sem, storeVar, h0, h1, f0, f1]
theorem flt_set (tb bb : Nat) (c : Int) (u : TypeId) (y o0 o1 : Value) (W : World) (b0 : W.cell? ⟨bb, 0, none⟩ = some (.int .i64 c)) (b1 : W.cell? ⟨bb, 1, none⟩ = some (.iface u y)) (h0 : W.cell? ⟨tb, 0, none⟩ = some o0) (h1 : W.cell? ⟨tb, 1, none⟩ = some o1) (f0 : W.frozen? ⟨tb, 0, none⟩ = false) (f1 : W.frozen? ⟨tb, 1, none⟩ = false) :
  (ReflectliteValue.set #[.agg #[.pointer (some ⟨10, 107, none⟩), .pointer (some ⟨tb, 0, none⟩), .int .u64 409], .agg #[.pointer (some ⟨10, 107, none⟩), .pointer (some ⟨bb, 0, none⟩), .int .u64 153]]).run Tryd.prog W = .ok (.tuple #[]) ((W.setCell ⟨tb, 0, none⟩ (.int .i64 c)).setCell ⟨tb, 1, none⟩ (.iface u y)) := by
 have e1 := flt_partsSa ⟨tb, 0, none⟩ W
 have e2 := flt_partsS ⟨bb, 0, none⟩ W
 have e3 := flt_load bb c _ W b0 b1
 have e4 := flt_directS W
 have e5 := flt_store tb c u y o0 o1 W h0 h1 f0 f1
 obtain ⟨V, hV⟩ : ∃ V, V = (.agg #[.pointer (some ⟨10, 107, none⟩), .pointer (some ⟨tb, 0, none⟩), .int .u64 409] : Value) := ⟨_, rfl⟩
 obtain ⟨X, hX⟩ : ∃ X, X = (.agg #[.pointer (some ⟨10, 107, none⟩), .pointer (some ⟨bb, 0, none⟩), .int .u64 153] : Value) := ⟨_, rfl⟩
 rw [← hV] at e1 ⊢
 rw [← hX] at e2 ⊢
 clear hV hX
 delta ReflectliteValue.set ReflectliteValue.set.match_3
 simp only [List.size_toArray, List.length_cons, List.length_nil, Nat.zero_add, Nat.reduceAdd, dif_pos, Array.getLit, List.getElem_toArray, List.getElem_cons_zero, List.getElem_cons_succ]
 simp only [Sem.run_bind, e1, e2, Result.andThen]
 simp [e3, e4, e5, ReflectliteValue.flagAddr, Result.andThen]
end Go.Proofs.YtamjljhbnhdgdaaDoor
