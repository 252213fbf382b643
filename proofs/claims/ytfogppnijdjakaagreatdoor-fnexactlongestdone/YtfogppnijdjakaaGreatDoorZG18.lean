/- Texts put together: ClkM AcM LgM AsP AsM AppendAny. -/
import Derived.Test.YtfogppnijdjakaaGreatDoorZG1
import Derived.Test.YtfogppnijdjakaaGreatDoorZG9
import Derived.Test.YtfogppnijdjakaaGreatDoorZG17
import Derived.Test.YtfogppnijdjakaaGreatDoorZG2
import Derived.Lib.SmallJoins
import Derived.Test.YtfogppnijdjakaaGreatDoorZCluL
import Derived.Test.YtfogppnijdjakaaGreatDoorZG10
import Derived.Test.YtfogppnijdjakaaGreatDoorZG0
import Derived.Deep.AppendSrc
/- What a right cluster is. Plain mathematics. -/
namespace Go.Proofs.YtfogppnijdjakaaGreatDoor
open Go.ChangeShapes Go.WideShapes Go.ChangeAt Go.RowKit
set_option linter.unusedVariables false
/-- A store of these bytes that is all sure leads to this term, vote and log. -/
def ldB (d : ByteArray) (s tm vt : Int) (l : List Ent) : Bool := stoB d s && decide (s = (d.size : Int)) && decide (¬ (frs d.size d.data.toList).2.2 = 8) && decide ((frs d.size d.data.toList).2.1 = d.size) && decide (apAll (0, -1, []) (frs d.size d.data.toList).1 = some (tm, vt, l))
theorem ld_sto {d : ByteArray} {s tm vt : Int} {l : List Ent} (h : stoB d s = false) : ldB d s tm vt l = false := by unfold ldB; rw [h]; rfl
theorem ld_sz {d : ByteArray} {s tm vt : Int} {l : List Ent} (h : ¬ s = (d.size : Int)) : ldB d s tm vt l = false := by unfold ldB; rw [decide_eq_false h]; simp
theorem ld_cut {d : ByteArray} {s tm vt : Int} {l : List Ent} (h : (frs d.size d.data.toList).2.2 = 8) : ldB d s tm vt l = false := by unfold ldB; rw [show decide (¬ (frs d.size d.data.toList).2.2 = 8) = false from decide_eq_false fun x => x h]; simp
theorem ld_none {d : ByteArray} {s tm vt : Int} {l : List Ent} (h : apAll (0, -1, []) (frs d.size d.data.toList).1 = none) : ldB d s tm vt l = false := by unfold ldB; rw [h]; simp
theorem ld_k {d : ByteArray} {s tm vt : Int} {l : List Ent} (h : ¬ (frs d.size d.data.toList).2.1 = d.size) : ldB d s tm vt l = false := by unfold ldB; rw [decide_eq_false h]; simp
theorem ld_some {d : ByteArray} {s tm vt tm2 vt2 : Int} {l l2 : List Ent} (h0 : stoB d s = true) (h1 : s = (d.size : Int)) (h2 : ¬ (frs d.size d.data.toList).2.2 = 8) (h3 : (frs d.size d.data.toList).2.1 = d.size) (h4 : apAll (0, -1, []) (frs d.size d.data.toList).1 = some (tm2, vt2, l2)) : ldB d s tm vt l = decide (tm2 = tm ∧ vt2 = vt ∧ l2 = l) := by
 unfold ldB
 rw [h0, decide_eq_true h1, decide_eq_true h2, decide_eq_true h3, h4]
 simp
theorem extract_self {d : ByteArray} {k : Nat} (h : d.extract 0 k = d) (hk : k ≤ d.size) : k = d.size := by
 have e := congrArg ByteArray.size h
 simp at e
 omega
theorem ld_impl {d : ByteArray} {s tm vt tm' vt' s2 c : Int} {l l' : List Ent} {d2 : ByteArray} (h : RvIs d s tm' vt' l' d2 s2 c) (hst : stateB tm vt l = true) :
  (¬ c = 0 → ldB d s tm vt l = false) ∧ (c = 0 → ¬ (d2 = d ∧ s2 = s) → ldB d s tm vt l = false) ∧ (c = 0 → d2 = d → s2 = s → SameIs tm' vt' l' tm vt l (ldB d s tm vt l) 0 ∧ ∀ k (h : k < l'.length), l'[k].2.size ≤ 1048576) := by
 unfold RvIs at h
 by_cases h1 : stoB d s = false
 ·rw [if_pos h1] at h
  simp only [Prod.mk.injEq] at h
  have e := ld_sto (tm := tm) (vt := vt) (l := l) h1
  exact ⟨fun _ => e, fun _ _ => e, fun h2 => by omega⟩
 rw [if_neg h1] at h
 have h1' : stoB d s = true := by simpa using h1
 by_cases h2 : (frs d.size d.data.toList).2.2 = 8
 ·rw [if_pos h2] at h
  simp only [Prod.mk.injEq] at h
  have e := ld_cut (s := s) (tm := tm) (vt := vt) (l := l) h2
  exact ⟨fun _ => e, fun _ _ => e, fun h3 => by omega⟩
 rw [if_neg h2] at h
 cases hF : apAll (0, -1, []) (frs d.size d.data.toList).1 with
 | none =>
  rw [hF] at h
  simp only [Prod.mk.injEq] at h
  have e := ld_none (s := s) (tm := tm) (vt := vt) (l := l) hF
  exact ⟨fun _ => e, fun _ _ => e, fun h3 => by omega⟩
 | some q =>
  obtain ⟨tm2, vt2, l2⟩ := q
  rw [hF] at h
  simp only [Prod.mk.injEq] at h
  obtain ⟨rfl, rfl, rfl, rfl, rfl, rfl⟩ := h
  have hk : (frs d.size d.data.toList).2.1 ≤ d.size := by have := frs_in d.size d.data.toList; simpa using this
  have hS := apAll_right _ _ _ _ _ _ _ state0 hF
  refine ⟨fun h => absurd rfl h, fun _ hne => ?_, fun _ e1 e2 => ?_⟩
  ·by_cases h3 : (frs d.size d.data.toList).2.1 = d.size
   ·refine ld_sz fun h4 => hne ⟨?_, ?_⟩
    ·rw [h3]; simp
    ·rw [h3, h4]
   ·exact ld_k h3
  ·have h3 := extract_self e1 hk
   refine ⟨.inl ⟨hS, hst, ld_some h1' (by rw [← e2, h3]) h2 h3 hF, rfl⟩, fun k h => ?_⟩
   have := logB_sz _ _ _ (state_parts hS).2.2.2 k h
   omega
/-- One node of n, at place i, and its store. -/
def oneB (n i : Nat) (p : Nf) (q : StA) : Bool := decide (p.id = (i : Int)) && decide (p.nd = (n : Int)) && nodeB p.id p.nd p.tm p.vt p.ro p.cm p.el p.wt p.up p.l p.lv p.lx p.lg && ldB q.1 q.2 p.tm p.vt p.l
def nodesB (n : Nat) : Nat → List NdA → List StA → Bool
 | i, p :: N, q :: S => oneB n i p.n q && nodesB n (i + 1) N S
 | _, _, _ => true
theorem nodes_step {n k : Nat} {N : List NdA} {S : List StA} (h : k < N.length) (h2 : k < S.length) : nodesB n k (N.drop k) (S.drop k) = (oneB n k N[k].n S[k] && nodesB n (k + 1) (N.drop (k + 1)) (S.drop (k + 1))) := by
 rw [List.drop_eq_getElem_cons h, List.drop_eq_getElem_cons h2]; rfl
theorem nodes_end {n k i : Nat} {N : List NdA} {S : List StA} (h : N.length ≤ k) : nodesB n i (N.drop k) (S.drop k) = true := by
 rw [List.drop_eq_nil_of_le h]; cases S.drop k <;> rfl
/-- A message among n nodes. -/
def mgB (n : Nat) (g : Mg) : Bool := msgB g.kd g.fr g.dst g.tm g.ix g.lt g.cm g.es && inB g.fr 0 ((n : Int) - 1) && inB g.dst 0 ((n : Int) - 1)
def wireB (n : Nat) (W : List MgA) : Bool := W.all fun p => mgB n p.1
def doneB (D : List ByteArray) : Bool := D.all fun d => decide (d.size ≤ 400)
theorem wire_step {n k : Nat} {W : List MgA} (h : k < W.length) : wireB n (W.drop k) = (mgB n W[k].1 && wireB n (W.drop (k + 1))) := by
 unfold wireB; rw [List.drop_eq_getElem_cons h]; rfl
theorem wire_end {n k : Nat} {W : List MgA} (h : W.length ≤ k) : wireB n (W.drop k) = true := by unfold wireB; rw [List.drop_eq_nil_of_le h]; rfl
theorem done_step {k : Nat} {D : List ByteArray} (h : k < D.length) : doneB (D.drop k) = (decide (D[k].size ≤ 400) && doneB (D.drop (k + 1))) := by
 unfold doneB; rw [List.drop_eq_getElem_cons h]; rfl
theorem done_end {k : Nat} {D : List ByteArray} (h : D.length ≤ k) : doneB (D.drop k) = true := by unfold doneB; rw [List.drop_eq_nil_of_le h]; rfl
def cluB (N : List NdA) (S : List StA) (W : List MgA) (D : List ByteArray) : Bool := inB N.length 1 5 && decide (S.length = N.length) && nodesB N.length 0 N S && (decide (W.length ≤ 60) && wireB N.length W) && (decide (D.length ≤ 60) && doneB D)
end Go.Proofs.YtfogppnijdjakaaGreatDoor

/- Texts that are not empty, in their order: what both sides answer. -/
namespace Go.Proofs.YtfogppnijdjakaaGreatDoor
open Go.ChangeShapes Go.WideShapes Go.ChangeAt Go.RowKit
set_option linter.unusedVariables false
def neB (d : ByteArray) : Bool := !d.toList.isEmpty
def filS (l : List ByteArray) : List ByteArray := l.filter neB
theorem filS_snoc (l : List ByteArray) (k : Nat) (h : k < l.length) : filS (l.take (k + 1)) = filS (l.take k) ++ (if neB l[k] then [l[k]] else []) := by
 rw [List.take_add_one, List.getElem?_eq_getElem h]
 simp only [filS, Option.toList, List.filter_append]
 cases h : neB l[k] <;> simp [List.filter, h]
theorem filS_yes (l : List ByteArray) (k : Nat) (h : k < l.length) (hn : neB l[k] = true) : filS (l.take (k + 1)) = filS (l.take k) ++ [l[k]] := by rw [filS_snoc l k h, hn]; rfl
theorem filS_no (l : List ByteArray) (k : Nat) (h : k < l.length) (hn : neB l[k] = false) : filS (l.take (k + 1)) = filS (l.take k) := by rw [filS_snoc l k h, hn]; simp
theorem filS_le (l : List ByteArray) : (filS l).length ≤ l.length := List.length_filter_le _ _
def acN (l : List ByteArray) : Int := if 60 < l.length then 0 else ((filS l).length : Int)
def acC (l : List ByteArray) : Int := if 4096 < l.length then 2 else if 60 < l.length then 6 else 0
set_option maxHeartbeats 4000000 in
set_option maxRecDepth 100000 in
theorem sdatas (a : Option Addr) (cap n : Nat) (l : List ByteArray) (HN : Hid (l.length = n)) (hn : n ≤ 1048576) (w : World) (hr : RowV w a (cS l)) :
  Calls Tryz.prog 18 #[.slice a n cap] w fun e w' => ∃ v, e = .returned v ∧ w'.ownsRow w.heap.size 9 1 v (filS l).length (cS (filS l)) ∧ Below w.heap.size w w' := by
 have HR := hide hr
 clear hr
 have B0 := hide (Go.Joins.below_alloc1 w (.cells #[] 9))
 go_enter Tryz.func18, Tryz.ntmps18
 go_wp2_with fail
 obtain ⟨i0, hi, hz0, hz1, hz2⟩ := info_parts Tryz.infL9
 go_loopw [3, 4] (fun l0 i wr => ∃ (k m : Nat) (v : Value), k ≤ n ∧ m ≤ k ∧ Hid (m = (filS (l.take k)).length) ∧ i = .int .i64 k ∧ l0 = v ∧ Hid (wr.ownsRow w.heap.size 9 1 v m (cS (filS (l.take k)))) ∧ Hid (Below w.heap.size w wr)) (fun _ i _ => n - (intOf i).toNat)
 case atStart => exact ⟨0, 0, _, by omega, by omega, rfl, rfl, rfl, (by have h := World.ownsRow_lit (e := 9) (base := w.heap.size) (size := 1) w #[] 0 (by simp) (by unfold maxLen; omega) rfl; exact h), B0⟩
 case round =>
  obtain ⟨k, m, v, hk, hm, HM, rfl, rfl, HO, B1⟩ := hrel
  by_cases hlt : k < n
  ·have hlk : k < l.length := by rw [unhide HN]; omega
   obtain ⟨b, off, rfl, hblt, hc⟩ := (unhide HR).at (by rw [cS_len]; omega)
   obtain ⟨d, ed⟩ : ∃ d, d = l[k] := ⟨_, rfl⟩
   have x1 := hc k _ (cS_at l k hlk)
   rw [← ed] at x1
   have hx1 : wr.cell? ⟨b, off + k, none⟩ = some (.string d) := ((unhide B1).cell (p := ⟨b, off + k, none⟩) hblt).trans x1
   have hlt' : (k : Int) < (n : Int) := by omega
   have hlt0 : (0 : Int) ≤ (k : Int) := by omega
   have hk6 : k ≤ 1048576 := by omega
   by_cases hd : neB d = true
   ·have HS : Hid (cS (filS (l.take (k + 1))) = cS (filS (l.take k)) ++ [.string d]) := by show _ = _; rw [filS_yes l k hlk (by rw [← ed]; exact hd), cS_app, ed]; rfl
    have HM2 : Hid (m + 1 = (filS (l.take (k + 1))).length) := by show _ = _; rw [filS_yes l k hlk (by rw [← ed]; exact hd), List.length_append, ← unhide HM]; rfl
    have hd1 : d.toList.isEmpty = false := by simpa [neB] using hd
    have hown := unhide HO
    have HB2 := hide (unhide B1)
    have hbs := (unhide B1).size
    clear hc x1 ed hlk hd
    go_wp2_with (at_builtin; refine wpList_append_lies _ rfl (.tmp 17) (.tmp 22) 25 rfl w.heap.size 9 i0 (.string ⟨#[]⟩) 1 16 Tryz.underlying25 hi hz0 hz1 hz2 rfl (by decide) _ _ _ rfl (hown.alloc (.cells #[.string d] 9)) ⟨wr.heap.size, 0, none⟩ 1 1 [.string d] rfl rfl (by have := news_new wr [.string d] 9; exact this) (by intro u hu; simp at hu; subst hu; rfl) (by decide) (by unfold maxLen; omega) (by omega) (by simp; omega) _ rfl ?_; intro g7 c7 w7 hown7 hgrow7 hat7 hlt7; have HO7 := hide hown7; have HB7 := hide (((unhide HB2).alloc (unhide HB2).size (.cells #[.string d] 9)).grown hgrow7 (by simp; omega) (fun j hj => by have := (hown.lt j hj).1; omega)); clear hown7 hgrow7 hat7 hlt7)
    go_roundw
    case rel => exact ⟨k + 1, m + 1, _, by omega, by omega, HM2, by go_num, rfl, by show World.ownsRow _ _ _ _ _ _ _; rw [unhide HS]; exact unhide HO7, HB7⟩
    case measure => simp [intOf]; omega
   ·have hd0 : neB d = false := by simpa using hd
    have HS : Hid (filS (l.take (k + 1)) = filS (l.take k)) := by show _ = _; rw [filS_no l k hlk (by rw [← ed]; exact hd0)]
    have hd1 : d.toList.isEmpty = true := by simpa [neB] using hd0
    clear hc x1 ed hlk hd hd0
    go_wp2_with fail
    go_roundw
    case rel => exact ⟨k + 1, m, _, by omega, by omega, by show _ = _; rw [unhide HS]; exact unhide HM, by go_num, rfl, by show World.ownsRow _ _ _ _ _ _ _; rw [unhide HS]; exact unhide HO, B1⟩
    case measure => simp [intOf]; omega
  ·obtain rfl : k = n := by omega
   have e0 : l.take k = l := List.take_of_length_le (by rw [unhide HN]; exact Nat.le_refl _)
   rw [e0] at HO HM
   obtain ⟨aF, cF, rfl, -⟩ := own_rowV (unhide HO)
   go_wp2_with fail
   go_ret
   refine ⟨_, rfl, ?_, unhide B1⟩
   rw [← unhide HM]
   exact unhide HO
end Go.Proofs.YtfogppnijdjakaaGreatDoor

/- What LongestDone answers. -/
namespace Go.Proofs.YtfogppnijdjakaaGreatDoor
open Go.ChangeShapes Go.WideShapes Go.ChangeAt Go.RowKit
set_option linter.unusedVariables false
def lgA (B : Bool) (D : List ByteArray) : List ByteArray := if B then filS D else []
def lgC (B : Bool) : Int := if B then 0 else 1
theorem lgA_le (B : Bool) (D : List ByteArray) : (lgA B D).length ≤ D.length := by
 cases B
 ·exact Nat.zero_le _
 ·exact filS_le D
end Go.Proofs.YtfogppnijdjakaaGreatDoor

/- errors.As hits at once at the target placed. -/
namespace Go.Proofs.YtfogppnijdjakaaGreatDoor
open Go.RowKit Go.Extern.Stop Go.Stop Go.Extern
theorem plc_typeOfS (v : Value) (w : World) : (ReflectliteType.typeOf #[.iface 144 v]).run Tryz.prog w = .ok (.iface 161 (.agg #[.pointer (some ⟨10, 144, none⟩)])) w := by kernel_rfl
end Go.Proofs.YtfogppnijdjakaaGreatDoor

/- errors.As at the target fault passes a placed error by and hits its cause. -/
namespace Go.Proofs.YtfogppnijdjakaaGreatDoor
open Go.RowKit Go.Extern.Stop Go.Stop Go.Extern
theorem flt_assignNo (w : World) : (ReflectliteType.relation "AssignableTo" ReflectliteType.assignableTo #[.agg #[.pointer (some ⟨10, 144, none⟩)], .iface 161 (.agg #[.pointer (some ⟨10, 150, none⟩)])]).run Tryz.prog w = .ok (.bool false) w := by kernel_rfl
theorem plc_noAs (v : Value) (xT : TypeId) (w : World) : (Instr.typeAssert (.iface 144 v) xT 187 true).run Tryz.prog w = .ok (.tuple #[.nilIface, .bool false]) w := run_typeAssert_lacksB Tryz.underlying187 (by kernel_rfl) (by kernel_rfl) v xT w
theorem plc_hasUnwrap (v : Value) (xT : TypeId) (w : World) : (Instr.typeAssert (.iface 144 v) xT 166 true).run Tryz.prog w = .ok (.tuple #[.iface 144 v, .bool true]) w := run_typeAssert_hasB Tryz.underlying166 (by kernel_rfl) v xT w
theorem plc_mUnwrap (v : Value) (w : World) : (Go.method 325 144 v "Unwrap").run Tryz.prog w = .ok (146, v) w := by kernel_rfl
set_option maxHeartbeats 8000000 in
theorem flt_miss (tb : Nat) (p c : Int) (u : TypeId) (y o0 o1 : Value) (w : World) (hg : w.cell? ⟨8, 0, none⟩ = some (.iface 161 (.agg #[.pointer (some ⟨10, 130, none⟩)]))) (h0 : w.cell? ⟨tb, 0, none⟩ = some o0) (h1 : w.cell? ⟨tb, 1, none⟩ = some o1) (f0 : w.frozen? ⟨tb, 0, none⟩ = false) (f1 : w.frozen? ⟨tb, 1, none⟩ = false) :
  Calls Tryz.prog 109 #[.iface 144 (.agg #[.int .i64 p, .iface 150 (.agg #[.int .i64 c, .iface u y])]), .iface 152 (.pointer (some ⟨tb, 0, none⟩))] w fun ev w' => ev = .returned (.bool true) ∧ w' = ((((((((w.alloc (.cells #[.pointer (some ⟨tb, 0, none⟩)] 152))).alloc (.cells #[.pointer (some ⟨10, 152, none⟩), .pointer (some ⟨w.heap.size, 0, none⟩), .int .u64 150] 174)).alloc (.cells #[.pointer (some ⟨10, 152, none⟩), .pointer (some ⟨w.heap.size, 0, none⟩), .int .u64 150] 174)).alloc (.cells #[.int .i64 p, .iface 150 (.agg #[.int .i64 c, .iface u y])] 144)).alloc (.cells #[.int .i64 c, .iface u y] 150)).setCell ⟨tb, 0, none⟩ (.int .i64 c)).setCell ⟨tb, 1, none⟩ (.iface u y)) := by
 have hlt : 8 < w.heap.size := World.block_lt_of_cell? w _ hg
 have htl : tb < w.heap.size := World.block_lt_of_cell? w _ h0
 have hvo := @run_callFunc_extern Tryz.prog 115 _ (fun args => ReflectliteValue.unpack (args.getD 0 (.tuple #[]))) Tryz.func115 (by kernel_rfl) (by kernel_rfl) (by kernel_rfl) (by kernel_rfl)
 have hty := @run_callFunc_extern Tryz.prog 116 _ (ReflectliteValue.methodAny (ReflectliteValue.valueError "reflectlite.Value.Type" 0) (fun t _ _ _ => ReflectliteType.toType t)) Tryz.func116 (by kernel_rfl) (by kernel_rfl) (by kernel_rfl) (by kernel_rfl)
 have hnil := @run_callFunc_extern Tryz.prog 117 _ (ReflectliteValue.method (ReflectliteValue.valueError "reflectlite.Value.IsNil" 0) ReflectliteValue.isNil) Tryz.func117 (by kernel_rfl) (by kernel_rfl) (by kernel_rfl) (by kernel_rfl)
 have hkd := @run_callFunc_extern Tryz.prog 142 _ (ReflectliteType.abiMethod fun t => do pure (.int .u8 (← Rtype.kind t))) Tryz.func142 (by kernel_rfl) (by kernel_rfl) (by kernel_rfl) (by kernel_rfl)
 have hel := @run_callFunc_extern Tryz.prog 152 _ (ReflectliteType.method ReflectliteType.elem) Tryz.func152 (by kernel_rfl) (by kernel_rfl) (by kernel_rfl) (by kernel_rfl)
 have him := @run_callFunc_extern Tryz.prog 153 _ (ReflectliteType.relation "Implements" ReflectliteType.implements_) Tryz.func153 (by kernel_rfl) (by kernel_rfl) (by kernel_rfl) (by kernel_rfl)
 have hto := @run_callFunc_extern Tryz.prog 107 _ (ReflectliteType.typeOf) Tryz.func107 (by kernel_rfl) (by kernel_rfl) (by kernel_rfl) (by kernel_rfl)
 have has := @run_callFunc_extern Tryz.prog 150 _ (ReflectliteType.relation "AssignableTo" ReflectliteType.assignableTo) Tryz.func150 (by kernel_rfl) (by kernel_rfl) (by kernel_rfl) (by kernel_rfl)
 have hev := @run_callFunc_extern Tryz.prog 123 _ (ReflectliteValue.method (ReflectliteValue.valueError "reflectlite.Value.Elem" 0) ReflectliteValue.elem) Tryz.func123 (by kernel_rfl) (by kernel_rfl) (by kernel_rfl) (by kernel_rfl)
 have hst := @run_callFunc_extern Tryz.prog 124 _ (ReflectliteValue.set) Tryz.func124 (by kernel_rfl) (by kernel_rfl) (by kernel_rfl) (by kernel_rfl)
 have m1 := as_mKind
 have m2 := as_mElem
 have m3 := as_mImplements
 have m4 := as_mAssignableTo
 have m5 := plc_mUnwrap
 have a1 := flt_valueOfP
 have a2 := flt_typeP
 have a3 := flt_kindP
 have a4 := flt_kindS
 have a5 := flt_elemP
 have a6 := flt_implementsS
 have a7 := flt_typeOfS
 have a8 := flt_assignS
 have a9 := flt_valueOfS
 have b7 := plc_typeOfS
 have b8 := flt_assignNo
 have b1 := plc_noAs
 have b2 := plc_hasUnwrap
 have n8 := flt_isNilP ⟨w.heap.size, 0, none⟩ ⟨tb, 0, none⟩ ((w.alloc (.cells #[.pointer (some ⟨tb, 0, none⟩)] 152)).alloc (.cells #[.pointer (some ⟨10, 152, none⟩), .pointer (some ⟨w.heap.size, 0, none⟩), .int .u64 150] 174)) (by simp)
 have hg2 : ((w.alloc (.cells #[.pointer (some ⟨tb, 0, none⟩)] 152)).alloc (.cells #[.pointer (some ⟨10, 152, none⟩), .pointer (some ⟨w.heap.size, 0, none⟩), .int .u64 150] 174)).cell? ⟨8, 0, none⟩ = some (.iface 161 (.agg #[.pointer (some ⟨10, 130, none⟩)])) := by
  rw [World.cell?_alloc_lt _ _ ⟨8, 0, none⟩ (by simp <;> omega), World.cell?_alloc_lt _ _ ⟨8, 0, none⟩ hlt]; exact hg
 have el := flt_elemVP ⟨w.heap.size, 0, none⟩ ⟨tb, 0, none⟩ (((((w.alloc (.cells #[.pointer (some ⟨tb, 0, none⟩)] 152))).alloc (.cells #[.pointer (some ⟨10, 152, none⟩), .pointer (some ⟨w.heap.size, 0, none⟩), .int .u64 150] 174)).alloc (.cells #[.pointer (some ⟨10, 152, none⟩), .pointer (some ⟨w.heap.size, 0, none⟩), .int .u64 150] 174)).alloc (.cells #[.int .i64 p, .iface 150 (.agg #[.int .i64 c, .iface u y])] 144)) (by rw [World.cell?_alloc_lt _ _ ⟨w.heap.size, 0, none⟩ (by simp <;> omega), World.cell?_alloc_lt _ _ ⟨w.heap.size, 0, none⟩ (by simp <;> omega)]; simp)
 have st := flt_set tb (w.heap.size + 1 + 1 + 1 + 1) c u y o0 o1 ((((((w.alloc (.cells #[.pointer (some ⟨tb, 0, none⟩)] 152))).alloc (.cells #[.pointer (some ⟨10, 152, none⟩), .pointer (some ⟨w.heap.size, 0, none⟩), .int .u64 150] 174)).alloc (.cells #[.pointer (some ⟨10, 152, none⟩), .pointer (some ⟨w.heap.size, 0, none⟩), .int .u64 150] 174)).alloc (.cells #[.int .i64 p, .iface 150 (.agg #[.int .i64 c, .iface u y])] 144)).alloc (.cells #[.int .i64 c, .iface u y] 150))
  (by rw [World.cell?_alloc_at _ _ _ _ (by simp)]; rfl) (by rw [World.cell?_alloc_at _ _ _ _ (by simp)]; rfl)
  (by rw [World.cell?_alloc_lt _ _ ⟨tb, 0, none⟩ (by simp <;> omega), World.cell?_alloc_lt _ _ ⟨tb, 0, none⟩ (by simp <;> omega), World.cell?_alloc_lt _ _ ⟨tb, 0, none⟩ (by simp <;> omega), World.cell?_alloc_lt _ _ ⟨tb, 0, none⟩ (by simp <;> omega), World.cell?_alloc_lt _ _ ⟨tb, 0, none⟩ htl]; exact h0)
  (by rw [World.cell?_alloc_lt _ _ ⟨tb, 1, none⟩ (by simp <;> omega), World.cell?_alloc_lt _ _ ⟨tb, 1, none⟩ (by simp <;> omega), World.cell?_alloc_lt _ _ ⟨tb, 1, none⟩ (by simp <;> omega), World.cell?_alloc_lt _ _ ⟨tb, 1, none⟩ (by simp <;> omega), World.cell?_alloc_lt _ _ ⟨tb, 1, none⟩ htl]; exact h1)
  (by rw [World.frozen?_alloc_old _ _ ⟨tb, 0, none⟩ (by simp <;> omega), World.frozen?_alloc_old _ _ ⟨tb, 0, none⟩ (by simp <;> omega), World.frozen?_alloc_old _ _ ⟨tb, 0, none⟩ (by simp <;> omega), World.frozen?_alloc_old _ _ ⟨tb, 0, none⟩ (by simp <;> omega), World.frozen?_alloc_old _ _ ⟨tb, 0, none⟩ (Nat.ne_of_lt htl)]; exact f0)
  (by rw [World.frozen?_alloc_old _ _ ⟨tb, 1, none⟩ (by simp <;> omega), World.frozen?_alloc_old _ _ ⟨tb, 1, none⟩ (by simp <;> omega), World.frozen?_alloc_old _ _ ⟨tb, 1, none⟩ (by simp <;> omega), World.frozen?_alloc_old _ _ ⟨tb, 1, none⟩ (by simp <;> omega), World.frozen?_alloc_old _ _ ⟨tb, 1, none⟩ (Nat.ne_of_lt htl)]; exact f1)
 go_enter Tryz.func109, Tryz.ntmps109
 go_wp2
 refine wp_loop_rounds 2 ?_
 rw [rounds_succ]
 go_wp2
 rw [rounds_succ]
 go_wp2
 go_ret
 exact ⟨rfl, rfl⟩
end Go.Proofs.YtfogppnijdjakaaGreatDoor

/- append of a row of bytes, empty or not, onto a row that the call owns. -/
namespace Go.Proofs.YtfogppnijdjakaaGreatDoor
open Go.ChangeShapes Go.WideShapes Go.ChangeAt Go.RowKit

theorem append_row8 {P : Program} (w : World) {ops : Array Oper} {rest : List Oper} {o : Oper} {a : Act} {Q : Exit → Act → World → Prop} (hgd : o.guard = none) (s x : Operand) (t : TypeId)
  (ho : o.op = .call { callee := .builtin .append, args := #[s, x], argTypes := #[t, t] }) (base : Nat) (e : TypeId) (i : TypeInfo) (ht : P.underlying t = some (.slice e)) (hi : P.info? e = some i) (hz : i.zero = some (.int .u8 0)) (hsize : i.size = 1) (hby : i.bytes = 1)
  (g0 n c0 : Nat) (xs : List Value) (hs : a.eval s = .slice (some ⟨g0, 0, none⟩) n c0) (hown : w.ownsRow base e 1 (.slice (some ⟨g0, 0, none⟩) n c0) n xs)
  (sp : Option Addr) (sc : Nat) (l : List UInt8) (hx : a.eval x = .slice sp l.length sc) (hr : Row8 w sp l) (hb : n + l.length ≤ 1099511627776) (hbase : base ≤ w.heap.size)
  (h : ∀ g cap w', w'.ownsRow base e 1 (.slice (some ⟨g, 0, none⟩) (n + l.length) cap) (n + l.length) (xs ++ B8 l) → w.grownBy w' (some g0) → wpList P ops Q rest (a.put o.dst (.slice (some ⟨g, 0, none⟩) (n + l.length) cap)) w') :
  wpList P ops Q (o :: rest) a w := by
 by_cases h0 : l.length = 0
 ·obtain rfl : l = [] := List.length_eq_zero_iff.1 h0
  have hnc : n ≤ c0 := by
   rcases hown.2 with ⟨h', _⟩ | ⟨g, cap, cur, h', _, _, hnc, _⟩
   ·simp at h'
   ·simp only [Value.slice.injEq, true_and] at h'; omega
  have hsrc : Src P i.size t (.slice sp 0 sc) 0 [] w := by
   cases sp with
   | none => exact Src.ofNil w ht sc
   | some ad => exact Src.ofSlice w ht ad 0 sc [] (by simp) (fun j u hu => by simp at hu) (fun u hu => by cases hu)
  have hrun := run_append_room_src (P := P) w t t o.type e i ht hi g0 0 n c0 (.slice sp 0 sc) 0 [] hsrc (by omega) (fun j hj => by simp at hj) (fun j hj => by simp at hj)
  refine wpList_plain hgd fun K hK => ?_
  unfold Oper.wp
  simp only [List.length_nil] at hx
  simp [execOp, ho, resolve, invoke, builtin, hs, hx, hrun, Result.andThen, World.setCells]
  refine hK _ _ ?_
  have := h g0 c0 w (by simpa [B8] using hown) ⟨rfl, rfl, rfl, Nat.le_refl _, fun _ _ _ => rfl⟩
  simpa using this
 ·obtain ⟨b, off, rfl, _, hc⟩ := hr.at (by omega)
  refine wpList_append_lies w hgd s x t ho base e i (.int .u8 0) 1 1 ht hi hz hsize hby rfl (by decide) _ n xs hs hown ⟨b, off, none⟩ l.length sc (B8 l) hx (by rw [B8_len]; omega) ?_ (B8_one _) (by omega) (by unfold maxLen; omega) (by omega) hbase _ rfl ?_
  ·intro j u hu
   have hj : j < l.length := by have := (List.getElem?_eq_some_iff.1 hu).1; rwa [B8_len] at this
   rw [show (⟨b, off, none⟩ : Addr).add j = ⟨b, off + j, none⟩ from by unfold Addr.add; split <;> simp_all, hc j hj, ← hu]
   simp [B8, List.getElem?_eq_getElem hj]
  ·intro g cap w' ho1 hg1 _ _
   exact h g cap w' ho1 hg1
end Go.Proofs.YtfogppnijdjakaaGreatDoor
