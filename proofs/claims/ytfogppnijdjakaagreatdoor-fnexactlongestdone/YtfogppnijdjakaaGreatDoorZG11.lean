/- Texts put together: ReadFI ApM ReadNumI IsE StE ByteS. -/
import Derived.Test.YtfogppnijdjakaaGreatDoorZG10
import Derived.Test.YtfogppnijdjakaaGreatDoorZG1
import Derived.Test.YtfogppnijdjakaaGreatDoorZG9
import Derived.Test.YtfogppnijdjakaaGreatDoorZG0
import Derived.LaidEql
import Derived.Stop.Asserts
import Derived.RowKitTokens
/- impl.ReadFields: what the program answers at every row of bytes. -/
namespace Go.Proofs.YtfogppnijdjakaaGreatDoor
open Go.ChangeShapes Go.WideShapes Go.ChangeAt Go.RowKit
/-- The fields that bytes hold, if they hold fields. -/
def rfOf (l : List UInt8) : Option (List ByteArray) :=
 if l.length < 1 then none else if 60 < ofBE (l.take 1) then none else (fldN (l.drop 1) (ofBE (l.take 1))).bind fun p => if p.2 = [] then some p.1 else none
def rfL (l : List UInt8) : List ByteArray := if 65536 < l.length then [] else (rfOf l).getD []
def rfC (l : List UInt8) : Int := if 65536 < l.length then 2 else if (rfOf l).isSome then 0 else 3
/-- splitFields of too few bytes or too many fields. -/
theorem isplitShort (a : Option Addr) (cap : Nat) (w : World) (hE : ErrsIn w) :
  Calls Tryz.prog 119 #[.slice a 0 cap] w fun e w' => (∃ u y, e = .returned (.tuple #[.slice none 0 0, .iface 150 (.agg #[.int .i64 3, .iface u y])])) ∧ Below w.heap.size w w' := by
 obtain ⟨u1, y1, c1⟩ := hE.cut
 have T1 := itakeNo a 0 cap 1 (by decide) u1 y1 w c1
 change Calls _ _ #[_, .int .i64 1] _ _ at T1
 clear hE
 go_enter Tryz.func119, Tryz.ntmps119
 go_wp2_with (go_at_call 112; refine T1.mono ?_; clear T1; rintro e w1 ⟨rfl, hb⟩)
 go_ret2
 exact ⟨⟨_, _, rfl⟩, hb⟩
set_option maxHeartbeats 400000 in
set_option maxRecDepth 100000 in
theorem isplitMany (b off cap len n : Nat) (l : List UInt8) (el : l.length = len) (hc : len ≤ cap) (h1 : 1 ≤ len) (en : n = ofBE (l.take 1)) (h60 : 60 < n) (w : World) (hE : ErrsIn w) (hr : Row8 w (some ⟨b, off, none⟩) l) :
  Calls Tryz.prog 119 #[.slice (some ⟨b, off, none⟩) len cap] w fun e w' => (∃ u y, e = .returned (.tuple #[.slice none 0 0, .iface 150 (.agg #[.int .i64 3, .iface u y])])) ∧ Below w.heap.size w w' := by
 have HTL : Hid ((l.take 1).length = 1) := by show _ = _; rw [List.length_take]; omega
 have T1 := itake b off cap 1 l len el h1 hc w hr
 change Calls _ _ #[_, .int .i64 1] _ _ at T1
 have HEY := hide en
 have HE := hide hE
 have n1 : (60 : Int) < (n : Int) := by omega
 clear en hr hE
 go_enter Tryz.func119, Tryz.ntmps119
 go_wp2_with (first | (have hq := HT; go_at_call 113; have h3 := inumber (some ⟨b, off, none⟩) cap (l.take 1) (by rw [unhide HTL]; decide) _ (unhide HT); rw [unhide HTL, ← unhide HEY] at h3; refine h3.mono ?_; clear h3; rintro e w2 ⟨rfl, hw⟩; subst w2; obtain ⟨u2, y2, c2⟩ := (unhide HE1).bounds; clear HE1) | (go_at_call 112; refine T1.mono ?_; clear T1; rintro e w1 ⟨o2, rfl, ht, hd, hb⟩; have HT := hide ht; have HB := hide hb; have HE1 := hide ((unhide HE).below hb); clear ht hd hb))
 go_region_held3 (fun w' => w'.cell? ⟨6, 0, none⟩ = some (.iface u2 y2)) (go_keep) (fail)
 go_wp2
 go_ret2
 exact ⟨⟨_, _, rfl⟩, (unhide HB).drew⟩
/-- splitFields at every row of at most MaxText bytes. -/
theorem isplit (a : Option Addr) (cap len : Nat) (l : List UInt8) (el : l.length = len) (hc : len ≤ cap) (hl : len ≤ 65536) (w : World) (hE : ErrsIn w) (hr : Row8 w a l) :
  Calls Tryz.prog 119 #[.slice a len cap] w fun e w' => (match rfOf l with
   | some m => ∃ v, e = .returned (.tuple #[v, .nilIface]) ∧ w'.ownsRow w.heap.size 9 1 v m.length (cS m)
   | none => ∃ u y, e = .returned (.tuple #[.slice none 0 0, .iface 150 (.agg #[.int .i64 3, .iface u y])])) ∧ Below w.heap.size w w' := by
 by_cases h1 : len < 1
 ·have h0 : len = 0 := by omega
  have hn : rfOf l = none := by unfold rfOf; rw [el, if_pos h1]
  subst h0
  rw [hn]
  exact isplitShort a cap w hE
 obtain ⟨b, off, rfl, _⟩ := hr.at (by omega)
 by_cases h60 : 60 < ofBE (l.take 1)
 ·have hn : rfOf l = none := by unfold rfOf; rw [el, if_neg h1, if_pos h60]
  rw [hn]
  exact isplitMany b off cap len _ l el hc (by omega) rfl h60 w hE hr
 ·refine (isplitGo b off cap len _ l el hc (by omega) hl rfl (by omega) w hE hr).mono ?_
  rintro e w' ⟨h, hb⟩
  refine ⟨?_, hb⟩
  have hR : rfOf l = (fldN (l.drop 1) (ofBE (l.take 1))).bind fun p => if p.2 = [] then some p.1 else none := by unfold rfOf; rw [el, if_neg h1, if_neg h60]
  rcases h with ⟨m, v, h2, rfl, ho⟩ | ⟨h2, u, y, rfl⟩
  ·have : rfOf l = some m := by rw [hR, h2]; rfl
   rw [this]; exact ⟨v, rfl, ho⟩
  ·have : rfOf l = none := by
    rw [hR]
    cases hk : fldN (l.drop 1) (ofBE (l.take 1)) with
    | none => rfl
    | some p =>
     obtain ⟨m, r⟩ := p
     by_cases hr0 : r = []
     ·subst hr0; exact absurd hk (h2 m)
     ·simp [hr0]
   rw [this]; exact ⟨u, y, rfl⟩
end Go.Proofs.YtfogppnijdjakaaGreatDoor

/- What a record makes of a state. Plain mathematics. -/
namespace Go.Proofs.YtfogppnijdjakaaGreatDoor
open Go.ChangeShapes Go.WideShapes Go.ChangeAt Go.RowKit
/-- The parts of a record: its letter, its numbers, what is behind them. -/
def recP (t : ByteArray) : Option (ByteArray × List Int × List ByteArray) :=
 match rfOf t.data.toList with
 | some (f0 :: f1 :: r) => if rnC f1.data.toList = 0 then some (f0, rnL f1.data.toList, r) else none
 | _ => none
/-- What its parts make of a state, right or not. -/
def apK (tm vt : Int) (l : List Ent) (f : ByteArray) : List Int → List ByteArray → Option (Int × Int × List Ent)
 | [x, y], [] => if f = ⟨#[116]⟩ then some (x, y, l) else none
 | [x], [] => if f = ⟨#[99]⟩ ∧ 0 ≤ x ∧ x ≤ (l.length : Int) - 1 then some (tm, vt, l.take x.toNat) else none
 | [x], [d] => if f = ⟨#[101]⟩ then some (tm, vt, l ++ [(x, d)]) else none
 | _, _ => none
def apR (tm vt : Int) (l : List Ent) (t : ByteArray) : Option (Int × Int × List Ent) :=
 match recP t with
 | some (f, ns, r) => apK tm vt l f ns r
 | none => none
/-- What it makes of a right state, if that is right and of no lower term. -/
def apF (tm vt : Int) (l : List Ent) (t : ByteArray) : Option (Int × Int × List Ent) :=
 match apR tm vt l t with
 | some (tm2, vt2, l2) => if stateB tm2 vt2 l2 = true ∧ tm ≤ tm2 then some (tm2, vt2, l2) else none
 | none => none
theorem recP_none {t : ByteArray} (h : rfOf t.data.toList = none) : recP t = none := by unfold recP; rw [h]
theorem recP_few {t : ByteArray} {m : List ByteArray} (h : rfOf t.data.toList = some m) (hm : m.length < 2) : recP t = none := by
 unfold recP; rw [h]
 match m, hm with
 | [], _ => rfl
 | [_], _ => rfl
theorem recP_num {t f0 f1 : ByteArray} {r : List ByteArray} (h : rfOf t.data.toList = some (f0 :: f1 :: r)) (hc : ¬ rnC f1.data.toList = 0) : recP t = none := by
 unfold recP; rw [h]; simp [hc]
theorem recP_some {t f0 f1 : ByteArray} {r : List ByteArray} (h : rfOf t.data.toList = some (f0 :: f1 :: r)) (hc : rnC f1.data.toList = 0) : recP t = some (f0, rnL f1.data.toList, r) := by
 unfold recP; rw [h]; simp [hc]
end Go.Proofs.YtfogppnijdjakaaGreatDoor

/- ReadNumbers: what the program answers at every row of bytes. -/
namespace Go.Proofs.YtfogppnijdjakaaGreatDoor
open Go.ChangeShapes Go.WideShapes Go.ChangeAt Go.RowKit
theorem Tryz.infR3 : (Tryz.prog.info? 3).map (fun i => (i.zero, i.size, i.bytes)) = some (some (.int .i64 0), 1, 8) := by kernel_rfl
set_option maxHeartbeats 400000 in
set_option maxRecDepth 100000 in
theorem ireadnums (a : Option Addr) (cap : Nat) (l : List UInt8) (hl : l.length ≤ 1048576) (hcap : l.length ≤ cap) (w : World) (hr : RowV w a (B8 l)) :
  Calls Tryz.prog 120 #[.slice a l.length cap] w fun e w' => ∃ v', e = .returned (.tuple #[v', .int .i64 (rnC l)]) ∧ w'.ownsRow w.heap.size 3 1 v' (rnL l).length (cI (rnL l)) ∧ Below w.heap.size w w' := by
 obtain ⟨i0, hi, hz0, hz1, hz2⟩ := info_parts Tryz.infR3
 have HR := hide (rowV_8 hr)
 clear hr
 by_cases long : 65536 < l.length
 ·have HV := hide (rn_long long)
  go_enter Tryz.func120, Tryz.ntmps120
  go_wp2_with fail
  go_ret2
  rw [(unhide HV).1, (unhide HV).2]
  exact ⟨_, rfl, nil_ownI _ _ _, Below.refl _ _⟩
 by_cases form : l.length % 3 = 0
 ·have t1 : ((l.length : Int) % 3 != 0) = false := by rw [bne_eq_false_iff_eq]; omega
  have t2 : ((l.length : Int).tmod 3 != 0) = false := by rw [Int.tmod_eq_emod_of_nonneg (by omega), bne_eq_false_iff_eq]; omega
  by_cases many : 4096 < l.length / 3
  ·have HV := hide (rn_many long form many)
   have t3 : 4096 < (l.length : Int) / 3 := by omega
   clear form
   go_enter Tryz.func120, Tryz.ntmps120
   go_wp2_with fail
   go_ret2
   rw [(unhide HV).1, (unhide HV).2]
   exact ⟨_, rfl, nil_ownI _ _ _, Below.refl _ _⟩
  ·have HV := hide (rn_ok long form many)
   obtain ⟨n, hn⟩ : ∃ n, n = l.length / 3 := ⟨_, rfl⟩
   have HN : Hid (l.length = 3 * n) := by show _ = _; omega
   have t3 : ¬ 4096 < (l.length : Int) / 3 := by omega
   have hn4 : n ≤ 4096 := by omega
   rw [← hn] at HV
   clear form hn many
   go_enter Tryz.func120, Tryz.ntmps120
   go_wp2_with fail
   go_loopw [4, 5] (fun v i wr => ∃ (k j : Nat) (m : List Int), k ≤ n ∧ Hid (j = 3 * k) ∧ i = .int .i64 j ∧ Hid (m = numsR l k) ∧ m.length ≤ 4096 ∧ Hid (wr.ownsRow w.heap.size 3 1 v m.length (cI m)) ∧ Hid (Below w.heap.size w wr)) (fun _ i _ => l.length - (intOf i).toNat)
   case atStart => exact ⟨0, 0, [], by omega, rfl, rfl, rfl, by simp, nil_ownI _ _ _, Below.refl _ _⟩
   case round =>
    obtain ⟨k, j, m, hk, HJ, rfl, HM, hm, HO, HB⟩ := hrel
    have ej := unhide HJ
    have en := unhide HN
    by_cases hlt : k < n
    ·obtain ⟨b, off, ha, hblt, hc⟩ := ((unhide HR).below (unhide HB)).at (by omega)
     subst ha
     have HP : Hid (Row8 wr (some ⟨b, off + j, none⟩) (chunk l k)) := by
      have := row8_part hblt hc j 3 (by omega); rw [ej] at this; rw [ej]; exact this
     have HPL : Hid ((chunk l k).length = 3) := part_len l (3 * k) 3 (by omega)
     have hj1 : (j : Int) < (l.length : Int) := by omega
     obtain ⟨b_, hbb⟩ : ∃ b_, b_ = j + 3 := ⟨_, rfl⟩
     have a4 : (j : Int) + 3 = (b_ : Int) := by omega
     have a5 : (0 : Int) ≤ (b_ : Int) := by omega
     have a6 : (b_ : Int) ≤ (cap : Int) := by omega
     have a7 : j ≤ b_ := by omega
     have a8 : b_ - j = 3 := by omega
     have a9 : (j : Int) ≤ 1048576 := by omega
     have a10 : ¬ cap = j := by omega
     have hm' : m.length ≤ k := by rw [unhide HM, numsR_len]; omega
     have HBB : Hid (b_ = 3 * (k + 1)) := by show _ = _; omega
     obtain ⟨y, hy⟩ : ∃ y : Nat, y = ofBE (chunk l k) := ⟨_, rfl⟩
     have hy2 : y < 16777216 := by have := ofBE_lt (chunk l k) 3; rw [List.take_of_length_le (by rw [unhide HPL]; exact Nat.le_refl _), ← hy] at this; exact this
     have HS : Hid (numsR l (k + 1) = m ++ [(y : Int) - 1]) := by show _ = _; rw [numsR_snoc, unhide HM, hy]
     have hy3 : (y : Int) ≤ 16777216 := by omega
     have HY := hide hy
     have hown := unhide HO
     have hz := (unhide HB).size
     clear hc ej en hbb HO hy hy2 HR hblt
     go_wp2_with (first | (go_at_call 113; have h3 := inumber (some ⟨b, off + j, none⟩) (cap - j) (chunk l k) (by rw [unhide HPL]; decide) wr (unhide HP); rw [unhide HPL, ← unhide HY] at h3; refine h3.mono ?_; clear h3; rintro e w2 ⟨rfl, hw⟩; subst w2) | (at_builtin; refine wpList_append_lies _ rfl (.tmp 23) (.tmp 31) 59 rfl w.heap.size 3 i0 (.int .i64 0) 1 8 Tryz.underlying59 hi hz0 hz1 hz2 rfl (by decide) _ _ _ rfl (hown.alloc _) ⟨wr.heap.size, 0, none⟩ 1 1 (cI [(y : Int) - 1]) rfl rfl (by exact news_new wr (cI [(y : Int) - 1]) 3) (cI_one _) (by decide) (by unfold maxLen; omega) (by omega) (by simp; omega) _ rfl ?_; intro g2 c2 w2 hown2 hgrow2 hat2 hlt2; have HB2 := hide (below_app (unhide HB) (by omega) hown (Nat.le_refl _) hgrow2); have HO2 := hide (own_appI (l := m) (m := [(y : Int) - 1]) hown2 rfl); clear hown2 hgrow2 hat2 hlt2 hown HB))
     go_roundw
     case rel => exact ⟨k + 1, b_, m ++ [(y : Int) - 1], by omega, unhide HBB, by go_num, (unhide HS).symm, by rw [List.length_append]; simp; omega, HO2, HB2⟩
     case measure => simp [intOf]; omega
    ·have ek : k = n := by omega
     have hj1 : ¬ (j : Int) < (l.length : Int) := by omega
     rw [ek] at HM
     clear ej en
     go_wp2_with fail
     go_ret2
     rw [(unhide HV).1, (unhide HV).2, ← unhide HM]
     exact ⟨_, rfl, unhide HO, unhide HB⟩
 ·have HV := hide (rn_form long form)
  have t1 : ((l.length : Int) % 3 != 0) = true := by rw [bne_iff_ne]; omega
  have t2 : ((l.length : Int).tmod 3 != 0) = true := by rw [Int.tmod_eq_emod_of_nonneg (by omega), bne_iff_ne]; omega
  clear form
  go_enter Tryz.func120, Tryz.ntmps120
  go_wp2_with fail
  go_ret2
  rw [(unhide HV).1, (unhide HV).2]
  exact ⟨_, rfl, nil_ownI _ _ _, Below.refl _ _⟩
theorem ireadnumsH (a : Option Addr) (cap : Nat) (l : List UInt8) (r : List Int) (c : Int) (hr : r = rnL l) (hc : c = rnC l) (hl : l.length ≤ 1048576) (hcap : l.length ≤ cap) (w : World) (hrow : RowV w a (B8 l)) :
  Calls Tryz.prog 120 #[.slice a l.length cap] w fun e w' => ∃ v', e = .returned (.tuple #[v', .int .i64 c]) ∧ w'.ownsRow w.heap.size 3 1 v' r.length (cI r) ∧ Below w.heap.size w w' := by
 subst hr hc; exact ireadnums a cap l hl hcap w hrow
end Go.Proofs.YtfogppnijdjakaaGreatDoor

/- errors.Is where both errors are of errors.New's make: what it answers. Go's own text is walked. -/
namespace Go.Proofs.YtfogppnijdjakaaGreatDoor
open Go.ChangeShapes Go.WideShapes Go.ChangeAt Go.RowKit Go.Extern.Stop Go.Stop Go.Extern
theorem Tryz.eComp : (Tryz.prog.info? 194).map (·.comparable) = some true := by kernel_rfl
theorem Tryz.eSize : (Tryz.prog.info? 214).map (·.size) = some 1 := by kernel_rfl
/-- What is asked of the target's type. -/
theorem typeOfE (v : Value) (w : World) : (callFunc 107 #[.iface 194 v]).run Tryz.prog w = .ok (.value (.iface 161 (.agg #[.pointer (some ⟨10, 194, none⟩)]))) w := by
 rw [@run_callFunc_extern Tryz.prog 107 _ Extern.ReflectliteType.typeOf Tryz.func107 (by kernel_rfl) (by kernel_rfl) (by kernel_rfl) (by kernel_rfl)]
 kernel_rfl
theorem compOfE (w : World) : (callFunc 151 #[.agg #[.pointer (some ⟨10, 194, none⟩)]]).run Tryz.prog w = .ok (.value (.bool true)) w := by
 rw [@run_callFunc_extern Tryz.prog 151 _ (Extern.ReflectliteType.method fun t => do Rtype.noPackHeld "Comparable" t; pure (.bool (← typeInfo t).comparable)) Tryz.func151 (by kernel_rfl) (by kernel_rfl) (by kernel_rfl) (by kernel_rfl)]
 kernel_rfl
theorem methOfE (v : Value) (w : World) : (Go.method 325 161 v "Comparable").run Tryz.prog w = .ok (151, v) w := by kernel_rfl
/-- An error of errors.New's make has none of the methods that errors.Is asks for. -/
theorem lackE (v : Value) (xT : TypeId) (w : World) : (Instr.typeAssert (.iface 194 v) xT 163 true).run Tryz.prog w = .ok (.tuple #[.nilIface, .bool false]) w ∧ (Instr.typeAssert (.iface 194 v) xT 166 true).run Tryz.prog w = .ok (.tuple #[.nilIface, .bool false]) w ∧ (Instr.typeAssert (.iface 194 v) xT 168 true).run Tryz.prog w = .ok (.tuple #[.nilIface, .bool false]) w :=
 ⟨run_typeAssert_lacksB Tryz.underlying163 (by kernel_rfl) (by kernel_rfl) v xT w, run_typeAssert_lacksB Tryz.underlying166 (by kernel_rfl) (by kernel_rfl) v xT w, run_typeAssert_lacksB Tryz.underlying168 (by kernel_rfl) (by kernel_rfl) v xT w⟩
set_option maxHeartbeats 1000000 in
set_option maxRecDepth 100000 in
/-- Two errors of errors.New's make: errors.Is says whether they are one. -/
theorem iis (a b : Addr) (R : Bool) (w : World) (h : (R = true ∧ a = b) ∨ (R = false ∧ a ≠ b ∧ (∃ c t, w.heap[a.block]? = some (.cells c t (0, 0))) ∧ ∃ c t, w.heap[b.block]? = some (.cells c t (0, 0)))) :
  Calls Tryz.prog 103 #[.iface 194 (.pointer (some a)), .iface 194 (.pointer (some b))] w fun e w' => e = .returned (.bool R) ∧ w' = w := by
 obtain ⟨i, hi, hcmp⟩ := Option.map_eq_some_iff.1 Tryz.eComp
 obtain ⟨j, hj, hjs⟩ := Option.map_eq_some_iff.1 Tryz.eSize
 have tT := typeOfE
 have cT := compOfE
 have mR := methOfE
 have l1 := fun v xT w => (lackE v xT w).1
 have l2 := fun v xT w => (lackE v xT w).2.1
 have l3 := fun v xT w => (lackE v xT w).2.2
 rcases h with ⟨rfl, rfl⟩ | ⟨rfl, hne, ⟨ca, ta, ha⟩, cb, tb, hb⟩
 ·have heq := run_eql_iface_ptr_same (P := Tryz.prog) w a Tryz.underlying130 Tryz.underlying194 hi hcmp hj
  go_enter Tryz.func103, Tryz.ntmps103
  go_wp2
  refine wp_loop_rounds 1 ?_
  rw [rounds_succ]
  go_wp2
  go_ret
  exact ⟨rfl, rfl⟩
 ·have heq := run_eql_iface_ptr_other (P := Tryz.prog) w Tryz.underlying130 Tryz.underlying194 hi hcmp hj (by rw [hjs]; decide) hne ha hb
  go_enter Tryz.func103, Tryz.ntmps103
  go_wp2
  refine wp_loop_rounds 1 ?_
  rw [rounds_succ]
  go_wp2
  go_ret
  exact ⟨rfl, rfl⟩
end Go.Proofs.YtfogppnijdjakaaGreatDoor

/- The named errors of stores: what the listed variables hold; storeCode. -/
namespace Go.Proofs.YtfogppnijdjakaaGreatDoor
open Go.ChangeShapes Go.WideShapes Go.ChangeAt Go.RowKit
set_option linter.unusedVariables false
/-- Five named errors, each of its own. -/
structure StE (w : World) (x0 x1 x2 x3 x4 : Addr) : Prop where
 g0 : w.cell? ⟨1, 0, none⟩ = some (.iface 194 (.pointer (some x0)))
 g1 : w.cell? ⟨2, 0, none⟩ = some (.iface 194 (.pointer (some x1)))
 g2 : w.cell? ⟨3, 0, none⟩ = some (.iface 194 (.pointer (some x2)))
 g3 : w.cell? ⟨4, 0, none⟩ = some (.iface 194 (.pointer (some x3)))
 g4 : w.cell? ⟨5, 0, none⟩ = some (.iface 194 (.pointer (some x4)))
 b0 : ∃ c t, w.heap[x0.block]? = some (.cells c t (0, 0))
 b1 : ∃ c t, w.heap[x1.block]? = some (.cells c t (0, 0))
 b2 : ∃ c t, w.heap[x2.block]? = some (.cells c t (0, 0))
 b3 : ∃ c t, w.heap[x3.block]? = some (.cells c t (0, 0))
 b4 : ∃ c t, w.heap[x4.block]? = some (.cells c t (0, 0))
 ne : [x0, x1, x2, x3, x4].Pairwise (· ≠ ·)
theorem cell_old {w w' : World} {a : Addr} {v : Value} (hb : Below w.heap.size w w') (h : w.cell? a = some v) : w'.cell? a = some v := (hb.cell (p := a) (World.block_lt_of_cell? w _ h)).trans h
theorem blk_old {w w' : World} {n : Nat} (hb : Below w.heap.size w w') (h : ∃ c t, w.heap[n]? = some (.cells c t (0, 0))) : ∃ c t, w'.heap[n]? = some (.cells c t (0, 0)) := by
 obtain ⟨c, t, h⟩ := h
 exact ⟨c, t, (hb.block n (by obtain ⟨h1, -⟩ := Array.getElem?_eq_some_iff.1 h; exact h1)).trans h⟩
theorem StE.below {w w' : World} {x0 x1 x2 x3 x4 : Addr} (h : StE w x0 x1 x2 x3 x4) (hb : Below w.heap.size w w') : StE w' x0 x1 x2 x3 x4 :=
 ⟨cell_old hb h.g0, cell_old hb h.g1, cell_old hb h.g2, cell_old hb h.g3, cell_old hb h.g4, blk_old hb h.b0, blk_old hb h.b1, blk_old hb h.b2, blk_old hb h.b3, blk_old hb h.b4, h.ne⟩
theorem StE.pairs {w : World} {x0 x1 x2 x3 x4 : Addr} (h : StE w x0 x1 x2 x3 x4) : (x0 ≠ x1 ∧ x0 ≠ x2 ∧ x0 ≠ x3 ∧ x0 ≠ x4) ∧ (x1 ≠ x2 ∧ x1 ≠ x3 ∧ x1 ≠ x4) ∧ (x2 ≠ x3 ∧ x2 ≠ x4) ∧ x3 ≠ x4 := by
 have := h.ne; simp at this; exact this
set_option maxHeartbeats 1000000 in
set_option maxRecDepth 100000 in
theorem icode_0 {x0 x1 x2 x3 x4 : Addr} (w : World) (h : StE w x0 x1 x2 x3 x4) : Calls Tryz.prog 97 #[.iface 194 (.pointer (some x0))] w fun e w' => e = .returned (.int .i64 3) ∧ w' = w := by
 have hp := h.pairs
 have HE := hide h
 have c0 := h.g0
 have T0 := hide (iis x0 x0 true w (.inl ⟨rfl, rfl⟩))
 clear h hp HE
 go_enter Tryz.func97, Tryz.ntmps97
 go_wp2_with fail
 refine (unhide T0).mono ?_
 rintro e w0 ⟨rfl, hw⟩
 subst hw
 go_wp2_with fail
 go_ret
 exact ⟨rfl, rfl⟩
set_option maxHeartbeats 1000000 in
set_option maxRecDepth 100000 in
theorem icode_1 {x0 x1 x2 x3 x4 : Addr} (w : World) (h : StE w x0 x1 x2 x3 x4) : Calls Tryz.prog 97 #[.iface 194 (.pointer (some x1))] w fun e w' => e = .returned (.int .i64 3) ∧ w' = w := by
 have hp := h.pairs
 have HE := hide h
 have c0 := h.g0
 have c1 := h.g1
 have T0 := hide (iis x1 x0 false w (.inr ⟨rfl, hp.1.1.symm, (unhide HE).b1, (unhide HE).b0⟩))
 have T1 := hide (iis x1 x1 true w (.inl ⟨rfl, rfl⟩))
 clear h hp HE
 go_enter Tryz.func97, Tryz.ntmps97
 go_wp2_with fail
 refine (unhide T0).mono ?_
 rintro e w0 ⟨rfl, hw⟩
 subst hw
 go_wp2_with fail
 refine (unhide T1).mono ?_
 rintro e w1 ⟨rfl, hw⟩
 subst hw
 go_wp2_with fail
 go_ret
 exact ⟨rfl, rfl⟩
set_option maxHeartbeats 1000000 in
set_option maxRecDepth 100000 in
theorem icode_2 {x0 x1 x2 x3 x4 : Addr} (w : World) (h : StE w x0 x1 x2 x3 x4) : Calls Tryz.prog 97 #[.iface 194 (.pointer (some x2))] w fun e w' => e = .returned (.int .i64 3) ∧ w' = w := by
 have hp := h.pairs
 have HE := hide h
 have c0 := h.g0
 have c1 := h.g1
 have c2 := h.g2
 have T0 := hide (iis x2 x0 false w (.inr ⟨rfl, hp.1.2.1.symm, (unhide HE).b2, (unhide HE).b0⟩))
 have T1 := hide (iis x2 x1 false w (.inr ⟨rfl, hp.2.1.1.symm, (unhide HE).b2, (unhide HE).b1⟩))
 have T2 := hide (iis x2 x2 true w (.inl ⟨rfl, rfl⟩))
 clear h hp HE
 go_enter Tryz.func97, Tryz.ntmps97
 go_wp2_with fail
 refine (unhide T0).mono ?_
 rintro e w0 ⟨rfl, hw⟩
 subst hw
 go_wp2_with fail
 refine (unhide T1).mono ?_
 rintro e w1 ⟨rfl, hw⟩
 subst hw
 go_wp2_with fail
 refine (unhide T2).mono ?_
 rintro e w2 ⟨rfl, hw⟩
 subst hw
 go_wp2_with fail
 go_ret
 exact ⟨rfl, rfl⟩
end Go.Proofs.YtfogppnijdjakaaGreatDoor

/- Slices of bytes: a copy owns its memory and holds the same bytes; two rows are held against each other. -/
namespace Go.Proofs.YtfogppnijdjakaaGreatDoor
open Go.ChangeShapes Go.WideShapes Go.ChangeAt Go.RowKit
def fill8 (l : List UInt8) (k : Nat) : List Value := B8 (l.take k) ++ List.replicate (l.length - k) (.int .u8 0)
end Go.Proofs.YtfogppnijdjakaaGreatDoor
