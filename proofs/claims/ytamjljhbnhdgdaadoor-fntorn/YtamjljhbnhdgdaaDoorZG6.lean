/- Texts put together: ReadNumI IsE. -/
import Derived.Test.YtamjljhbnhdgdaaDoorZG3
import Derived.Test.YtamjljhbnhdgdaaDoorZG4
import Derived.Test.YtamjljhbnhdgdaaDoorZG1
import Derived.LaidEql
import Derived.Stop.Asserts
import Derived.RowKitTokens
/- ReadNumbers: what the program answers at every row of bytes. -/
namespace Go.Proofs.YtamjljhbnhdgdaaDoor
open Go.ChangeShapes Go.WideShapes Go.ChangeAt Go.RowKit
theorem Tryd.infR3 : (Tryd.prog.info? 3).map (fun i => (i.zero, i.size, i.bytes)) = some (some (.int .i64 0), 1, 8) := by kernel_rfl
set_option maxHeartbeats 400000 in
set_option maxRecDepth 100000 in
theorem ireadnums (a : Option Addr) (cap : Nat) (l : List UInt8) (hl : l.length ≤ 1048576) (hcap : l.length ≤ cap) (w : World) (hr : RowV w a (B8 l)) :
  Calls Tryd.prog 64 #[.slice a l.length cap] w fun e w' => ∃ v', e = .returned (.tuple #[v', .int .i64 (rnC l)]) ∧ w'.ownsRow w.heap.size 3 1 v' (rnL l).length (cI (rnL l)) ∧ Below w.heap.size w w' := by
 obtain ⟨i0, hi, hz0, hz1, hz2⟩ := info_parts Tryd.infR3
 have HR := hide (rowV_8 hr)
 clear hr
 by_cases long : 65536 < l.length
 ·have HV := hide (rn_long long)
  go_enter Tryd.func64, Tryd.ntmps64
  go_wp2_with fail
  go_ret2
  rw [(unhide HV).1, (unhide HV).2]
  exact ⟨_, rfl, nil_ownI _ _ _, Below.refl _ _⟩
 by_cases form : l.length % 3 = 0
 ·have t1 : ((l.length : Int) % 3 != 0) = false := by rw [bne_eq_false_iff_eq]; omega
  have t2 : ((l.length : Int).tmod 3 != 0) = false := by rw [Int.tmod_eq_emod_of_nonneg (by omega), bne_eq_false_iff_eq]; omega
  by_cases many : 4096 < l.length / 3
  ·have HV := hide (rn_many long form many)
   have t3 : 4096 < (l.length : Int) / 3 := by omega
   clear form
   go_enter Tryd.func64, Tryd.ntmps64
   go_wp2_with fail
   go_ret2
   rw [(unhide HV).1, (unhide HV).2]
   exact ⟨_, rfl, nil_ownI _ _ _, Below.refl _ _⟩
  ·have HV := hide (rn_ok long form many)
   obtain ⟨n, hn⟩ : ∃ n, n = l.length / 3 := ⟨_, rfl⟩
   have HN : Hid (l.length = 3 * n) := by show _ = _; omega
   have t3 : ¬ 4096 < (l.length : Int) / 3 := by omega
   have hn4 : n ≤ 4096 := by omega
   rw [← hn] at HV
   clear form hn many
   go_enter Tryd.func64, Tryd.ntmps64
   go_wp2_with fail
   go_loopw [4, 5] (fun v i wr => ∃ (k j : Nat) (m : List Int), k ≤ n ∧ Hid (j = 3 * k) ∧ i = .int .i64 j ∧ Hid (m = numsR l k) ∧ m.length ≤ 4096 ∧ Hid (wr.ownsRow w.heap.size 3 1 v m.length (cI m)) ∧ Hid (Below w.heap.size w wr)) (fun _ i _ => l.length - (intOf i).toNat)
   case atStart => exact ⟨0, 0, [], by omega, rfl, rfl, rfl, by simp, nil_ownI _ _ _, Below.refl _ _⟩
   case round =>
    obtain ⟨k, j, m, hk, HJ, rfl, HM, hm, HO, HB⟩ := hrel
    have ej := unhide HJ
    have en := unhide HN
    by_cases hlt : k < n
    ·obtain ⟨b, off, ha, hblt, hc⟩ := ((unhide HR).below (unhide HB)).at (by omega)
     subst ha
     have HP : Hid (Row8 wr (some ⟨b, off + j, none⟩) (chunk l k)) := by
      have := row8_part hblt hc j 3 (by omega); rw [ej] at this; rw [ej]; exact this
     have HPL : Hid ((chunk l k).length = 3) := part_len l (3 * k) 3 (by omega)
     have hj1 : (j : Int) < (l.length : Int) := by omega
     obtain ⟨b_, hbb⟩ : ∃ b_, b_ = j + 3 := ⟨_, rfl⟩
     have a4 : (j : Int) + 3 = (b_ : Int) := by omega
     have a5 : (0 : Int) ≤ (b_ : Int) := by omega
     have a6 : (b_ : Int) ≤ (cap : Int) := by omega
     have a7 : j ≤ b_ := by omega
     have a8 : b_ - j = 3 := by omega
     have a9 : (j : Int) ≤ 1048576 := by omega
     have a10 : ¬ cap = j := by omega
     have hm' : m.length ≤ k := by rw [unhide HM, numsR_len]; omega
     have HBB : Hid (b_ = 3 * (k + 1)) := by show _ = _; omega
     obtain ⟨y, hy⟩ : ∃ y : Nat, y = ofBE (chunk l k) := ⟨_, rfl⟩
     have hy2 : y < 16777216 := by have := ofBE_lt (chunk l k) 3; rw [List.take_of_length_le (by rw [unhide HPL]; exact Nat.le_refl _), ← hy] at this; exact this
     have HS : Hid (numsR l (k + 1) = m ++ [(y : Int) - 1]) := by show _ = _; rw [numsR_snoc, unhide HM, hy]
     have hy3 : (y : Int) ≤ 16777216 := by omega
     have HY := hide hy
     have hown := unhide HO
     have hz := (unhide HB).size
     clear hc ej en hbb HO hy hy2 HR hblt
     go_wp2_with (first | (go_at_call 62; have h3 := inumber (some ⟨b, off + j, none⟩) (cap - j) (chunk l k) (by rw [unhide HPL]; decide) wr (unhide HP); rw [unhide HPL, ← unhide HY] at h3; refine h3.mono ?_; clear h3; rintro e w2 ⟨rfl, hw⟩; subst w2) | (at_builtin; refine wpList_append_lies _ rfl (.tmp 23) (.tmp 31) 72 rfl w.heap.size 3 i0 (.int .i64 0) 1 8 Tryd.underlying72 hi hz0 hz1 hz2 rfl (by decide) _ _ _ rfl (hown.alloc _) ⟨wr.heap.size, 0, none⟩ 1 1 (cI [(y : Int) - 1]) rfl rfl (by exact news_new wr (cI [(y : Int) - 1]) 3) (cI_one _) (by decide) (by unfold maxLen; omega) (by omega) (by simp; omega) _ rfl ?_; intro g2 c2 w2 hown2 hgrow2 hat2 hlt2; have HB2 := hide (below_app (unhide HB) (by omega) hown (Nat.le_refl _) hgrow2); have HO2 := hide (own_appI (l := m) (m := [(y : Int) - 1]) hown2 rfl); clear hown2 hgrow2 hat2 hlt2 hown HB))
     go_roundw
     case rel => exact ⟨k + 1, b_, m ++ [(y : Int) - 1], by omega, unhide HBB, by go_num, (unhide HS).symm, by rw [List.length_append]; simp; omega, HO2, HB2⟩
     case measure => simp [intOf]; omega
    ·have ek : k = n := by omega
     have hj1 : ¬ (j : Int) < (l.length : Int) := by omega
     rw [ek] at HM
     clear ej en
     go_wp2_with fail
     go_ret2
     rw [(unhide HV).1, (unhide HV).2, ← unhide HM]
     exact ⟨_, rfl, unhide HO, unhide HB⟩
 ·have HV := hide (rn_form long form)
  have t1 : ((l.length : Int) % 3 != 0) = true := by rw [bne_iff_ne]; omega
  have t2 : ((l.length : Int).tmod 3 != 0) = true := by rw [Int.tmod_eq_emod_of_nonneg (by omega), bne_iff_ne]; omega
  clear form
  go_enter Tryd.func64, Tryd.ntmps64
  go_wp2_with fail
  go_ret2
  rw [(unhide HV).1, (unhide HV).2]
  exact ⟨_, rfl, nil_ownI _ _ _, Below.refl _ _⟩
theorem ireadnumsH (a : Option Addr) (cap : Nat) (l : List UInt8) (r : List Int) (c : Int) (hr : r = rnL l) (hc : c = rnC l) (hl : l.length ≤ 1048576) (hcap : l.length ≤ cap) (w : World) (hrow : RowV w a (B8 l)) :
  Calls Tryd.prog 64 #[.slice a l.length cap] w fun e w' => ∃ v', e = .returned (.tuple #[v', .int .i64 c]) ∧ w'.ownsRow w.heap.size 3 1 v' r.length (cI r) ∧ Below w.heap.size w w' := by
 subst hr hc; exact ireadnums a cap l hl hcap w hrow
end Go.Proofs.YtamjljhbnhdgdaaDoor

/- errors.Is where both errors are of errors.New's make: what it answers. Go's own text is walked. -/
namespace Go.Proofs.YtamjljhbnhdgdaaDoor
open Go.ChangeShapes Go.WideShapes Go.ChangeAt Go.RowKit Go.Extern.Stop Go.Stop Go.Extern
theorem Tryd.eComp : (Tryd.prog.info? 145).map (·.comparable) = some true := by kernel_rfl
theorem Tryd.eSize : (Tryd.prog.info? 165).map (·.size) = some 1 := by kernel_rfl
/-- What is asked of the target's type. -/
theorem typeOfE (v : Value) (w : World) : (callFunc 37 #[.iface 145 v]).run Tryd.prog w = .ok (.value (.iface 96 (.agg #[.pointer (some ⟨10, 145, none⟩)]))) w := by
 rw [@run_callFunc_extern Tryd.prog 37 _ Extern.ReflectliteType.typeOf Tryd.func37 (by kernel_rfl) (by kernel_rfl) (by kernel_rfl) (by kernel_rfl)]
 kernel_rfl
theorem compOfE (w : World) : (callFunc 90 #[.agg #[.pointer (some ⟨10, 145, none⟩)]]).run Tryd.prog w = .ok (.value (.bool true)) w := by
 rw [@run_callFunc_extern Tryd.prog 90 _ (Extern.ReflectliteType.method fun t => do Rtype.noPackHeld "Comparable" t; pure (.bool (← typeInfo t).comparable)) Tryd.func90 (by kernel_rfl) (by kernel_rfl) (by kernel_rfl) (by kernel_rfl)]
 kernel_rfl
theorem methOfE (v : Value) (w : World) : (Go.method 276 96 v "Comparable").run Tryd.prog w = .ok (90, v) w := by kernel_rfl
/-- An error of errors.New's make has none of the methods that errors.Is asks for. -/
theorem lackE (v : Value) (xT : TypeId) (w : World) : (Instr.typeAssert (.iface 145 v) xT 98 true).run Tryd.prog w = .ok (.tuple #[.nilIface, .bool false]) w ∧ (Instr.typeAssert (.iface 145 v) xT 101 true).run Tryd.prog w = .ok (.tuple #[.nilIface, .bool false]) w ∧ (Instr.typeAssert (.iface 145 v) xT 103 true).run Tryd.prog w = .ok (.tuple #[.nilIface, .bool false]) w :=
 ⟨run_typeAssert_lacksB Tryd.underlying98 (by kernel_rfl) (by kernel_rfl) v xT w, run_typeAssert_lacksB Tryd.underlying101 (by kernel_rfl) (by kernel_rfl) v xT w, run_typeAssert_lacksB Tryd.underlying103 (by kernel_rfl) (by kernel_rfl) v xT w⟩
set_option maxHeartbeats 1000000 in
set_option maxRecDepth 100000 in
/-- Two errors of errors.New's make: errors.Is says whether they are one. -/
theorem iis (a b : Addr) (R : Bool) (w : World) (h : (R = true ∧ a = b) ∨ (R = false ∧ a ≠ b ∧ (∃ c t, w.heap[a.block]? = some (.cells c t (0, 0))) ∧ ∃ c t, w.heap[b.block]? = some (.cells c t (0, 0)))) :
  Calls Tryd.prog 19 #[.iface 145 (.pointer (some a)), .iface 145 (.pointer (some b))] w fun e w' => e = .returned (.bool R) ∧ w' = w := by
 obtain ⟨i, hi, hcmp⟩ := Option.map_eq_some_iff.1 Tryd.eComp
 obtain ⟨j, hj, hjs⟩ := Option.map_eq_some_iff.1 Tryd.eSize
 have tT := typeOfE
 have cT := compOfE
 have mR := methOfE
 have l1 := fun v xT w => (lackE v xT w).1
 have l2 := fun v xT w => (lackE v xT w).2.1
 have l3 := fun v xT w => (lackE v xT w).2.2
 rcases h with ⟨rfl, rfl⟩ | ⟨rfl, hne, ⟨ca, ta, ha⟩, cb, tb, hb⟩
 ·have heq := run_eql_iface_ptr_same (P := Tryd.prog) w a Tryd.underlying51 Tryd.underlying145 hi hcmp hj
  go_enter Tryd.func19, Tryd.ntmps19
  go_wp2
  refine wp_loop_rounds 1 ?_
  rw [rounds_succ]
  go_wp2
  go_ret
  exact ⟨rfl, rfl⟩
 ·have heq := run_eql_iface_ptr_other (P := Tryd.prog) w Tryd.underlying51 Tryd.underlying145 hi hcmp hj (by rw [hjs]; decide) hne ha hb
  go_enter Tryd.func19, Tryd.ntmps19
  go_wp2
  refine wp_loop_rounds 1 ?_
  rw [rounds_succ]
  go_wp2
  go_ret
  exact ⟨rfl, rfl⟩
end Go.Proofs.YtamjljhbnhdgdaaDoor
