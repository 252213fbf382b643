/- At every argument that can be read, the law FnExactCommandBytes returns true and leaves its arguments as they were: no condition. -/
import Derived.Test.YtenogapfmpgooaaCbAll
import Derived.Test.YtenogapfmpgooaaAgg9
import Derived.WalkKit
import Derived.ProofKit
import Derived.OpenShut
import Derived.ShutString
import Derived.ChangeOld
import Derived.Below
import Derived.Deep.Strs
namespace Go.Proofs.Ytenogapfmpgooaa
open Go.ChangeShapes Go.WideShapes Go.ChangeAt Go.RowKit
set_option linter.unusedVariables false

theorem own : ownKnob Try.prog.godebug = none := by kernel_rfl
theorem laidOut : laidOutB Try.prog = true := by kernel_rfl
set_option maxHeartbeats 4000000 in
set_option maxRecDepth 100000 in
theorem walk (w : World) (i0 i1 i2 i3 i4 i5 : Int) (i6 : Bool) (t7 t8 : ByteArray) (wt7 : t7.size ≤ maxLen) (wt8 : t8.size ≤ maxLen) :
    Calls Try.prog 3 #[.agg #[.int .i64 i0, .int .i64 i1, .int .i64 i2, .int .i64 i3, .int .i64 i4, .int .i64 i5, .bool i6, .string t7, .string t8]] w fun e w' => e = .returned (.bool true) ∧ Below w.heap.size w w' := by
  obtain ⟨ok, hok⟩ : ∃ ok, ok = cmdB i0 i1 i2 i3 i4 i5 i6 t7 t8 := ⟨_, rfl⟩
  obtain ⟨r, hrr⟩ : ∃ r, r = cbV ok i0 i1 i2 i3 i4 i5 i6 t7 t8 := ⟨_, rfl⟩
  have hrl : r.length ≤ 1048576 := by rw [hrr]; exact cb_len ok i0 i1 i2 i3 i4 i5 i6 t7 t8 hok
  obtain ⟨c0, hc0⟩ : ∃ c, c = cbC ok := ⟨_, rfl⟩
  have HOK := hide hok
  have HRR := hide hrr
  have HC0 := hide hc0
  have nc0 : (c0 != c0) = false := by simp
  obtain ⟨q, hq⟩ : ∃ q : Int, q = ((1 + r.length : Nat) : Int) := ⟨_, rfl⟩
  have q0 : 0 < q := by omega
  have nq : (q != q) = false := by simp
  have HQ := hide hq
  clear hok hrr hc0 hq
  have B0 := hide (Go.Joins.below_alloc1 w (.cells #[.int .i64 i0, .int .i64 i1, .int .i64 i2, .int .i64 i3, .int .i64 i4, .int .i64 i5, .bool i6, .string t7, .string t8] 23))
  have A0 := hide (BF.new w #[.int .i64 i0, .int .i64 i1, .int .i64 i2, .int .i64 i3, .int .i64 i4, .int .i64 i5, .bool i6, .string t7, .string t8] 23)
  have T1 := hide (fun w => szCmd i0 i1 i2 i3 i4 i5 i6 t7 t8 wt7 wt8 w)
  clear wt7 wt8
  have KA := (unhide A0).S
  go_enter Try.func3, Try.ntmps3
  go_wp2_with fail
  refine (unhide T1 _).mono ?_
  rintro e w1 ⟨x, rfl, hb1, hx⟩
  have B1 := hide ((unhide B0).trans (hb1.mono (unhide B0).size))
  have A1 := hide ((unhide A0).below hb1)
  clear hb1 A0 B0 KA T1
  rcases hx with rfl | ⟨z, rfl, h7, h8⟩
  · go_wp2_with fail
    go_ret
    exact ⟨rfl, unhide B1⟩
  have H7 := hide h7
  have H8 := hide h8
  have hz : ¬ (z : Int) < 0 := by omega
  clear h7 h8
  have KA := (unhide A1).S
  go_wp2_with fail
  refine (toCmd i0 i1 i2 i3 i4 i5 i6 t7 t8 _).mono ?_
  rintro e w2 ⟨rfl, hb2⟩
  have B2 := hide ((unhide B1).trans (hb2.mono (unhide B1).size))
  have A2 := hide ((unhide A1).below hb2)
  clear hb2 KA A1 B1
  go_wp2_with fail
  refine (scmdb i0 i1 i2 i3 i4 i5 i6 t7 t8 H7 H8 ok HOK r HRR c0 HC0 _).mono ?_
  rintro e w3 ⟨aw, cw, rfl, hin3, hb3⟩
  have HW3 := hide hin3
  have B3 := hide ((unhide B2).trans (hb3.mono (unhide B2).size))
  have A3 := hide ((unhide A2).below hb3)
  have KA := (unhide A3).S
  have z3 : w.heap.size < w3.heap.size := (unhide A3).lt
  clear hin3 hb3 A2 B2
  go_wp2_with fail
  refine (toCmd i0 i1 i2 i3 i4 i5 i6 t7 t8 _).mono ?_
  rintro e w4 ⟨rfl, hb4⟩
  have B4 := hide ((unhide B3).trans (hb4.mono (unhide B3).size))
  have A4 := hide ((unhide A3).below hb4)
  have HW4 := hide ((unhide HW3).below hb4)
  have z34 : w3.heap.size ≤ w4.heap.size := hb4.size
  clear hb4 KA A3 B3 HW3
  go_wp2_with fail
  refine (icmdb i0 i1 i2 i3 i4 i5 i6 t7 t8 H7 H8 ok HOK r HRR c0 HC0 _).mono ?_
  rintro e w5 ⟨vg, rfl, own5, hb5⟩
  obtain ⟨ag, cg, rfl, -⟩ := own_rowV own5
  have HG5 := hide (held_of own5)
  have B5 := hide ((unhide B4).trans (hb5.mono (unhide B4).size))
  have A5 := hide ((unhide A4).below hb5)
  have HW5 := hide ((unhide HW4).below hb5)
  have z45 : w4.heap.size ≤ w5.heap.size := hb5.size
  obtain ⟨hi5, hhi5⟩ : ∃ n, n = w5.heap.size := ⟨_, rfl⟩
  rw [← hhi5] at HG5
  clear own5 hb5 A4 HW4 B4 hhi5
  go_wp2_with fail
  refine (sameByte _ _ _ _ r hrl _ (unhide HG5).rowV (unhide HW5).row).mono ?_
  rintro e w6 ⟨rfl, hb6⟩
  have B6 := hide ((unhide B5).trans (hb6.mono (unhide B5).size))
  have A6 := hide ((unhide A5).below hb6)
  have HG10 := hide ((unhide HG5).below hb6 (unhide HG5).le)
  have HW10 := hide ((unhide HW5).below hb6)
  clear hb6 A5 HG5 HW5 B5
  go_wp2_with fail
  refine (markByte1 _ r.length w4.heap.size hi5 q (B8 r) (unhide HQ) (Nat.le_trans hrl (by decide)) _ (unhide HG10)).mono ?_
  rintro e w11 ⟨rfl, hh11, hg11⟩
  have HG11 := hide hh11
  have HW11 := hide ((unhide HW10).grown hg11 (fun k hk => .inl (by have := ((unhide HG10).blk k hk).1; omega)))
  have B11 := hide (Below.marked (unhide B6) (unhide B6).size (unhide HG10) (by omega) hg11)
  have A11 : Hid (BF w.heap.size #[.int .i64 i0, .int .i64 i1, .int .i64 i2, .int .i64 i3, .int .i64 i4, .int .i64 i5, .bool i6, .string t7, .string t8] w11) := (unhide A6).keep hg11.size (hg11.block w.heap.size (unhide A6).lt (fun e => by have := ((unhide HG10).blk _ e.symm).1; omega))
  clear hh11 hg11 HG10 HW10 A6 B6
  go_wp2_with fail
  refine (heldByte1 _ r.length w4.heap.size hi5 q (unhide HQ) (Nat.le_trans hrl (by decide)) _ (unhide HG11)).mono ?_
  rintro e w12 ⟨rfl, hb12⟩
  have HG12 := hide ((unhide HG11).below hb12 (unhide HG11).le)
  have HW12 := hide ((unhide HW11).below hb12)
  have B12 := hide ((unhide B11).trans (hb12.mono (unhide B11).size))
  have A12 := hide ((unhide A11).below hb12)
  have KA := (unhide A12).S
  clear hb12 HG11 HW11 A11 B11
  have q1 : ¬ q < 0 := by omega
  go_wp2_with fail
  refine (toCmd i0 i1 i2 i3 i4 i5 i6 t7 t8 _).mono ?_
  rintro e w13 ⟨rfl, hb13⟩
  have HG13 := hide ((unhide HG12).below hb13 (unhide HG12).le)
  have HW13 := hide ((unhide HW12).below hb13)
  have B13 := hide ((unhide B12).trans (hb13.mono (unhide B12).size))
  clear hb13 HG12 HW12 A12 B12 KA
  go_wp2_with fail
  refine (icmdb i0 i1 i2 i3 i4 i5 i6 t7 t8 H7 H8 ok HOK r HRR c0 HC0 _).mono ?_
  rintro e w14 ⟨vh, rfl, own14, hb14⟩
  obtain ⟨ah, ch, rfl, -⟩ := own_rowV own14
  have HH14 := hide (row_at own14)
  have HG14 := hide ((unhide HG13).below hb14 (unhide HG13).le)
  have HW14 := hide ((unhide HW13).below hb14)
  have B14 := hide ((unhide B13).trans (hb14.mono (unhide B13).size))
  clear own14 hb14 HG13 HW13 B13
  go_wp2_with fail
  refine (sameByte _ _ _ _ r hrl _ (unhide HH14) (unhide HW14).row).mono ?_
  rintro e w15 ⟨rfl, hb15⟩
  have HG15 := hide ((unhide HG14).below hb15 (unhide HG14).le)
  have B15 := hide ((unhide B14).trans (hb15.mono (unhide B14).size))
  clear hb15 HG14 HW14 HH14 B14
  go_wp2_with fail
  refine (heldByte1 _ r.length w4.heap.size hi5 q (unhide HQ) (Nat.le_trans hrl (by decide)) _ (unhide HG15)).mono ?_
  rintro e w16 ⟨rfl, hb16⟩
  have B16 := hide ((unhide B15).trans (hb16.mono (unhide B15).size))
  clear hb16 HG15
  go_wp2_with fail
  go_ret
  exact ⟨rfl, unhide B16⟩

set_option maxRecDepth 100000 in
theorem lifted (os : Os) (started : os.Started) (H : Type) (enc : TypeId × Value → H) :
    ReturnsInHanded {} Try.checked os 3 .any (Rows.fnExactCommandBytesSpec.pre6 enc Try.prog Try.f3 Rows.fnExactCommandBytesRow.domain false) (Rows.fnExactCommandBytesSpec.post enc Try.prog Try.f3 false true false false) := by
  refine returnsInHanded_of_change (C := Try.checked) own started (by kernel_rfl) Try.func3
    (ChangeSpec.witness6 (enc := enc) (C := Try.checked) false ⟨#[], #[.agg #[.int .i64 0, .int .i64 0, .int .i64 0, .int .i64 0, .int .i64 0, .int .i64 0, .bool false, .string ⟨#[]⟩, .string ⟨#[]⟩]], []⟩ 8 (by kernel_rfl) (by kernel_rfl) (by kernel_rfl) (by kernel_rfl)) ?_
  intro W base args ds gs before hval0 hW hcnd _
  have hval : ∀ (j : Nat) t v, Try.f3.params[j]? = some t → args[j]? = some v → Value.okWide Try.prog W .any base t v := hval0
  have hW' := hW
  obtain ⟨p, q, hA0, hV, rfl, hfz, hnd⟩ := hW
  have hA : DataW.TrodAll enc Try.prog W 0 (fun _ => true) true Try.f3.params.toList args.toList ds p := hA0
  rw [Try.params3] at hA hval
  obtain ⟨v0, vs0, d0, ds0, p0, q0, hargs, rfl, rfl, h0, r0⟩ := trodAll_cons hA
  obtain ⟨rfl, rfl, rfl⟩ := trodAll_nil r0
  obtain rfl : args = #[v0] := by cases args; simp_all
  obtain ⟨rfl, rfl⟩ := trodVars_none hV
  have k0 := h0
  have lt0 : ∀ x ∈ p0, x.block < W.heap.size := by obtain ⟨m, hm⟩ := k0; exact DataW.trod_lt m _ _ _ hm
  obtain ⟨c0_0, c0_1, c0_2, c0_3, c0_4, c0_5, c0_6, c0_7, c0_8, u0_0, u0_1, u0_2, u0_3, u0_4, u0_5, u0_6, u0_7, u0_8, n0, rfl, z0_0, z0_1, z0_2, z0_3, z0_4, z0_5, z0_6, z0_7, z0_8⟩ := open_agg9 Try.underlying23 (by kernel_rfl) (by kernel_rfl) (hval 0 23 v0 rfl rfl) h0
  obtain ⟨i0, e0_0, -, -⟩ := DataW.trod_int Try.underlying3 z0_0
  obtain rfl : c0_0 = .int .i64 i0 := by simpa using e0_0
  obtain ⟨i1, e0_1, -, -⟩ := DataW.trod_int Try.underlying3 z0_1
  obtain rfl : c0_1 = .int .i64 i1 := by simpa using e0_1
  obtain ⟨i2, e0_2, -, -⟩ := DataW.trod_int Try.underlying3 z0_2
  obtain rfl : c0_2 = .int .i64 i2 := by simpa using e0_2
  obtain ⟨i3, e0_3, -, -⟩ := DataW.trod_int Try.underlying3 z0_3
  obtain rfl : c0_3 = .int .i64 i3 := by simpa using e0_3
  obtain ⟨i4, e0_4, -, -⟩ := DataW.trod_int Try.underlying3 z0_4
  obtain rfl : c0_4 = .int .i64 i4 := by simpa using e0_4
  obtain ⟨i5, e0_5, -, -⟩ := DataW.trod_int Try.underlying3 z0_5
  obtain rfl : c0_5 = .int .i64 i5 := by simpa using e0_5
  obtain ⟨i6, e0_6, -⟩ := DataW.trod_bool Try.underlying4 z0_6
  obtain rfl : c0_6 = .bool i6 := by simpa using e0_6
  obtain ⟨t7, e0_7, -, wt7⟩ := DataW.trod_string Try.underlying9 z0_7
  obtain rfl : c0_7 = .string t7 := by simpa using e0_7
  obtain ⟨t8, e0_8, -, wt8⟩ := DataW.trod_string Try.underlying9 z0_8
  obtain rfl : c0_8 = .string t8 := by simpa using e0_8
  clear hA0 hval0
  refine (walk W i0 i1 i2 i3 i4 i5 i6 t7 t8 wt7 wt8).mono fun e W' ⟨he, bel⟩ => ?_
  subst he
  exact ⟨_, rfl, _, _, _, [], _, [], hW', trodAll_mk1 (shut_bool Try.underlying4 _), (trodAll_cons_mk (Below.trod laidOut (by kernel_rfl) (of_decide_eq_true (by kernel_rfl)) k0 bel lt0) trodAll_mk0), rfl, bel.frame _, fun h => by cases h⟩

theorem over : Rows.fnExactCommandBytesRow.holds Try.pinned (OpenSpec.ofChange Rows.fnExactCommandBytesSpec) :=
  OpenClaim.holds_of_wide 3 Try.f3 rfl rfl rfl rfl rfl rfl rfl ⟨rfl, rfl, rfl, rfl, rfl⟩ rfl rfl rfl rfl rfl (by kernel_rfl) Try.func3 (by kernel_rfl)
    (of_decide_eq_true (by kernel_rfl)) (by unfold Func.isWrapper; first | (rw [if_pos (by decide +kernel)]; kernel_rfl) | (rw [if_neg (by decide +kernel)]; exact ⟨rfl, rfl⟩))
    (fun os started H enc _ => lifted os started H enc)

theorem proved : Rows.FnExactCommandBytesSaid := over
#print axioms proved
end Go.Proofs.Ytenogapfmpgooaa
