/- At every argument that can be read, the law FnExactCommandOK returns true and leaves its arguments as they were: no condition. -/
import Derived.Test.YtmgjhmjlfdddiaaCmdAll
import Derived.Test.YtmgjhmjlfdddiaaAgg9
import Derived.WalkKit
import Derived.ProofKit
import Derived.OpenShut
import Derived.ShutString
import Derived.ChangeOld
import Derived.Below
import Derived.Deep.Strs
namespace Go.Proofs.Ytmgjhmjlfdddiaa
open Go.ChangeShapes Go.WideShapes Go.ChangeAt Go.RowKit
set_option linter.unusedVariables false

theorem own : ownKnob Try.prog.godebug = none := by kernel_rfl
theorem laidOut : laidOutB Try.prog = true := by kernel_rfl
set_option maxHeartbeats 2000000 in
set_option maxRecDepth 100000 in
theorem walk (w : World) (i0 i1 i2 i3 i4 i5 : Int) (i6 : Bool) (t7 t8 : ByteArray) (wt7 : t7.size ≤ maxLen) (wt8 : t8.size ≤ maxLen) :
    Calls Try.prog 3 #[.agg #[.int .i64 i0, .int .i64 i1, .int .i64 i2, .int .i64 i3, .int .i64 i4, .int .i64 i5, .bool i6, .string t7, .string t8]] w fun e w' => e = .returned (.bool true) ∧ Below w.heap.size w w' := by
  obtain ⟨R, hR⟩ : ∃ R, R = cmdB i0 i1 i2 i3 i4 i5 i6 t7 t8 := ⟨_, rfl⟩
  have HR := hide hR
  have nR : (R != R) = false := by simp
  have B0 := hide (Go.Joins.below_alloc1 w (.cells #[.int .i64 i0, .int .i64 i1, .int .i64 i2, .int .i64 i3, .int .i64 i4, .int .i64 i5, .bool i6, .string t7, .string t8] 23))
  have A0 := hide (BF.new w #[.int .i64 i0, .int .i64 i1, .int .i64 i2, .int .i64 i3, .int .i64 i4, .int .i64 i5, .bool i6, .string t7, .string t8] 23)
  have T1 := hide (fun w => szCmd i0 i1 i2 i3 i4 i5 i6 t7 t8 wt7 wt8 w)
  clear hR wt7 wt8
  have a0 := (unhide A0).S
  go_enter Try.func3, Try.ntmps3
  go_wp2_with fail
  refine (unhide T1 _).mono ?_
  rintro e w1 ⟨x, rfl, hb1, hx⟩
  have B1 := hide ((unhide B0).trans (hb1.mono (unhide B0).size))
  have A1 := hide ((unhide A0).below hb1)
  clear hb1 A0 B0 a0 T1
  have a1 := (unhide A1).S
  rcases hx with rfl | ⟨z, rfl, h7, h8⟩
  · go_wp2_with fail
    go_ret
    exact ⟨rfl, unhide B1⟩
  have H7 := hide h7
  have H8 := hide h8
  clear h7 h8
  have hz : ¬ (z : Int) < 0 := by omega
  go_wp2_with fail
  refine (toCmd i0 i1 i2 i3 i4 i5 i6 t7 t8 _).mono ?_
  rintro e w2 ⟨rfl, hb2⟩
  have B2 := hide ((unhide B1).trans (hb2.mono (unhide B1).size))
  have A2 := hide ((unhide A1).below hb2)
  clear hb2 A1 B1 a1
  have a2 := (unhide A2).S
  go_wp2_with fail
  refine (scmd i0 i1 i2 i3 i4 i5 i6 t7 t8 H7 H8 R HR _).mono ?_
  rintro e w3 ⟨rfl, hb3⟩
  have B3 := hide ((unhide B2).trans (hb3.mono (unhide B2).size))
  have A3 := hide ((unhide A2).below hb3)
  clear hb3 A2 B2 a2
  have a3 := (unhide A3).S
  go_wp2_with fail
  refine (toCmd i0 i1 i2 i3 i4 i5 i6 t7 t8 _).mono ?_
  rintro e w4 ⟨rfl, hb4⟩
  have B4 := hide ((unhide B3).trans (hb4.mono (unhide B3).size))
  have A4 := hide ((unhide A3).below hb4)
  clear hb4 A3 B3 a3
  have a4 := (unhide A4).S
  go_wp2_with fail
  refine (icmd i0 i1 i2 i3 i4 i5 i6 t7 t8 H7 H8 R HR _).mono ?_
  rintro e w5 ⟨rfl, hb5⟩
  have B5 := hide ((unhide B4).trans (hb5.mono (unhide B4).size))
  have A5 := hide ((unhide A4).below hb5)
  clear hb5 A4 B4 a4
  have a5 := (unhide A5).S
  go_wp2_with fail
  go_ret
  exact ⟨rfl, unhide B5⟩

set_option maxRecDepth 100000 in
theorem lifted (os : Os) (started : os.Started) (H : Type) (enc : TypeId × Value → H) :
    ReturnsInHanded {} Try.checked os 3 .any (Rows.fnExactCommandOKSpec.pre6 enc Try.prog Try.f3 Rows.fnExactCommandOKRow.domain false) (Rows.fnExactCommandOKSpec.post enc Try.prog Try.f3 false true false false) := by
  refine returnsInHanded_of_change (C := Try.checked) own started (by kernel_rfl) Try.func3
    (ChangeSpec.witness6 (enc := enc) (C := Try.checked) false ⟨#[], #[.agg #[.int .i64 0, .int .i64 0, .int .i64 0, .int .i64 0, .int .i64 0, .int .i64 0, .bool false, .string ⟨#[]⟩, .string ⟨#[]⟩]], []⟩ 8 (by kernel_rfl) (by kernel_rfl) (by kernel_rfl) (by kernel_rfl)) ?_
  intro W base args ds gs before hval0 hW hcnd _
  have hval : ∀ (j : Nat) t v, Try.f3.params[j]? = some t → args[j]? = some v → Value.okWide Try.prog W .any base t v := hval0
  have hW' := hW
  obtain ⟨p, q, hA0, hV, rfl, hfz, hnd⟩ := hW
  have hA : DataW.TrodAll enc Try.prog W 0 (fun _ => true) true Try.f3.params.toList args.toList ds p := hA0
  rw [Try.params3] at hA hval
  obtain ⟨v0, vs0, d0, ds0, p0, q0, hargs, rfl, rfl, h0, r0⟩ := trodAll_cons hA
  obtain ⟨rfl, rfl, rfl⟩ := trodAll_nil r0
  obtain rfl : args = #[v0] := by cases args; simp_all
  obtain ⟨rfl, rfl⟩ := trodVars_none hV
  have k0 := h0
  have lt0 : ∀ x ∈ p0, x.block < W.heap.size := by obtain ⟨m, hm⟩ := k0; exact DataW.trod_lt m _ _ _ hm
  obtain ⟨c0_0, c0_1, c0_2, c0_3, c0_4, c0_5, c0_6, c0_7, c0_8, u0_0, u0_1, u0_2, u0_3, u0_4, u0_5, u0_6, u0_7, u0_8, n0, rfl, z0_0, z0_1, z0_2, z0_3, z0_4, z0_5, z0_6, z0_7, z0_8⟩ := open_agg9 Try.underlying23 (by kernel_rfl) (by kernel_rfl) (hval 0 23 v0 rfl rfl) h0
  obtain ⟨i0, e0_0, -, -⟩ := DataW.trod_int Try.underlying3 z0_0
  obtain rfl : c0_0 = .int .i64 i0 := by simpa using e0_0
  obtain ⟨i1, e0_1, -, -⟩ := DataW.trod_int Try.underlying3 z0_1
  obtain rfl : c0_1 = .int .i64 i1 := by simpa using e0_1
  obtain ⟨i2, e0_2, -, -⟩ := DataW.trod_int Try.underlying3 z0_2
  obtain rfl : c0_2 = .int .i64 i2 := by simpa using e0_2
  obtain ⟨i3, e0_3, -, -⟩ := DataW.trod_int Try.underlying3 z0_3
  obtain rfl : c0_3 = .int .i64 i3 := by simpa using e0_3
  obtain ⟨i4, e0_4, -, -⟩ := DataW.trod_int Try.underlying3 z0_4
  obtain rfl : c0_4 = .int .i64 i4 := by simpa using e0_4
  obtain ⟨i5, e0_5, -, -⟩ := DataW.trod_int Try.underlying3 z0_5
  obtain rfl : c0_5 = .int .i64 i5 := by simpa using e0_5
  obtain ⟨i6, e0_6, -⟩ := DataW.trod_bool Try.underlying4 z0_6
  obtain rfl : c0_6 = .bool i6 := by simpa using e0_6
  obtain ⟨t7, e0_7, -, wt7⟩ := DataW.trod_string Try.underlying9 z0_7
  obtain rfl : c0_7 = .string t7 := by simpa using e0_7
  obtain ⟨t8, e0_8, -, wt8⟩ := DataW.trod_string Try.underlying9 z0_8
  obtain rfl : c0_8 = .string t8 := by simpa using e0_8
  clear hA0 hval0
  refine (walk W i0 i1 i2 i3 i4 i5 i6 t7 t8 wt7 wt8).mono fun e W' ⟨he, bel⟩ => ?_
  subst he
  exact ⟨_, rfl, _, _, _, [], _, [], hW', trodAll_mk1 (shut_bool Try.underlying4 _), (trodAll_cons_mk (Below.trod laidOut (by kernel_rfl) (of_decide_eq_true (by kernel_rfl)) k0 bel lt0) trodAll_mk0), rfl, bel.frame _, fun h => by cases h⟩

theorem over : Rows.fnExactCommandOKRow.holds Try.pinned (OpenSpec.ofChange Rows.fnExactCommandOKSpec) :=
  OpenClaim.holds_of_wide 3 Try.f3 rfl rfl rfl rfl rfl rfl rfl ⟨rfl, rfl, rfl, rfl, rfl⟩ rfl rfl rfl rfl rfl (by kernel_rfl) Try.func3 (by kernel_rfl)
    (of_decide_eq_true (by kernel_rfl)) (by unfold Func.isWrapper; first | (rw [if_pos (by decide +kernel)]; kernel_rfl) | (rw [if_neg (by decide +kernel)]; exact ⟨rfl, rfl⟩))
    (fun os started H enc _ => lifted os started H enc)

theorem proved : Rows.FnExactCommandOKSaid := over
#print axioms proved
end Go.Proofs.Ytmgjhmjlfdddiaa
