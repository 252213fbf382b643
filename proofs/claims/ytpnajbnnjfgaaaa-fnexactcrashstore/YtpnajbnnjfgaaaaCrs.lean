/- At every argument that can be read, the law FnExactCrashStore returns true and leaves its arguments as they were: no condition. -/
import Derived.Test.YtpnajbnnjfgaaaaStoAll
import Derived.Test.YtpnajbnnjfgaaaaAgg2
import Derived.WalkKit
import Derived.ProofKit
import Derived.OpenShut
import Derived.ShutString
import Derived.ChangeOld
import Derived.Below
import Derived.Deep.Strs
namespace Go.Proofs.Ytpnajbnnjfgaaaa
open Go.ChangeShapes Go.WideShapes Go.ChangeAt Go.RowKit
set_option linter.unusedVariables false

theorem own : ownKnob Try.prog.godebug = none := by kernel_rfl
theorem laidOut : laidOutB Try.prog = true := by kernel_rfl
set_option maxHeartbeats 2000000 in
set_option maxRecDepth 100000 in
theorem walk (w : World) (d0 : ByteArray) (s0 : Int) (wd0 : d0.size ≤ maxLen) (x1 : Int) (y1 : (Lit.int .i64 x1).wf = true) :
    Calls Try.prog 3 #[.agg #[.string d0, .int .i64 s0], .int .i64 x1] w fun e w' => e = .returned (.bool true) ∧ Below w.heap.size w w' := by
  obtain ⟨d2, s2, c, his⟩ := crash_ex d0 s0 x1
  have HIS := hide his
  have nc : (c != c) = false := by simp
  clear his
  have B_1 := hide (Go.Joins.below_alloc1 w (.cells #[.string d0, .int .i64 s0] 23))
  have A_2 := hide (BF.new w #[.string d0, .int .i64 s0] 23)
  have T1 := hide (fun w => szStore d0 s0 wd0 w)
  have HD := hide wd0
  clear wd0
  have kA := (unhide A_2).S
  go_enter Try.func3, Try.ntmps3
  go_wp2_with fail
  refine (unhide T1 _).mono ?_
  rintro e w1 ⟨x, rfl, hb1, hx⟩
  clear kA
  have B_3 := hide ((unhide B_1).trans (hb1.mono (unhide B_1).size))
  clear B_1
  have A_4 := hide ((unhide A_2).below hb1)
  clear A_2
  clear hb1
  clear T1
  rcases hx with rfl | ⟨z, rfl, hz, h7⟩
  · go_wp2_with fail
    go_ret
    exact ⟨rfl, (unhide B_3)⟩
  clear h7 hz
  have hz : ¬ (z : Int) < 0 := by omega
  have kA := (unhide A_4).S
  go_wp2_with fail
  refine (toStore d0 s0 _).mono ?_
  rintro e w2 ⟨rfl, hb2⟩
  clear kA
  have B_5 := hide ((unhide B_3).trans (hb2.mono (unhide B_3).size))
  clear B_3
  have A_6 := hide ((unhide A_4).below hb2)
  clear A_4
  clear hb2
  go_wp2_with fail
  refine (scrash d0 s0 x1 HD d2 s2 c HIS _).mono ?_
  rintro e w3 ⟨rfl, hb3⟩
  have B_7 := hide ((unhide B_5).trans (hb3.mono (unhide B_5).size))
  clear B_5
  have A_8 := hide ((unhide A_6).below hb3)
  clear A_6
  clear hb3
  have B_9 := hide ((unhide B_7).alloc (unhide B_7).size (.cells #[.string d2, .int .i64 s2] 25))
  clear B_7
  have A_10 := hide ((unhide A_8).alloc (.cells #[.string d2, .int .i64 s2] 25))
  clear A_8
  have W_11 := hide (BF.new w3 #[.string d2, .int .i64 s2] 25)
  have kA := (unhide A_10).S
  go_wp2_with fail
  refine (toStore d0 s0 _).mono ?_
  rintro e w4 ⟨rfl, hb4⟩
  clear kA
  have B_12 := hide ((unhide B_9).trans (hb4.mono (unhide B_9).size))
  clear B_9
  have A_13 := hide ((unhide A_10).below hb4)
  clear A_10
  have W_14 := hide ((unhide W_11).below hb4)
  clear W_11
  clear hb4
  go_wp2_with fail
  refine (icrash d0 s0 x1 HD d2 s2 c HIS _).mono ?_
  rintro e w5 ⟨rfl, hb5⟩
  have B_15 := hide ((unhide B_12).trans (hb5.mono (unhide B_12).size))
  clear B_12
  have A_16 := hide ((unhide A_13).below hb5)
  clear A_13
  have W_17 := hide ((unhide W_14).below hb5)
  clear W_14
  clear hb5
  have B_18 := hide ((unhide B_15).alloc (unhide B_15).size (.cells #[.string d2, .int .i64 s2] 25))
  clear B_15
  have A_19 := hide ((unhide A_16).alloc (.cells #[.string d2, .int .i64 s2] 25))
  clear A_16
  have W_20 := hide ((unhide W_17).alloc (.cells #[.string d2, .int .i64 s2] 25))
  clear W_17
  have G_21 := hide (BF.new w5 #[.string d2, .int .i64 s2] 25)
  have kW := (unhide W_20).S
  have kG := (unhide G_21).S
  go_wp2_with fail
  refine (eqStore d2 s2 _).mono ?_
  rintro e w6 ⟨rfl, hb6⟩
  clear kW kG
  have B_22 := hide ((unhide B_18).trans (hb6.mono (unhide B_18).size))
  clear B_18
  have A_23 := hide ((unhide A_19).below hb6)
  clear A_19
  have W_24 := hide ((unhide W_20).below hb6)
  clear W_20
  have G_25 := hide ((unhide G_21).below hb6)
  clear G_21
  clear hb6
  go_wp2_with fail
  go_ret
  exact ⟨rfl, (unhide B_22)⟩

set_option maxRecDepth 100000 in
theorem lifted (os : Os) (started : os.Started) (H : Type) (enc : TypeId × Value → H) :
    ReturnsInHanded {} Try.checked os 3 .any (Rows.fnExactCrashStoreSpec.pre6 enc Try.prog Try.f3 Rows.fnExactCrashStoreRow.domain false) (Rows.fnExactCrashStoreSpec.post enc Try.prog Try.f3 false true false false) := by
  refine returnsInHanded_of_change (C := Try.checked) own started (by kernel_rfl) Try.func3
    (ChangeSpec.witness6 (enc := enc) (C := Try.checked) false ⟨#[], #[.agg #[.string ⟨#[]⟩, .int .i64 0], .int .i64 0], []⟩ 8 (by kernel_rfl) (by kernel_rfl) (by kernel_rfl) (by kernel_rfl)) ?_
  intro W base args ds gs before hval0 hW hcnd _
  have hval : ∀ (j : Nat) t v, Try.f3.params[j]? = some t → args[j]? = some v → Value.okWide Try.prog W .any base t v := hval0
  have hW' := hW
  obtain ⟨p, q, hA0, hV, rfl, hfz, hnd⟩ := hW
  have hA : DataW.TrodAll enc Try.prog W 0 (fun _ => true) true Try.f3.params.toList args.toList ds p := hA0
  rw [Try.params3] at hA hval
  obtain ⟨v0, vs0, d_0, ds0, p0, q0, hargs, rfl, rfl, h0, r0⟩ := trodAll_cons hA
  obtain ⟨v1, vs1, d_1, ds1, p1, q1, rfl, rfl, rfl, h1, r1⟩ := trodAll_cons r0
  obtain ⟨rfl, rfl, rfl⟩ := trodAll_nil r1
  obtain rfl : args = #[v0, v1] := by cases args; simp_all
  obtain ⟨rfl, rfl⟩ := trodVars_none hV
  have k0 := h0
  have lt0 : ∀ x ∈ p0, x.block < W.heap.size := by obtain ⟨m, hm⟩ := k0; exact DataW.trod_lt m _ _ _ hm
  have k1 := h1
  have lt1 : ∀ x ∈ p1, x.block < W.heap.size := by obtain ⟨m, hm⟩ := k1; exact DataW.trod_lt m _ _ _ hm
  obtain ⟨c0_0, c0_1, u0_0, u0_1, n0, rfl, z0_0, z0_1⟩ := open_agg2 Try.underlying23 (by kernel_rfl) (by kernel_rfl) (hval 0 23 v0 rfl rfl) h0
  obtain ⟨d0, e0_0, -, wd0⟩ := DataW.trod_string Try.underlying9 z0_0
  obtain rfl : c0_0 = .string d0 := by simpa using e0_0
  obtain ⟨s0, e0_1, -, -⟩ := DataW.trod_int Try.underlying3 z0_1
  obtain rfl : c0_1 = .int .i64 s0 := by simpa using e0_1
  obtain ⟨x1, rfl, rfl, rfl, y1⟩ := open_int Try.underlying3 (hval 1 3 v1 rfl rfl) h1
  clear hA0 hval0
  refine (walk W d0 s0 wd0 x1 y1).mono fun e W' ⟨he, bel⟩ => ?_
  subst he
  exact ⟨_, rfl, _, _, _, [], _, [], hW', trodAll_mk1 (shut_bool Try.underlying4 _), (trodAll_cons_mk (Below.trod laidOut (by kernel_rfl) (of_decide_eq_true (by kernel_rfl)) k0 bel lt0) (trodAll_cons_mk (Below.trod laidOut (by kernel_rfl) (of_decide_eq_true (by kernel_rfl)) k1 bel lt1) trodAll_mk0)), rfl, bel.frame _, fun h => by cases h⟩

theorem over : Rows.fnExactCrashStoreRow.holds Try.pinned (OpenSpec.ofChange Rows.fnExactCrashStoreSpec) :=
  OpenClaim.holds_of_wide 3 Try.f3 rfl rfl rfl rfl rfl rfl rfl ⟨rfl, rfl, rfl, rfl, rfl⟩ rfl rfl rfl rfl rfl (by kernel_rfl) Try.func3 (by kernel_rfl)
    (of_decide_eq_true (by kernel_rfl)) (by unfold Func.isWrapper; first | (rw [if_pos (by decide +kernel)]; kernel_rfl) | (rw [if_neg (by decide +kernel)]; exact ⟨rfl, rfl⟩))
    (fun os started H enc _ => lifted os started H enc)

theorem proved : Rows.FnExactCrashStoreSaid := over
#print axioms proved
end Go.Proofs.Ytpnajbnnjfgaaaa
