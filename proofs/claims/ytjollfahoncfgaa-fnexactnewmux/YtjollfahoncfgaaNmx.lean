/- At every argument that can be read, the law FnExactNewMux returns true and leaves its arguments as they were: no condition. -/
import Derived.Test.YtjollfahoncfgaaMuxE
import Derived.WalkKit
import Derived.ProofKit
import Derived.OpenShut
import Derived.ShutString
import Derived.ChangeOld
import Derived.Below
namespace Go.Proofs.Ytjollfahoncfgaa
open Go.ChangeShapes Go.WideShapes Go.ChangeAt Go.RowKit
open Go.ChangeMaps (open_string shut_string)
set_option linter.unusedVariables false

theorem own : ownKnob Try.prog.godebug = none := by kernel_rfl

set_option maxHeartbeats 2000000 in
set_option maxRecDepth 100000 in
theorem walk (a0 : Int) (a1 : Int) (w0 : (Lit.int .i64 a0).wf = true) (w1 : (Lit.int .i64 a1).wf = true) (w : World) :
    Calls Try.prog 3 #[.int .i64 a0, .int .i64 a1] w fun e w' => e = .returned (.bool true) ∧ Below w.heap.size w w' := by
  obtain ⟨j0, e0⟩ : ∃ x, x = nmJ a0 a1 a0 := ⟨_, rfl⟩
  obtain ⟨j1, e1⟩ : ∃ x, x = nmJ a0 a1 a1 := ⟨_, rfl⟩
  obtain ⟨j2, e2⟩ : ∃ x, x = nmJ a0 a1 1 := ⟨_, rfl⟩
  obtain ⟨c, ec⟩ : ∃ x, x = nmC a0 a1 := ⟨_, rfl⟩
  have HSP := hide (fun w => snewmux a0 a1 j0 j1 j2 c e0 e1 e2 ec w)
  have HIM := hide (fun w => inewmux a0 a1 j0 j1 j2 c e0 e1 e2 ec w)
  have nc : (c != c) = false := by simp
  clear e0 e1 e2 ec
  have B_0 := hide (Below.refl w.heap.size w)
  go_enter Try.func3, Try.ntmps3
  go_wp2_with fail
  refine (unhide HSP _).mono ?_
  rintro e w1 ⟨aW, caW, bW, cbW, cW, ccW, rfl, hb1⟩
  have B_1 := hide ((unhide B_0).trans (hb1.mono (unhide B_0).size))
  clear B_0
  have B_2 := hide ((unhide B_1).alloc (unhide B_1).size (.cells #[.int .i64 j0, .int .i64 j1, .int .i64 j2, .slice aW 0 caW, .slice bW 0 cbW, .slice cW 0 ccW] 26))
  clear B_1
  have W_0 := hide (BF.new w1 #[.int .i64 j0, .int .i64 j1, .int .i64 j2, .slice aW 0 caW, .slice bW 0 cbW, .slice cW 0 ccW] 26)
  clear hb1
  go_wp2_with fail
  refine (unhide HIM _).mono ?_
  rintro e w2 ⟨aG, caG, bG, cbG, cG, ccG, rfl, hb2⟩
  have B_3 := hide ((unhide B_2).trans (hb2.mono (unhide B_2).size))
  clear B_2
  have W_4 := hide ((unhide W_0).below hb2)
  clear W_0
  have B_5 := hide ((unhide B_3).alloc (unhide B_3).size (.cells #[.int .i64 j0, .int .i64 j1, .int .i64 j2, .slice aG 0 caG, .slice bG 0 cbG, .slice cG 0 ccG] 26))
  clear B_3
  have W_6 := hide ((unhide W_4).alloc (.cells #[.int .i64 j0, .int .i64 j1, .int .i64 j2, .slice aG 0 caG, .slice bG 0 cbG, .slice cG 0 ccG] 26))
  clear W_4
  have G_0 := hide (BF.new w2 #[.int .i64 j0, .int .i64 j1, .int .i64 j2, .slice aG 0 caG, .slice bG 0 cbG, .slice cG 0 ccG] 26)
  clear hb2
  have KW := (unhide W_6).S
  have KG := (unhide G_0).S
  go_wp2_with fail
  refine (eqMux0 j0 j1 j2 _ _ _ _ _ _ _ _ _ _ _ _ _).mono ?_
  rintro e w3 ⟨rfl, hb3⟩
  clear KW KG
  have B_7 := hide ((unhide B_5).trans (hb3.mono (unhide B_5).size))
  clear B_5
  have W_8 := hide ((unhide W_6).below hb3)
  clear W_6
  have G_9 := hide ((unhide G_0).below hb3)
  clear G_0
  clear hb3
  have KG := (unhide G_9).S
  go_wp2_with fail
  refine (markMux0 j0 j1 j2 _ _ _ _ _ _ _).mono ?_
  rintro e w4 ⟨rfl, hb4⟩
  clear KG
  have B_10 := hide ((unhide B_7).trans (hb4.mono (unhide B_7).size))
  clear B_7
  have W_11 := hide ((unhide W_8).below hb4)
  clear W_8
  have G_12 := hide ((unhide G_9).below hb4)
  clear G_9
  clear hb4
  have KG := (unhide G_12).S
  go_wp2_with fail
  refine (heldMux0 j0 j1 j2 _ _ _ _ _ _ _).mono ?_
  rintro e w5 ⟨rfl, hb5⟩
  clear KG
  have B_13 := hide ((unhide B_10).trans (hb5.mono (unhide B_10).size))
  clear B_10
  have W_14 := hide ((unhide W_11).below hb5)
  clear W_11
  have G_15 := hide ((unhide G_12).below hb5)
  clear G_12
  clear hb5
  go_wp2_with fail
  refine (unhide HIM _).mono ?_
  rintro e w6 ⟨aH, caH, bH, cbH, cH, ccH, rfl, hb6⟩
  have B_16 := hide ((unhide B_13).trans (hb6.mono (unhide B_13).size))
  clear B_13
  have W_17 := hide ((unhide W_14).below hb6)
  clear W_14
  have G_18 := hide ((unhide G_15).below hb6)
  clear G_15
  have B_19 := hide ((unhide B_16).alloc (unhide B_16).size (.cells #[.int .i64 j0, .int .i64 j1, .int .i64 j2, .slice aH 0 caH, .slice bH 0 cbH, .slice cH 0 ccH] 26))
  clear B_16
  have W_20 := hide ((unhide W_17).alloc (.cells #[.int .i64 j0, .int .i64 j1, .int .i64 j2, .slice aH 0 caH, .slice bH 0 cbH, .slice cH 0 ccH] 26))
  clear W_17
  have G_21 := hide ((unhide G_18).alloc (.cells #[.int .i64 j0, .int .i64 j1, .int .i64 j2, .slice aH 0 caH, .slice bH 0 cbH, .slice cH 0 ccH] 26))
  clear G_18
  have H_0 := hide (BF.new w6 #[.int .i64 j0, .int .i64 j1, .int .i64 j2, .slice aH 0 caH, .slice bH 0 cbH, .slice cH 0 ccH] 26)
  clear hb6
  have KW := (unhide W_20).S
  have KH := (unhide H_0).S
  go_wp2_with fail
  refine (eqMux0 j0 j1 j2 _ _ _ _ _ _ _ _ _ _ _ _ _).mono ?_
  rintro e w7 ⟨rfl, hb7⟩
  clear KW KH
  have B_22 := hide ((unhide B_19).trans (hb7.mono (unhide B_19).size))
  clear B_19
  have W_23 := hide ((unhide W_20).below hb7)
  clear W_20
  have G_24 := hide ((unhide G_21).below hb7)
  clear G_21
  have H_25 := hide ((unhide H_0).below hb7)
  clear H_0
  clear hb7
  have KG := (unhide G_24).S
  go_wp2_with fail
  refine (heldMux0 j0 j1 j2 _ _ _ _ _ _ _).mono ?_
  rintro e w8 ⟨rfl, hb8⟩
  clear KG
  have B_26 := hide ((unhide B_22).trans (hb8.mono (unhide B_22).size))
  clear B_22
  have W_27 := hide ((unhide W_23).below hb8)
  clear W_23
  have G_28 := hide ((unhide G_24).below hb8)
  clear G_24
  have H_29 := hide ((unhide H_25).below hb8)
  clear H_25
  clear hb8
  go_wp2_with fail
  go_ret
  exact ⟨rfl, unhide B_26⟩

set_option maxRecDepth 100000 in
theorem lifted (os : Os) (started : os.Started) (H : Type) (enc : TypeId × Value → H) :
    ReturnsInHanded {} Try.checked os 3 .any (Rows.fnExactNewMuxSpec.pre6 enc Try.prog Try.f3 Rows.fnExactNewMuxRow.domain false) (Rows.fnExactNewMuxSpec.post enc Try.prog Try.f3 false true false false) := by
  refine returnsInHanded_of_change (C := Try.checked) own started (by kernel_rfl) Try.func3
    (ChangeSpec.witness6 (enc := enc) (C := Try.checked) false ⟨#[], #[.int .i64 0, .int .i64 0], []⟩ 8 (by kernel_rfl) (by kernel_rfl) (by kernel_rfl) (by kernel_rfl)) ?_
  intro W base args ds gs before hval0 hW hcnd _
  have hval : ∀ (j : Nat) t v, Try.f3.params[j]? = some t → args[j]? = some v → Value.okWide Try.prog W .any base t v := hval0
  have hW' := hW
  obtain ⟨p, q, hA0, hV, rfl, hfz, hnd⟩ := hW
  have hA : DataW.TrodAll enc Try.prog W 0 (fun _ => true) true Try.f3.params.toList args.toList ds p := hA0
  rw [Try.params3] at hA hval
  obtain ⟨v0, vs0, d0, ds0, p0, q0, hargs, rfl, rfl, h0, r0⟩ := trodAll_cons hA
  obtain ⟨v1, vs1, d1, ds1, p1, q1, rfl, rfl, rfl, h1, r1⟩ := trodAll_cons r0
  obtain ⟨rfl, rfl, rfl⟩ := trodAll_nil r1
  obtain rfl : args = #[v0, v1] := by cases args; simp_all
  obtain ⟨rfl, rfl⟩ := trodVars_none hV
  obtain ⟨a0, rfl, rfl, rfl, w0⟩ := open_int Try.underlying3 (hval 0 3 v0 rfl rfl) h0
  obtain ⟨a1, rfl, rfl, rfl, w1⟩ := open_int Try.underlying3 (hval 1 3 v1 rfl rfl) h1
  clear hA0 hval0
  simp only [List.append_nil] at hW'
  refine (walk a0 a1 w0 w1 W).mono fun e W' ⟨he, hg⟩ => ?_
  subst he
  exact ⟨_, rfl, _, _, _, [], _, [], hW', (trodAll_cons_mk (shut_bool Try.underlying4 _) trodAll_mk0), (trodAll_cons_mk (shut_int Try.underlying3 w0) (trodAll_cons_mk (shut_int Try.underlying3 w1) trodAll_mk0)), rfl, hg.frame _, fun h => by cases h⟩

theorem over : Rows.fnExactNewMuxRow.holds Try.pinned (OpenSpec.ofChange Rows.fnExactNewMuxSpec) :=
  OpenClaim.holds_of_wide 3 Try.f3 rfl rfl rfl rfl rfl rfl rfl ⟨rfl, rfl, rfl, rfl, rfl⟩ rfl rfl rfl rfl rfl (by kernel_rfl) Try.func3 (by kernel_rfl)
    (of_decide_eq_true (by kernel_rfl)) (by unfold Func.isWrapper; first | (rw [if_pos (by decide +kernel)]; kernel_rfl) | (rw [if_neg (by decide +kernel)]; exact ⟨rfl, rfl⟩))
    (fun os started H enc _ => lifted os started H enc)

theorem proved : Rows.FnExactNewMuxSaid :=
  over
#print axioms proved
end Go.Proofs.Ytjollfahoncfgaa
