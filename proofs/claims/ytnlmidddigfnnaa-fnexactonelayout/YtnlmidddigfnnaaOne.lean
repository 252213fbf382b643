/- At every argument that can be read, the law FnExactOneLayout returns true and leaves its arguments as they were: no condition. -/
import Derived.Test.YtnlmidddigfnnaaOneAll
import Derived.WalkKit
import Derived.ProofKit
import Derived.OpenShut
import Derived.ShutString
import Derived.ChangeOld
import Derived.Below
namespace Go.Proofs.Ytnlmidddigfnnaa
open Go.ChangeShapes Go.WideShapes Go.ChangeAt Go.RowKit
open Go.ChangeMaps (open_string shut_string)
set_option linter.unusedVariables false

theorem own : ownKnob Try.prog.godebug = none := by kernel_rfl

set_option maxHeartbeats 4000000 in
set_option maxRecDepth 100000 in
theorem walk (a0 : Int) (w0 : (Lit.int .i64 a0).wf = true) (w : World) :
    Calls Try.prog 3 #[.int .i64 a0] w fun e w' => e = .returned (.bool true) ∧ Below w.heap.size w w' := by
  obtain ⟨c, ec⟩ : ∃ x, x = oneC a0 := ⟨_, rfl⟩
  obtain ⟨l2, el2⟩ : ∃ x, x = oneL a0 := ⟨_, rfl⟩
  have HN2 : Hid (l2.length ≤ 11) := by show _ ≤ _; rw [el2]; unfold oneL; split <;> simp
  have HC := hide ec
  have HL2 := hide el2
  clear ec el2
  have nc : (c != c) = false := by simp
  obtain ⟨q, hq⟩ : ∃ q : Int, q = ((1 + l2.length * 5 : Nat) : Int) := ⟨_, rfl⟩
  have q0 : 0 < q := by omega
  have nq : (q != q) = false := by simp
  have q1 : ¬ q < 0 := by omega
  have HQ := hide hq
  clear hq
  have B_0 := hide (Below.refl w.heap.size w)
  go_enter Try.func3, Try.ntmps3
  go_wp2_with fail
  refine (sone a0 c l2 (unhide HC) (unhide HL2) _).mono ?_
  rintro e w3 ⟨aW, capW, rfl, o3, hb3⟩
  have B_1 := hide ((unhide B_0).trans (hb3.mono (unhide B_0).size))
  clear B_0
  have z3 : w.heap.size ≤ w3.heap.size := hb3.size
  have W_0 := hide (LayIn.laid (v := .slice aW l2.length capW) o3)
  have B_2 := hide ((unhide B_1).alloc (unhide B_1).size (.cells #[.slice aW l2.length capW] 24))
  clear B_1
  clear o3 hb3
  go_wp2_with fail
  refine (ione a0 c l2 (unhide HC) (unhide HL2) _).mono ?_
  rintro e w5 ⟨aG, capG, rfl, o5, hb5⟩
  have B_3 := hide ((unhide B_2).trans (hb5.mono (unhide B_2).size))
  clear B_2
  have W_4 := hide ((unhide W_0).below hb5)
  clear W_0
  have z45 : w3.heap.size + 1 ≤ w5.heap.size := by have := hb5.size; simp at this; omega
  have G_0 := hide (LayIn.laid (v := .slice aG l2.length capG) o5)
  have B_5 := hide ((unhide B_3).alloc (unhide B_3).size (.cells #[.slice aG l2.length capG] 24))
  clear B_3
  have W_6 := hide ((unhide W_4).alloc (.cells #[.slice aG l2.length capG] 24))
  clear W_4
  rw [show (w3.alloc (.cells #[.slice aW l2.length capW] 24)).heap.size = w3.heap.size + 1 from by simp] at G_0
  clear o5 hb5
  have KW := (unhide W_6).box
  have KG := (unhide G_0).box
  go_wp2_with fail
  refine (eqLay aG aW capG capW l2 (Nat.le_trans (unhide HN2) (by decide)) _ (unhide G_0).row.rowV (unhide W_6).row.rowV).mono ?_
  rintro e w6 ⟨rfl, hb6⟩
  clear KW KG
  have B_7 := hide ((unhide B_5).trans (hb6.mono (unhide B_5).size))
  clear B_5
  have W_8 := hide ((unhide W_6).below hb6)
  clear W_6
  have G_9 := hide ((unhide G_0).below hb6)
  clear G_0
  clear hb6
  have KG := (unhide G_9).box
  go_wp2_with fail
  refine (markLay _ l2.length _ _ q _ (unhide HQ) (Nat.le_trans (unhide HN2) (by decide)) _ (unhide G_9).row).mono ?_
  rintro e w11 ⟨rfl, hc11, hs11⟩
  clear KG
  have G_m := hide ((unhide G_9).marked hs11 hc11)
  clear G_9
  have B_10 := hide ((unhide B_7).trans (hs11.below (by omega) (unhide B_7).size))
  clear B_7
  have W_11 := hide ((unhide W_8).spared hs11 (.inl (by omega)) (.inl (by omega)))
  clear W_8
  clear hs11 hc11
  have KG := (unhide G_m).box
  go_wp2_with fail
  refine (heldLay _ l2.length _ _ q (unhide HQ) (Nat.le_trans (unhide HN2) (by decide)) _ (unhide G_m).row).mono ?_
  rintro e w12 ⟨rfl, hb12⟩
  clear KG
  have B_12 := hide ((unhide B_10).trans (hb12.mono (unhide B_10).size))
  clear B_10
  have W_13 := hide ((unhide W_11).below hb12)
  clear W_11
  have G_14 := hide ((unhide G_m).below hb12)
  clear G_m
  clear hb12
  go_wp2_with fail
  refine (ione a0 c l2 (unhide HC) (unhide HL2) _).mono ?_
  rintro e w14 ⟨aH, capH, rfl, o14, hb14⟩
  have B_15 := hide ((unhide B_12).trans (hb14.mono (unhide B_12).size))
  clear B_12
  have W_16 := hide ((unhide W_13).below hb14)
  clear W_13
  have G_17 := hide ((unhide G_14).below hb14)
  clear G_14
  have H_0 := hide (LayIn.laid (v := .slice aH l2.length capH) o14)
  have B_18 := hide ((unhide B_15).alloc (unhide B_15).size (.cells #[.slice aH l2.length capH] 24))
  clear B_15
  have W_19 := hide ((unhide W_16).alloc (.cells #[.slice aH l2.length capH] 24))
  clear W_16
  have G_20 := hide ((unhide G_17).alloc (.cells #[.slice aH l2.length capH] 24))
  clear G_17
  clear o14 hb14
  have KW := (unhide W_19).box
  have KH := (unhide H_0).box
  go_wp2_with fail
  refine (eqLay aH aW capH capW l2 (Nat.le_trans (unhide HN2) (by decide)) _ (unhide H_0).row.rowV (unhide W_19).row.rowV).mono ?_
  rintro e w15 ⟨rfl, hb15⟩
  clear KW KH
  have B_21 := hide ((unhide B_18).trans (hb15.mono (unhide B_18).size))
  clear B_18
  have W_22 := hide ((unhide W_19).below hb15)
  clear W_19
  have G_23 := hide ((unhide G_20).below hb15)
  clear G_20
  have H_24 := hide ((unhide H_0).below hb15)
  clear H_0
  clear hb15
  have KG := (unhide G_23).box
  go_wp2_with fail
  refine (heldLay _ l2.length _ _ q (unhide HQ) (Nat.le_trans (unhide HN2) (by decide)) _ (unhide G_23).row).mono ?_
  rintro e w16 ⟨rfl, hb16⟩
  clear KG
  have B_25 := hide ((unhide B_21).trans (hb16.mono (unhide B_21).size))
  clear B_21
  have W_26 := hide ((unhide W_22).below hb16)
  clear W_22
  have G_27 := hide ((unhide G_23).below hb16)
  clear G_23
  have H_28 := hide ((unhide H_24).below hb16)
  clear H_24
  clear hb16
  go_wp2_with fail
  go_ret
  exact ⟨rfl, (unhide B_25)⟩

set_option maxRecDepth 100000 in
theorem lifted (os : Os) (started : os.Started) (H : Type) (enc : TypeId × Value → H) :
    ReturnsInHanded {} Try.checked os 3 .any (Rows.fnExactOneLayoutSpec.pre6 enc Try.prog Try.f3 Rows.fnExactOneLayoutRow.domain false) (Rows.fnExactOneLayoutSpec.post enc Try.prog Try.f3 false true false false) := by
  refine returnsInHanded_of_change (C := Try.checked) own started (by kernel_rfl) Try.func3
    (ChangeSpec.witness6 (enc := enc) (C := Try.checked) false ⟨#[], #[.int .i64 0], []⟩ 8 (by kernel_rfl) (by kernel_rfl) (by kernel_rfl) (by kernel_rfl)) ?_
  intro W base args ds gs before hval0 hW hcnd _
  have hval : ∀ (j : Nat) t v, Try.f3.params[j]? = some t → args[j]? = some v → Value.okWide Try.prog W .any base t v := hval0
  have hW' := hW
  obtain ⟨p, q, hA0, hV, rfl, hfz, hnd⟩ := hW
  have hA : DataW.TrodAll enc Try.prog W 0 (fun _ => true) true Try.f3.params.toList args.toList ds p := hA0
  rw [Try.params3] at hA hval
  obtain ⟨v0, vs0, d0, ds0, p0, q0, hargs, rfl, rfl, h0, r0⟩ := trodAll_cons hA
  obtain ⟨rfl, rfl, rfl⟩ := trodAll_nil r0
  obtain rfl : args = #[v0] := by cases args; simp_all
  obtain ⟨rfl, rfl⟩ := trodVars_none hV
  obtain ⟨a0, rfl, rfl, rfl, w0⟩ := open_int Try.underlying3 (hval 0 3 v0 rfl rfl) h0
  clear hA0 hval0
  simp only [List.append_nil] at hW'
  refine (walk a0 w0 W).mono fun e W' ⟨he, hg⟩ => ?_
  subst he
  exact ⟨_, rfl, _, _, _, [], _, [], hW', (trodAll_cons_mk (shut_bool Try.underlying4 _) trodAll_mk0), (trodAll_cons_mk (shut_int Try.underlying3 w0) trodAll_mk0), rfl, hg.frame _, fun h => by cases h⟩

theorem over : Rows.fnExactOneLayoutRow.holds Try.pinned (OpenSpec.ofChange Rows.fnExactOneLayoutSpec) :=
  OpenClaim.holds_of_wide 3 Try.f3 rfl rfl rfl rfl rfl rfl rfl ⟨rfl, rfl, rfl, rfl, rfl⟩ rfl rfl rfl rfl rfl (by kernel_rfl) Try.func3 (by kernel_rfl)
    (of_decide_eq_true (by kernel_rfl)) (by unfold Func.isWrapper; first | (rw [if_pos (by decide +kernel)]; kernel_rfl) | (rw [if_neg (by decide +kernel)]; exact ⟨rfl, rfl⟩))
    (fun os started H enc _ => lifted os started H enc)

theorem proved : Rows.FnExactOneLayoutSaid :=
  over
#print axioms proved
end Go.Proofs.Ytnlmidddigfnnaa
