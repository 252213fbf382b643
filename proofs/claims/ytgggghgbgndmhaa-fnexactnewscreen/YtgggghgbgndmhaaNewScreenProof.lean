/- At every argument that can be read, the law FnExactNewScreen returns true and leaves its arguments as they were: no condition. -/
import Derived.Test.YtgggghgbgndmhaaNewU
import Derived.WalkKit
import Derived.ProofKit
import Derived.OpenShut
import Derived.ShutString
import Derived.ChangeOld
import Derived.Below
namespace Go.Proofs.Ytgggghgbgndmhaa
open Go.ChangeShapes Go.WideShapes Go.ChangeAt Go.RowKit
open Go.ChangeMaps (open_string shut_string)
set_option linter.unusedVariables false

theorem own : ownKnob Try.prog.godebug = none := by kernel_rfl

set_option maxHeartbeats 2000000 in
set_option maxRecDepth 100000 in
theorem walk (a0 : Int) (a1 : Int) (w0 : (Lit.int .i64 a0).wf = true) (w1 : (Lit.int .i64 a1).wf = true) (w : World) :
    Calls Try.prog 3 #[.int .i64 a0, .int .i64 a1] w fun e w' => e = .returned (.bool true) ∧ Below w.heap.size w w' := by
  obtain ⟨j0, e0⟩ : ∃ x, x = ns a0 a1 a0 := ⟨_, rfl⟩
  obtain ⟨j1, e1⟩ : ∃ x, x = ns a0 a1 a1 := ⟨_, rfl⟩
  obtain ⟨j6, e6⟩ : ∃ x, x = ns a0 a1 (a1 - 1) := ⟨_, rfl⟩
  obtain ⟨c, ec⟩ : ∃ x, x = nsC a0 a1 := ⟨_, rfl⟩
  obtain ⟨l, el⟩ : ∃ x, x = nsL a0 a1 := ⟨_, rfl⟩
  have HN : Hid (l.length ≤ 240) := by show _ ≤ _; rw [el]; exact nsL_le a0 a1
  have HSP := hide (fun w => snewU a0 a1 j0 j1 j6 c l e0 e1 e6 ec el w)
  have HIM := hide (fun w => inewU a0 a1 j0 j1 j6 c l e0 e1 e6 ec el w)
  have nc : (c != c) = false := by simp
  clear e0 e1 e6 ec el
  obtain ⟨q, hq⟩ : ∃ q : Int, q = ((1 + l.length * 2 + 0 : Nat) : Int) := ⟨_, rfl⟩
  have q0 : 0 < q := by omega
  have nq : (q != q) = false := by simp
  have HQ := hide hq
  clear hq
  go_enter Try.func3, Try.ntmps3
  go_wp2_with fail
  refine (unhide HSP _).mono ?_
  rintro e w1 ⟨aw, capw, bw, capbw, rfl, ow1, hw1, hb1⟩
  have IW := hide (ScrIn.laid (sc := #[.int .i64 j0, .int .i64 j1, .int .i64 0, .int .i64 0, .int .i64 0, .int .i64 0, .int .i64 j6, .int .i64 0, .int .i64 0, .string ⟨#[]⟩, .slice aw l.length capw, .slice bw 0 capbw]) ow1 hw1)
  have B1 := hide (hb1.alloc hb1.size (.cells #[.int .i64 j0, .int .i64 j1, .int .i64 0, .int .i64 0, .int .i64 0, .int .i64 0, .int .i64 j6, .int .i64 0, .int .i64 0, .string ⟨#[]⟩, .slice aw l.length capw, .slice bw 0 capbw] 25))
  have L1 := hide hb1.size
  clear ow1 hw1 hb1
  go_wp2_with fail
  refine (unhide HIM _).mono ?_
  rintro e w2 ⟨ag, capg, bg, capbg, rfl, og2, hg2, hb2⟩
  have IG := hide (ScrIn.laid (sc := #[.int .i64 j0, .int .i64 j1, .int .i64 0, .int .i64 0, .int .i64 0, .int .i64 0, .int .i64 j6, .int .i64 0, .int .i64 0, .string ⟨#[]⟩, .slice ag l.length capg, .slice bg 0 capbg]) og2 hg2)
  have IW2 := hide (((unhide IW).below hb2).alloc (.cells #[.int .i64 j0, .int .i64 j1, .int .i64 0, .int .i64 0, .int .i64 0, .int .i64 0, .int .i64 j6, .int .i64 0, .int .i64 0, .string ⟨#[]⟩, .slice ag l.length capg, .slice bg 0 capbg] 25))
  have B2 := hide (((unhide B1).trans (hb2.mono (unhide B1).size)).alloc (Nat.le_trans (unhide B1).size hb2.size) (.cells #[.int .i64 j0, .int .i64 j1, .int .i64 0, .int .i64 0, .int .i64 0, .int .i64 0, .int .i64 j6, .int .i64 0, .int .i64 0, .string ⟨#[]⟩, .slice ag l.length capg, .slice bg 0 capbg] 25))
  have L12 := hide (show w1.heap.size + 1 ≤ w2.heap.size from by have := hb2.size; simp at this; omega)
  clear og2 hg2 hb2 IW B1
  have xw := (unhide IW2).box
  have xg := (unhide IG).box
  go_wp2_with fail
  have hN := unhide HN
  refine (eqScr j0 j1 0 0 0 0 j6 0 0 ⟨#[]⟩ ag aw capg capw l bg bw capbg capbw [] (by omega) (by decide) _ (unhide IG).cells.rowV (unhide IW2).cells.rowV (unhide IG).hist.rowV (unhide IW2).hist.rowV).mono ?_
  rintro e w3 ⟨rfl, hb3⟩
  have IG3 := hide ((unhide IG).below hb3)
  have IW3 := hide ((unhide IW2).below hb3)
  have B3 := hide ((unhide B2).trans (hb3.mono (unhide B2).size))
  clear hb3 IG IW2 B2 xw xg hN
  have xw := (unhide IW3).box
  have xg := (unhide IG3).box
  go_wp2_with fail
  have hN := unhide HN
  have hL1 : w.heap.size ≤ w1.heap.size := unhide L1
  have hL12 := unhide L12
  refine (markScr j0 j1 0 0 0 0 j6 0 0 ⟨#[]⟩ _ _ l.length 0 _ _ q (cP l) (cS []) (unhide HQ) (by omega) (by decide) _ (unhide IG3).cells (unhide IG3).hist).mono ?_
  rintro e w4 ⟨rfl, hc4, hh4, hs4⟩
  have IG4 := hide ((unhide IG3).marked hs4 hc4 hh4)
  have IW4 := hide ((unhide IW3).spared hs4 (.inl (by simp)) (.inl (by simp)))
  have B4 := hide ((unhide B3).trans (hs4.below (by simp; omega) (unhide B3).size))
  clear hc4 hh4 hs4 IG3 IW3 B3 xw xg hN hL1 hL12
  have xw := (unhide IW4).box
  have xg := (unhide IG4).box
  go_wp2_with fail
  have hN := unhide HN
  refine (heldScr j0 j1 0 0 0 0 j6 0 0 ⟨#[]⟩ _ _ l.length 0 _ _ q (unhide HQ) (by omega) (by decide) _ (unhide IG4).cells (unhide IG4).hist).mono ?_
  rintro e w5 ⟨rfl, hb5⟩
  have IG5 := hide ((unhide IG4).below hb5)
  have IW5 := hide ((unhide IW4).below hb5)
  have B5 := hide ((unhide B4).trans (hb5.mono (unhide B4).size))
  clear hb5 IG4 IW4 B4 xw xg hN
  have xw := (unhide IW5).box
  have xg := (unhide IG5).box
  have q1 : ¬ q < 0 := by omega
  go_wp2_with fail
  refine (unhide HIM _).mono ?_
  rintro e w6 ⟨ah, caph, bh, capbh, rfl, oh6, hh6, hb6⟩
  have IH := hide (ScrIn.laid (sc := #[.int .i64 j0, .int .i64 j1, .int .i64 0, .int .i64 0, .int .i64 0, .int .i64 0, .int .i64 j6, .int .i64 0, .int .i64 0, .string ⟨#[]⟩, .slice ah l.length caph, .slice bh 0 capbh]) oh6 hh6)
  have IG6 := hide (((unhide IG5).below hb6).alloc (.cells #[.int .i64 j0, .int .i64 j1, .int .i64 0, .int .i64 0, .int .i64 0, .int .i64 0, .int .i64 j6, .int .i64 0, .int .i64 0, .string ⟨#[]⟩, .slice ah l.length caph, .slice bh 0 capbh] 25))
  have IW6 := hide (((unhide IW5).below hb6).alloc (.cells #[.int .i64 j0, .int .i64 j1, .int .i64 0, .int .i64 0, .int .i64 0, .int .i64 0, .int .i64 j6, .int .i64 0, .int .i64 0, .string ⟨#[]⟩, .slice ah l.length caph, .slice bh 0 capbh] 25))
  have B6 := hide (((unhide B5).trans (hb6.mono (unhide B5).size)).alloc (Nat.le_trans (unhide B5).size hb6.size) (.cells #[.int .i64 j0, .int .i64 j1, .int .i64 0, .int .i64 0, .int .i64 0, .int .i64 0, .int .i64 j6, .int .i64 0, .int .i64 0, .string ⟨#[]⟩, .slice ah l.length caph, .slice bh 0 capbh] 25))
  clear oh6 hh6 hb6 IG5 IW5 B5 xw xg
  have xw := (unhide IW6).box
  have xg := (unhide IG6).box
  have xh := (unhide IH).box
  go_wp2_with fail
  have hN := unhide HN
  refine (eqScr j0 j1 0 0 0 0 j6 0 0 ⟨#[]⟩ ah aw caph capw l bh bw capbh capbw [] (by omega) (by decide) _ (unhide IH).cells.rowV (unhide IW6).cells.rowV (unhide IH).hist.rowV (unhide IW6).hist.rowV).mono ?_
  rintro e w7 ⟨rfl, hb7⟩
  have IG7 := hide ((unhide IG6).below hb7)
  have B7 := hide ((unhide B6).trans (hb7.mono (unhide B6).size))
  clear hb7 IG6 IW6 IH B6 xw xg xh hN
  have xg := (unhide IG7).box
  go_wp2_with fail
  have hN := unhide HN
  refine (heldScr j0 j1 0 0 0 0 j6 0 0 ⟨#[]⟩ _ _ l.length 0 _ _ q (unhide HQ) (by omega) (by decide) _ (unhide IG7).cells (unhide IG7).hist).mono ?_
  rintro e w8 ⟨rfl, hb8⟩
  have B8' := hide ((unhide B7).trans (hb8.mono (unhide B7).size))
  clear hb8 IG7 B7 xg hN
  go_wp2_with fail
  go_ret
  exact ⟨rfl, unhide B8'⟩

set_option maxRecDepth 100000 in
theorem lifted (os : Os) (started : os.Started) (H : Type) (enc : TypeId × Value → H) :
    ReturnsInHanded {} Try.checked os 3 .any (Rows.fnExactNewScreenSpec.pre6 enc Try.prog Try.f3 Rows.fnExactNewScreenRow.domain false) (Rows.fnExactNewScreenSpec.post enc Try.prog Try.f3 false true false false) := by
  refine returnsInHanded_of_change (C := Try.checked) own started (by kernel_rfl) Try.func3
    (ChangeSpec.witness6 (enc := enc) (C := Try.checked) false ⟨#[], #[.int .i64 0, .int .i64 0], []⟩ 8 (by kernel_rfl) (by kernel_rfl) (by kernel_rfl) (by kernel_rfl)) ?_
  intro W base args ds gs before hval0 hW hcnd _
  have hval : ∀ (j : Nat) t v, Try.f3.params[j]? = some t → args[j]? = some v → Value.okWide Try.prog W .any base t v := hval0
  have hW' := hW
  obtain ⟨p, q, hA0, hV, rfl, hfz, hnd⟩ := hW
  have hA : DataW.TrodAll enc Try.prog W 0 (fun _ => true) true Try.f3.params.toList args.toList ds p := hA0
  rw [Try.params3] at hA hval
  obtain ⟨v0, vs0, d0, ds0, p0, q0, hargs, rfl, rfl, h0, r0⟩ := trodAll_cons hA
  obtain ⟨v1, vs1, d1, ds1, p1, q1, rfl, rfl, rfl, h1, r1⟩ := trodAll_cons r0
  obtain ⟨rfl, rfl, rfl⟩ := trodAll_nil r1
  obtain rfl : args = #[v0, v1] := by cases args; simp_all
  obtain ⟨rfl, rfl⟩ := trodVars_none hV
  obtain ⟨a0, rfl, rfl, rfl, w0⟩ := open_int Try.underlying3 (hval 0 3 v0 rfl rfl) h0
  obtain ⟨a1, rfl, rfl, rfl, w1⟩ := open_int Try.underlying3 (hval 1 3 v1 rfl rfl) h1
  clear hA0 hval0
  simp only [List.append_nil] at hW'
  refine (walk a0 a1 w0 w1 W).mono fun e W' ⟨he, hg⟩ => ?_
  subst he
  exact ⟨_, rfl, _, _, _, [], _, [], hW', (trodAll_cons_mk (shut_bool Try.underlying4 _) trodAll_mk0), (trodAll_cons_mk (shut_int Try.underlying3 w0) (trodAll_cons_mk (shut_int Try.underlying3 w1) trodAll_mk0)), rfl, hg.frame _, fun h => by cases h⟩

theorem over : Rows.fnExactNewScreenRow.holds Try.pinned (OpenSpec.ofChange Rows.fnExactNewScreenSpec) :=
  OpenClaim.holds_of_wide 3 Try.f3 rfl rfl rfl rfl rfl rfl rfl ⟨rfl, rfl, rfl, rfl, rfl⟩ rfl rfl rfl rfl rfl (by kernel_rfl) Try.func3 (by kernel_rfl)
    (of_decide_eq_true (by kernel_rfl)) (by unfold Func.isWrapper; first | (rw [if_pos (by decide +kernel)]; kernel_rfl) | (rw [if_neg (by decide +kernel)]; exact ⟨rfl, rfl⟩))
    (fun os started H enc _ => lifted os started H enc)

theorem proved : Rows.FnExactNewScreenSaid :=
  over
#print axioms proved
end Go.Proofs.Ytgggghgbgndmhaa
