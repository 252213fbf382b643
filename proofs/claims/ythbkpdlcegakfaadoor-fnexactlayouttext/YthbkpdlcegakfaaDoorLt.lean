/- At every argument that can be read, with the listed variables as the program text lays them, the law FnExactLayoutText returns true and leaves its arguments as they were: the tied card. -/
import Derived.Test.YthbkpdlcegakfaaDoorCards
import Derived.Test.YthbkpdlcegakfaaDoorTie
import Derived.Test.YthbkpdlcegakfaaDoorTxAll
import Derived.Test.YthbkpdlcegakfaaDoorAggL
import Derived.Deep.Strs
import Derived.WalkKit
import Derived.ProofKit
import Derived.OpenShut
import Derived.ShutString
import Derived.ChangeOld
import Derived.Below
import Derived.OpenVars
import Derived.LaidMore
import Derived.Lay
import Derived.Stop.Joined
namespace Go.Proofs.YthbkpdlcegakfaaDoor
open Go.ChangeShapes Go.WideShapes Go.ChangeAt Go.RowKit
open Go.ChangeMaps (open_string shut_string)
set_option linter.unusedVariables false

set_option maxHeartbeats 4000000 in
set_option maxRecDepth 100000 in
theorem walk (w : World) (a : Option Addr) (len cap : Nat) (l : List Pt) (el : l.length = len) (ml : len ≤ maxLen) (rl : RowV w a (cPt l)) (a1 : Int) (w1 : (Lit.int .i64 a1).wf = true) (a2 : Int) (w2 : (Lit.int .i64 a2).wf = true) (hT : PowIn w) :
    Calls Tryd.prog 3 #[.agg #[.slice a len cap], .int .i64 a1, .int .i64 a2] w fun e w' => e = .returned (.bool true) ∧ Below w.heap.size w w' := by
  subst el
  have HR := hide rl
  clear rl
  obtain ⟨c, ec⟩ : ∃ x, x = ltC l a1 a2 := ⟨_, rfl⟩
  obtain ⟨T, eT⟩ : ∃ x, x = ltT l a1 a2 := ⟨_, rfl⟩
  have nT : (T.toList != T.toList) = false := by simp
  have HC := hide ec
  have HT := hide eT
  have HE := hide hT
  have HG := hide hT.pos
  clear ec eT hT
  have nc : (c != c) = false := by simp
  obtain ⟨p, hp⟩ : ∃ p : Int, p = ((1 + l.length * 5 : Nat) : Int) := ⟨_, rfl⟩
  have p0 : 0 < p := by omega
  have p1 : ¬ p < 0 := by omega
  have HPP := hide hp
  clear hp
  have B_0 := hide ((Below.refl w.heap.size w).alloc (Nat.le_refl _) (.cells #[.slice a l.length cap] 24))
  have A_0 := hide (BF.new w #[.slice a l.length cap] 24)
  go_enter Tryd.func3, Tryd.ntmps3
  go_wp2_with fail
  refine (szLay a cap l.length 1048576 (by decide) ml _).mono ?_
  rintro e w1 ⟨x, rfl, hb1, hx⟩
  clear ml
  have A_1 := hide ((unhide A_0).below hb1)
  clear A_0
  have B_2 := hide ((unhide B_0).trans (hb1.mono (unhide B_0).size))
  clear B_0
  clear hb1
  rcases hx with rfl | ⟨z, rfl, hz, hl⟩
  · go_wp2_with fail
    go_ret
    exact ⟨rfl, (unhide B_2)⟩
  have HL := hide hl
  have hx3 : ¬ (z : Int) < 0 := by omega
  clear hl hz
  have KA := (unhide A_1).S
  go_wp2_with fail
  refine (toLay a cap l (unhide HL) _ ((unhide HR).below (unhide B_2))).mono ?_
  rintro e w2 ⟨g2, rfl, o2, hb2⟩
  clear KA
  have A_3 := hide ((unhide A_1).below hb2)
  clear A_1
  have B_4 := hide ((unhide B_2).trans (hb2.mono (unhide B_2).size))
  clear B_2
  have HO2 := hide (rowZ_at o2)
  clear o2 hb2
  go_wp2_with fail
  refine (sltext _ _ l.length l rfl (unhide HL) a1 a2 c T HC HT _ (unhide HO2)).mono ?_
  rintro e w3 ⟨rfl, hb3⟩
  have A_5 := hide ((unhide A_3).below hb3)
  clear A_3
  have B_6 := hide ((unhide B_4).trans (hb3.mono (unhide B_4).size))
  clear B_4
  clear hb3 HO2
  have z3 : w.heap.size < w3.heap.size := by have := (unhide A_5).lt; (try simp at this); omega
  have KA := (unhide A_5).S
  go_wp2_with fail
  refine (toLay a cap l (unhide HL) _ ((unhide HR).below (unhide B_6))).mono ?_
  rintro e w4 ⟨gx, rfl, o4, hb4⟩
  clear KA
  have A_7 := hide ((unhide A_5).below hb4)
  clear A_5
  have B_8 := hide ((unhide B_6).trans (hb4.mono (unhide B_6).size))
  clear B_6
  have X_0 := hide (LayIn.laid (v := .slice (some ⟨gx, 0, none⟩) l.length l.length) o4)
  have A_9 := hide ((unhide A_7).alloc (.cells #[.slice (some ⟨gx, 0, none⟩) l.length l.length] 30))
  clear A_7
  have B_10 := hide ((unhide B_8).alloc (unhide B_8).size (.cells #[.slice (some ⟨gx, 0, none⟩) l.length l.length] 30))
  clear B_8
  have HO4 := hide (rowZ_at (o4.alloc (.cells #[.slice (some ⟨gx, 0, none⟩) l.length l.length] 30)))
  have z34 : w3.heap.size ≤ w4.heap.size := by have := hb4.size; (try simp at this); omega
  clear o4 hb4
  have KX := (unhide X_0).box
  go_wp2_with fail
  refine (iltext _ _ l.length l rfl (unhide HL) a1 a2 c T HC HT _ (unhide HO4) ((unhide HE).below (unhide B_10) (unhide HG)) (Nat.lt_of_lt_of_le (unhide HG) (unhide B_10).size)).mono ?_
  rintro e w5 ⟨rfl, hb5⟩
  clear KX
  have A_11 := hide ((unhide A_9).below hb5)
  clear A_9
  have B_12 := hide ((unhide B_10).trans (hb5.mono (unhide B_10).size))
  clear B_10
  have X_13 := hide ((unhide X_0).below hb5)
  clear X_0
  have z45 : w4.heap.size + 1 ≤ w5.heap.size := by have := hb5.size; (try simp at this); omega
  clear hb5 HO4
  have K6 := And.intro (unhide A_11).S (unhide X_13).box
  have HU6 := hide (unhide X_13).row.rowV
  have LX : w4.heap.size < w5.heap.size := (unhide X_13).lt
  go_wp2_with fail
  go_region_held3 (fun w' => (∀ o, w'.cell? ⟨w.heap.size, o, none⟩ = (#[.slice a l.length cap] : Array Value)[o]?) ∧ (∀ o, w'.cell? ⟨w4.heap.size, o, none⟩ = (#[.slice (some ⟨gx, 0, none⟩) l.length l.length] : Array Value)[o]?)) (first | exact K6 | exact K7 | exact K8) (first | (go_at_call 6; refine (toLay a cap l (unhide HL) _ ((unhide HR).below (unhide B_12).drew)).mono ?_; rintro e w7 ⟨g7, rfl, o7, hb7⟩; have A7 := hide ((unhide A_11).drew.below hb7); have K7 := And.intro (unhide A7).S (fun o => (hb7.cell (p := ⟨w4.heap.size, o, none⟩) LX).trans (K6.2 o)); have HO7 := hide (rowZ_at o7); have HU7 := hide ((unhide HU6).below (below_undrew hb7)); have HT7 := hide (below_undrew hb7); have LX7 : w4.heap.size < w7.heap.size := Nat.lt_of_lt_of_le LX (unhide HT7).size; clear o7 hb7) | (go_at_call 8; refine (eqLay _ _ _ _ l (unhide HL) _ (unhide HU7) (unhide HO7)).mono ?_; rintro e w8 ⟨rfl, hb8⟩; have A8 := hide ((unhide A7).below hb8); have K8 := And.intro (unhide A8).S (fun o => (hb8.cell (p := ⟨w4.heap.size, o, none⟩) LX7).trans (K7.2 o)); have HT8 := hide ((unhide HT7).trans (hb8.mono (unhide HT7).size)); clear hb8))
  clear K6 K7 K8 A7 A8 HO7 HU6 HU7 HT7 LX LX7
  have A_14 := hide ((unhide A_11).below (unhide HT8))
  clear A_11
  have B_15 := hide ((unhide B_12).trans ((unhide HT8).mono (unhide B_12).size))
  clear B_12
  have X_16 := hide ((unhide X_13).below (unhide HT8))
  clear X_13
  clear HT8
  go_wp2_with fail
  go_ret
  exact ⟨rfl, (unhide B_15)⟩

theorem own : ownKnob Tryd.prog.godebug = none := by kernel_rfl
theorem laidOut : laidOutB Tryd.prog = true := by kernel_rfl
theorem door_met (os : Os) (args : Array Value) : laidMetH Tryd.prog Rows.fnExactLayoutTextRow.laid ((World.doorLaid Tryd.prog 24 os).forCall (fun _ _ => 0) ⟨#[], args, []⟩).memory :=
  laidMetH_of_parts3 (fuel := 8) (laidMet_of_run' 8 (by kernel_rfl) (by kernel_rfl)) (by kernel_rfl) (by kernel_rfl)
set_option maxRecDepth 100000 in
theorem lifted (os : Os) (started : os.Started) (H : Type) (enc : TypeId × Value → H) :
    ReturnsInHanded {} Tryd.checked os 3 .any (fun w args => (Rows.fnExactLayoutTextSpec.pre enc Tryd.prog Tryd.f3 [] false w args ∧ laidMetH Tryd.prog Rows.fnExactLayoutTextRow.laid w) ∧ sizedMet enc Tryd.prog Tryd.f3 (OpenSpec.ofChange Rows.fnExactLayoutTextSpec) false w args)
      (Rows.fnExactLayoutTextSpec.post enc Tryd.prog Tryd.f3 false true false false) := by
  refine returnsInHanded_of_change_and (C := Tryd.checked) (X := fun w _ => laidMetH Tryd.prog Rows.fnExactLayoutTextRow.laid w) (fun _ _ _ hh h => h.of_heap hh) own started (by kernel_rfl) Tryd.func3
    (ChangeSpec.witness_shaped (enc := enc) (C := Tryd.checked) (os := os) (X := fun w _ => laidMetH Tryd.prog Rows.fnExactLayoutTextRow.laid w) false (World.doorLaid Tryd.prog 24 os) #[.agg #[.slice none 0 0], .int .i64 0, .int .i64 0] 8 rfl (World.shaped_of_RefB (by kernel_rfl) (by kernel_rfl)) (by kernel_rfl) (by kernel_rfl) (by kernel_rfl) (door_met os _)) ?_
  intro W base args ds gs before hval0 hW _ _ hL _
  have hval : ∀ (j : Nat) t v, Tryd.f3.params[j]? = some t → args[j]? = some v → Value.okWide Tryd.prog W .any base t v := hval0
  have hW' := hW
  obtain ⟨p, q, hA0, hV, rfl, hfz, hnd⟩ := hW
  have hA : DataW.TrodAll enc Tryd.prog W 0 (fun _ => true) true Tryd.f3.params.toList args.toList ds p := hA0
  rw [Tryd.params3] at hA hval
  obtain ⟨v0, vs0, d0, ds0, p0, q0, hargs, rfl, rfl, h0, r0⟩ := trodAll_cons hA
  obtain ⟨v1, vs1, d1, ds1, p1, q1, rfl, rfl, rfl, h1, r1⟩ := trodAll_cons r0
  obtain ⟨v2, vs2, d2, ds2, p2, q2, rfl, rfl, rfl, h2, r2⟩ := trodAll_cons r1
  obtain ⟨rfl, rfl, rfl⟩ := trodAll_nil r2
  obtain rfl : args = #[v0, v1, v2] := by cases args; simp_all
  obtain ⟨rfl, rfl⟩ := trodVars_none hV
  have k0 := h0
  have lt0 : ∀ x ∈ p0, x.block < W.heap.size := by obtain ⟨m, hm⟩ := k0; exact DataW.trod_lt m _ _ _ hm
  have k1 := h1
  have lt1 : ∀ x ∈ p1, x.block < W.heap.size := by obtain ⟨m, hm⟩ := k1; exact DataW.trod_lt m _ _ _ hm
  have k2 := h2
  have lt2 : ∀ x ∈ p2, x.block < W.heap.size := by obtain ⟨m, hm⟩ := k2; exact DataW.trod_lt m _ _ _ hm
  obtain ⟨c0, u0, n0, rfl, z0⟩ := open_agg1 Tryd.underlying24 (by kernel_rfl) (by kernel_rfl) (hval 0 24 v0 rfl rfl) h0
  obtain ⟨a, len, cap, l, rfl, el, ml, rl⟩ := parts_field Tryd.underlying22 Tryd.underlying54 (by kernel_rfl) rfl rfl rfl rfl rfl (by kernel_rfl) (by kernel_rfl) (by kernel_rfl) (by kernel_rfl) (by kernel_rfl) Tryd.underlying3 Tryd.underlying4 Tryd.underlying3 Tryd.underlying3 Tryd.underlying3 z0
  obtain ⟨a1, rfl, rfl, rfl, w1⟩ := open_int Tryd.underlying3 (hval 1 3 v1 rfl rfl) h1
  obtain ⟨a2, rfl, rfl, rfl, w2⟩ := open_int Tryd.underlying3 (hval 2 3 v2 rfl rfl) h2
  have hT := lt_laid hL
  clear hA0 hval0
  refine (walk W a len cap l el ml rl a1 w1 a2 w2 hT).mono fun e W' ⟨he, bel⟩ => ?_
  subst he
  exact ⟨_, rfl, _, _, _, [], _, [], hW', trodAll_mk1 (shut_bool Tryd.underlying4 _), (trodAll_cons_mk (Below.trod laidOut (by kernel_rfl) (of_decide_eq_true (by kernel_rfl)) k0 bel lt0) (trodAll_cons_mk (Below.trod laidOut (by kernel_rfl) (of_decide_eq_true (by kernel_rfl)) k1 bel lt1) (trodAll_cons_mk (Below.trod laidOut (by kernel_rfl) (of_decide_eq_true (by kernel_rfl)) k2 bel lt2) trodAll_mk0))), rfl, bel.frame _, fun h => by cases h⟩

theorem said : Rows.FnExactLayoutTextSaid :=
  OpenClaim.holds_of_wide 3 Tryd.f3 rfl rfl rfl rfl rfl rfl rfl ⟨rfl, rfl, rfl, rfl, rfl⟩ rfl rfl rfl rfl rfl (by kernel_rfl) Tryd.func3 (by kernel_rfl)
    (of_decide_eq_true (by kernel_rfl)) (by unfold Func.isWrapper; first | (rw [if_pos (by decide +kernel)]; kernel_rfl) | (rw [if_neg (by decide +kernel)]; exact ⟨rfl, rfl⟩))
    (fun os started H enc _ => lifted os started H enc)

theorem card : Rows.FnExactLayoutTextCardSaid :=
  Claim7.holds_tied_plain_at .later [] _ _ _ _ said (fun _ h => by cases h) (by kernel_rfl) (fun _ h => by cases h) fnExactLayoutText_row_tie rfl ⟨rfl, rfl⟩ (by kernel_rfl) rfl
    (fun f fn hf hfn => by
      obtain rfl : f = 3 := Option.some.inj ((show Tryd.prog.funcNamed Tryd.f3.name = some 3 by kernel_rfl).symm.trans hf) |>.symm
      obtain rfl : fn = Tryd.f3 := (Option.some.inj (Tryd.func3.symm.trans hfn)).symm
      exact ⟨by kernel_rfl, fun j t ht => by
        rw [Tryd.params3] at ht
        have hm : t ∈ [24, 3, 3] := by simpa using Array.mem_of_getElem? ht
        have hall : ([24, 3, 3].all fun u => !Tryd.prog.wantsStandIn u) = true := by kernel_rfl
        exact (show Tryd.prog.wantsStandIn t = false by simpa using List.all_eq_true.1 hall t hm)⟩)
    (by kernel_rfl)
#print axioms card
end Go.Proofs.YthbkpdlcegakfaaDoor
