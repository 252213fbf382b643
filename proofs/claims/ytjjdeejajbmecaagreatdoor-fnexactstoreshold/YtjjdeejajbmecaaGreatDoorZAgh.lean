/- At every argument that can be read, with the listed variables as the program text lays them, the law FnExactStoresHold returns true and leaves its arguments as they were: the tied card. -/
import Derived.Test.YtjjdeejajbmecaaGreatDoorCards
import Derived.Test.YtjjdeejajbmecaaGreatDoorTie
import Derived.Test.YtjjdeejajbmecaaGreatDoorZG48
import Derived.WalkKit
import Derived.ProofKit
import Derived.OpenShut
import Derived.ShutString
import Derived.ChangeOld
import Derived.Below
import Derived.OpenVars
import Derived.LaidMore
import Derived.Lay
import Derived.Stop.Joined
namespace Go.Proofs.YtjjdeejajbmecaaGreatDoor
open Go.ChangeShapes Go.WideShapes Go.ChangeAt Go.RowKit
open Go.ChangeMaps (open_string shut_string)
set_option linter.unusedVariables false

set_option maxHeartbeats 4000000 in
set_option maxRecDepth 100000 in
theorem walk (w : World) (nv sv wv dv : Value) (c : Clu) (HF : c.fits maxLen) (HR : CluR w nv sv wv dv c) (hT : Errs9 w) :
  Calls Tryz.prog 3 #[.agg #[nv, sv, wv, dv]] w fun e w' => e = .returned (.bool true) ∧ Below w.heap.size w w' := by
 have HE := hide hT
 have HRR := hide HR
 have HFF := hide HF
 clear hT HR HF
 have B0 := hide (Go.Joins.below_alloc1 w (.cells #[nv, sv, wv, dv] 27))
 have A0 := hide (BF.new w #[nv, sv, wv, dv] 27)
 have kA := (unhide A0).S
 go_enter Tryz.func3, Tryz.ntmps3
 go_wp2_with fail
 refine (szClu nv sv wv dv c HFF _ ((unhide HRR).below (unhide B0))).mono ?_
 rintro e w1 ⟨x, rfl, hb, hx⟩
 have B1 := hide ((unhide B0).trans (hb.mono (unhide B0).size))
 have A1 := hide ((unhide A0).below hb)
 clear hb B0 A0 kA
 rcases hx with rfl | ⟨z, rfl, hz⟩
 ·go_wp2_with fail
  go_ret
  exact ⟨rfl, unhide B1⟩
 have HZ := hide hz
 clear hz
 have hz0 : ¬ (z : Int) < 0 := by omega
 have kA := (unhide A1).S
 go_wp2_with fail
 refine (toClu nv sv wv dv c HZ _ ((unhide HRR).below (unhide B1))).mono ?_
 rintro e w2 ⟨nv2, sv2, wv2, dv2, c2, rfl, hs2, hf2, hb⟩
 have B2 := hide ((unhide B1).trans (hb.mono (unhide B1).size))
 have A2 := hide ((unhide A1).below hb)
 clear hb B1 A1 kA 
 have HS2 := hide hs2
 have R2 := hide (CluR.of_own hf2)
 obtain ⟨B, hB⟩ : ∃ B, B = cluB c.nds c.sts c.wire c.done := ⟨_, rfl⟩
 obtain ⟨A, hA⟩ : ∃ A, A = holdsB c.nds c.done := ⟨_, rfl⟩
 obtain ⟨X, hX⟩ : ∃ X, X = (B && A) := ⟨_, rfl⟩
 obtain ⟨Y, hY⟩ : ∃ Y : Int, Y = (if B then 0 else 1) := ⟨_, rfl⟩
 have HB := hide hB
 have HA := hide hA
 have HX := hide hX
 have HY := hide hY
 have HB2 : Hid (B = cluB c2.nds c2.sts c2.wire c2.done) := by show _ = _; rw [unhide HB]; exact cluB_same hs2
 have HA2 : Hid (A = holdsB c2.nds c2.done) := by show _ = _; rw [unhide HA]; exact holds_same hs2
 clear hB hA hX hY
 have HF2 := hide (fits_same hs2 (unhide HZ))
 clear hs2 hf2
 have kA := (unhide A2).S
 go_wp2_with fail
 refine (sstoresHold nv2 sv2 wv2 dv2 c2 HF2 B A HB2 HA2 _ (unhide R2)).mono ?_
 rintro e w3 ⟨rfl, hb⟩
 have B3 := hide ((unhide B2).trans (hb.mono (unhide B2).size))
 have A3 := hide ((unhide A2).below hb)
 clear hb B2 A2 kA 
 rw [← unhide HX, ← unhide HY]
 clear R2 HS2 HF2 HB2 HA2
 have kA := (unhide A3).S
 go_wp2_with fail
 refine (toClu nv sv wv dv c HZ _ ((unhide HRR).below (unhide B3))).mono ?_
 rintro e w4 ⟨nv4, sv4, wv4, dv4, c4, rfl, hs4, hf4, hb⟩
 have B4 := hide ((unhide B3).trans (hb.mono (unhide B3).size))
 have A4 := hide ((unhide A3).below hb)
 clear hb B3 A3 kA 
 obtain ⟨n4, kn4, s4, ks4, m4, km4, d4, kd4, rfl, rfl, rfl, rfl, -⟩ := (CluR.of_own hf4).parts
 have HS4 := hide hs4
 have CP4 := hide (Clu.caps_of hf4)
 have R4 := hide ((CluR.of_own hf4).below (Go.Joins.below_alloc1 w4 (Obj.cells #[.slice n4 c4.nds.length kn4, .slice s4 c4.sts.length ks4, .slice m4 c4.wire.length km4, .slice d4 c4.done.length kd4] 35)))
 have HB4 : Hid (B = cluB c4.nds c4.sts c4.wire c4.done) := by show _ = _; rw [unhide HB]; exact cluB_same hs4
 have HA4 : Hid (A = holdsB c4.nds c4.done) := by show _ = _; rw [unhide HA]; exact holds_same hs4
 have HF4 := hide (fits_same hs4 (unhide HZ))
 have V4 := hide (Go.Joins.below_alloc1 w4 (Obj.cells #[.slice n4 c4.nds.length kn4, .slice s4 c4.sts.length ks4, .slice m4 c4.wire.length km4, .slice d4 c4.done.length kd4] 35))
 have B5 := hide ((unhide B4).trans ((unhide V4).mono (unhide B4).size))
 have A5 := hide ((unhide A4).below (unhide V4))
 have X5 := hide (BF.new w4 #[.slice n4 c4.nds.length kn4, .slice s4 c4.sts.length ks4, .slice m4 c4.wire.length km4, .slice d4 c4.done.length kd4] 35)
 clear hs4 hf4 B4 V4
 have kA := (unhide A5).S
 have kX := (unhide X5).S
 clear A4
 go_wp2_with fail
 refine (istoresHold _ _ _ _ c4 HF4 (unhide CP4) B A HB4 HA4 _ ((unhide HE).below (unhide B5)) (unhide R4)).mono ?_
 rintro e w6 ⟨rfl, hb⟩
 rw [← unhide HX, ← unhide HY]
 have B6 := hide ((unhide B5).trans (hb.mono (unhide B5).size))
 have A6 := hide ((unhide A5).below hb)
 have X6 := hide ((unhide X5).below hb)
 have R6 := hide ((unhide R4).below hb)
 clear hb B5 A5 X5 R4 kA kX HB4 HA4 CP4
 have nX : (X != X) = false := by simp
 have nY : (Y != Y) = false := by simp
 go_wp2_with fail
 obtain ⟨xb, hxb⟩ : ∃ xb, xb = w4.heap.size := ⟨_, rfl⟩
 rw [← hxb] at X6 ⊢
 clear hxb
 have SK : Hid (∀ w2, Below w6.heap.size w6 w2 → (fun w' => (∀ o, w'.cell? ⟨w.heap.size, o, none⟩ = (#[nv, sv, wv, dv] : Array Value)[o]?) ∧ (∀ o, w'.cell? ⟨xb, o, none⟩ = (#[.slice n4 c4.nds.length kn4, .slice s4 c4.sts.length ks4, .slice m4 c4.wire.length km4, .slice d4 c4.done.length kd4] : Array Value)[o]?)) w2) := fun w2 hb => ⟨((unhide A6).below hb).S, ((unhide X6).below hb).S⟩
 have TD : Hid (Below w6.heap.size w6 w6.drew) := (Below.refl _ _).drew
 refine wp_region_held_drew (S := fun w' => (∀ o, w'.cell? ⟨w.heap.size, o, none⟩ = (#[nv, sv, wv, dv] : Array Value)[o]?) ∧ (∀ o, w'.cell? ⟨xb, o, none⟩ = (#[.slice n4 c4.nds.length kn4, .slice s4 c4.sts.length ks4, .slice m4 c4.wire.length km4, .slice d4 c4.done.length kd4] : Array Value)[o]?)) (by kernel_rfl) (unhide SK _ (unhide TD)) (fun hHeld => ?_)
 generalize w6.drew = wd at TD hHeld ⊢
 refine wtv 0 (oi := { dst := some 35, op := .load 35 (.tmp 6), type := 35, pos := "exact.go:5650", after := #[], guard := none }) ?_
 refine wtv 1 (oi := { dst := some 36, op := .load 27 (.tmp 1), type := 27, pos := "exact.go:5650", after := #[], guard := none }) ?_
 refine wpAnyH_ready (rs := [2]) (by kernel_rfl) (by simp) ?_
 refine AllReadyH.cons (o := { dst := some 37, op := .call { callee := .value (.func 6), args := #[.tmp 36], argTypes := #[27] }, type := 35, pos := "exact.go:5650", after := #[{ on := 1, ground := .data }], guard := none }) rfl (fun K hK => ?_) AllReadyH.nil
 go_simp
 refine (toClu nv sv wv dv c HZ _ ((unhide HRR).below ((unhide B6).trans ((unhide TD).mono (unhide B6).size)))).mono ?_
 rintro e w7 ⟨nv7, sv7, wv7, dv7, c7, rfl, hs7, hf7, hb⟩
 have T7 := hide ((unhide TD).trans (hb.mono (unhide TD).size))
 have R7 := hide (CluR.of_own hf7)
 have HS7 := hide (Clu.same_trans (Clu.same_symm (unhide HS4)) hs7)
 clear hb hs7 hf7
 go_wp2_with fail
 refine hK.out _ _ ?_ (fun hHeld2 => ?_)
 ·exact unhide SK _ (unhide T7)
 clear hK K
 try simp only [Act.put, qqA, qqB, qqC]
 refine wpAnyH_ready (rs := [3]) (by kernel_rfl) (by simp) ?_
 refine AllReadyH.cons (o := { dst := some 38, op := .call { callee := .value (.func 8), args := #[.tmp 35, .tmp 37], argTypes := #[35, 35] }, type := 4, pos := "exact.go:5650", after := #[{ on := 0, ground := .data }, { on := 2, ground := .data }, { on := 2, ground := .chain }], guard := none }) rfl (fun K hK => ?_) AllReadyH.nil
 go_simp
 refine (eqClu _ _ _ _ nv7 sv7 wv7 dv7 c4 c7 HF4 HS7 _ ((unhide R6).below (unhide T7)) (unhide R7)).mono ?_
 rintro e w8 ⟨rfl, hb⟩
 have T8 := hide ((unhide T7).trans (hb.mono (unhide T7).size))
 clear hb
 go_wp2_with fail
 refine hK.out _ _ ?_ (fun hHeld3 => ?_)
 ·exact unhide SK _ (unhide T8)
 clear hK K
 try simp only [Act.put, qqA, qqB, qqC]
 refine wtv 4 (oi := { dst := some 39, op := .unOp .not 4 (.tmp 38), type := 4, pos := "exact.go:5650", after := #[{ on := 3, ground := .data }], guard := none }) ?_
 refine wpAnyH_done (by kernel_rfl) ?_ _
 have B9 := hide ((unhide B6).trans ((unhide T8).mono (unhide B6).size))
 clear SK TD T7 T8 hHeld hHeld2 hHeld3 B6 A6 X6 R6 R7
 go_wp2_with fail
 go_ret
 exact ⟨rfl, unhide B9⟩

theorem own : ownKnob Tryz.prog.godebug = none := by kernel_rfl
theorem laidOut : laidOutB Tryz.prog = true := by kernel_rfl
theorem door_met (os : Os) (args : Array Value) : laidMetH Tryz.prog Rows.fnExactStoresHoldRow.laid ((World.doorLaid Tryz.prog 187 os).forCall (fun _ _ => 0) ⟨#[], args, []⟩).memory :=
 laidMetH_of_parts3 (fuel := 8) (laidMet_of_run' 8 (by kernel_rfl) (by kernel_rfl)) (by kernel_rfl) (by kernel_rfl)
set_option maxRecDepth 100000 in
theorem lifted (os : Os) (started : os.Started) (H : Type) (enc : TypeId × Value → H) :
  ReturnsInHanded {} Tryz.checked os 3 .any (fun w args => (Rows.fnExactStoresHoldSpec.pre enc Tryz.prog Tryz.f3 [] false w args ∧ laidMetH Tryz.prog Rows.fnExactStoresHoldRow.laid w) ∧ sizedMet enc Tryz.prog Tryz.f3 (OpenSpec.ofChange Rows.fnExactStoresHoldSpec) false w args)
   (Rows.fnExactStoresHoldSpec.post enc Tryz.prog Tryz.f3 false true false false) := by
 refine returnsInHanded_of_change_and (C := Tryz.checked) (X := fun w _ => laidMetH Tryz.prog Rows.fnExactStoresHoldRow.laid w) (fun _ _ _ hh h => h.of_heap hh) own started (by kernel_rfl) Tryz.func3
  (ChangeSpec.witness_shaped (enc := enc) (C := Tryz.checked) (os := os) (X := fun w _ => laidMetH Tryz.prog Rows.fnExactStoresHoldRow.laid w) false (World.doorLaid Tryz.prog 187 os) #[.agg #[.slice none 0 0, .slice none 0 0, .slice none 0 0, .slice none 0 0]] 8 rfl (World.shaped_of_RefB (by kernel_rfl) (by kernel_rfl)) (by kernel_rfl) (by kernel_rfl) (by kernel_rfl) (door_met os _)) ?_
 intro W base args ds gs before hval0 hW _ _ hL _
 have hval : ∀ (j : Nat) t v, Tryz.f3.params[j]? = some t → args[j]? = some v → Value.okWide Tryz.prog W .any base t v := hval0
 have hW' := hW
 obtain ⟨p, q, hA0, hV, rfl, hfz, hnd⟩ := hW
 have hA : DataW.TrodAll enc Tryz.prog W 0 (fun _ => true) true Tryz.f3.params.toList args.toList ds p := hA0
 rw [Tryz.params3] at hA hval
 obtain ⟨v0, vs0, d0, ds0, p0, q0, hargs, rfl, rfl, h0, r0⟩ := trodAll_cons hA
 obtain ⟨rfl, rfl, rfl⟩ := trodAll_nil r0
 obtain rfl : args = #[v0] := by cases args; simp_all
 obtain ⟨g1, g2, g3, g4, g5, g6, g7, g8, g9, rfl⟩ : ∃ d1x d2x d3x d4x d5x d6x d7x d8x d9x, gs = [d1x, d2x, d3x, d4x, d5x, d6x, d7x, d8x, d9x] := vars_len9 hV
 have k0 := h0
 have lt0 : ∀ x ∈ p0, x.block < W.heap.size := by obtain ⟨m, hm⟩ := k0; exact DataW.trod_lt m _ _ _ hm
 obtain ⟨nv, sv, wv, dv, c, rfl, HF, HR⟩ := open_clu (hval 0 27 v0 rfl rfl) h0
 have hT := errs_laidStoresHold hL
 clear hA0 hval0
 refine (walk W nv sv wv dv c HF HR hT).mono fun e W' ⟨he, bel⟩ => ?_
 subst he
 exact ⟨_, rfl, _, _, _, [], _, _, hW', trodAll_mk1 (shut_bool Tryz.underlying4 _), (trodAll_cons_mk (Below.trod laidOut (by kernel_rfl) (of_decide_eq_true (by kernel_rfl)) k0 bel lt0) trodAll_mk0), Below.trodVars laidOut bel (by kernel_rfl) hV, bel.frame _, fun h => by cases h⟩

theorem said : Rows.FnExactStoresHoldSaid :=
 OpenClaim.holds_of_wide 3 Tryz.f3 rfl rfl rfl rfl rfl rfl rfl ⟨rfl, rfl, rfl, rfl, rfl⟩ rfl rfl rfl rfl rfl (by kernel_rfl) Tryz.func3 (by kernel_rfl)
  (of_decide_eq_true (by kernel_rfl)) (by unfold Func.isWrapper; first | (rw [if_pos (by decide +kernel)]; kernel_rfl) | (rw [if_neg (by decide +kernel)]; exact ⟨rfl, rfl⟩))
  (fun os started H enc _ => lifted os started H enc)

theorem card : Rows.FnExactStoresHoldCardSaid :=
 Claim7.holds_tied_plain_at .later [] _ _ _ _ said (fun _ h => by cases h) (by kernel_rfl) (fun _ h => by cases h) fnExactStoresHold_row_tie rfl ⟨rfl, rfl⟩ (by kernel_rfl) rfl
  (fun f fn hf hfn => by
   obtain rfl : f = 3 := Option.some.inj ((show Tryz.prog.funcNamed Tryz.f3.name = some 3 by kernel_rfl).symm.trans hf) |>.symm
   obtain rfl : fn = Tryz.f3 := (Option.some.inj (Tryz.func3.symm.trans hfn)).symm
   exact ⟨by kernel_rfl, fun j t ht => by
    rw [Tryz.params3] at ht
    have hm : t ∈ [27] := by simpa using Array.mem_of_getElem? ht
    have hall : ([27].all fun u => !Tryz.prog.wantsStandIn u) = true := by kernel_rfl
    exact (show Tryz.prog.wantsStandIn t = false by simpa using List.all_eq_true.1 hall t hm)⟩)
  (by kernel_rfl)
#print axioms card
end Go.Proofs.YtjjdeejajbmecaaGreatDoor
