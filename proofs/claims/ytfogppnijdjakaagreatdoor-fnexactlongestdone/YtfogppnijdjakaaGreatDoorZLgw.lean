/- At every argument that can be read, with the listed variables as the program text lays them, the law FnExactLongestDone returns true and leaves its arguments as they were: the tied card. -/
import Derived.Test.YtfogppnijdjakaaGreatDoorCards
import Derived.Test.YtfogppnijdjakaaGreatDoorTie
import Derived.Test.YtfogppnijdjakaaGreatDoorZG48
import Derived.Test.YtfogppnijdjakaaGreatDoorZG44
import Derived.WalkKit
import Derived.ProofKit
import Derived.OpenShut
import Derived.ShutString
import Derived.ChangeOld
import Derived.Below
import Derived.OpenVars
import Derived.LaidMore
import Derived.Lay
import Derived.Stop.Joined
namespace Go.Proofs.YtfogppnijdjakaaGreatDoor
open Go.ChangeShapes Go.WideShapes Go.ChangeAt Go.RowKit
open Go.ChangeMaps (open_string shut_string)
set_option linter.unusedVariables false

set_option maxHeartbeats 4000000 in
set_option maxRecDepth 100000 in
theorem walk (w : World) (nv sv wv dv : Value) (c : Clu) (HF : c.fits maxLen) (HR : CluR w nv sv wv dv c) (hT : Errs9 w) :
  Calls Tryz.prog 3 #[.agg #[nv, sv, wv, dv]] w fun e w' => e = .returned (.bool true) ∧ Below w.heap.size w w' := by
 have HE := hide hT
 have HRR := hide HR
 have HFF := hide HF
 clear hT HR HF
 have B0 := hide (Go.Joins.below_alloc1 w (.cells #[nv, sv, wv, dv] 27))
 have A0 := hide (BF.new w #[nv, sv, wv, dv] 27)
 have kA := (unhide A0).S
 go_enter Tryz.func3, Tryz.ntmps3
 go_wp2_with fail
 refine (szCluB nv sv wv dv c HFF _ ((unhide HRR).below (unhide B0))).mono ?_
 rintro e w1 ⟨x, rfl, hb, hx⟩
 have B1 := hide ((unhide B0).trans (hb.mono (unhide B0).size))
 have A1 := hide ((unhide A0).below hb)
 clear hb B0 A0 kA
 rcases hx with rfl | ⟨z, rfl, hz, hbk⟩
 ·go_wp2_with fail
  go_ret
  exact ⟨rfl, unhide B1⟩
 have HZ := hide hz
 have HBK := hide hbk
 clear hz hbk
 have hz0 : ¬ (z : Int) < 0 := by omega
 have kA := (unhide A1).S
 go_wp2_with fail
 refine (toClu nv sv wv dv c HZ _ ((unhide HRR).below (unhide B1))).mono ?_
 rintro e w2 ⟨nv2, sv2, wv2, dv2, c2, rfl, hs2, hf2, hb⟩
 clear kA
 have B2 := hide ((unhide B1).trans (hb.mono (unhide B1).size))
 have A2 := hide ((unhide A1).below hb)
 clear hb B1 A1
 have R2 := hide (CluR.of_own hf2)
 obtain ⟨B, hB⟩ : ∃ B, B = cluB c.nds c.sts c.wire c.done := ⟨_, rfl⟩
 obtain ⟨m, hm⟩ : ∃ m, m = (lgA B c.done).length := ⟨_, rfl⟩
 obtain ⟨kk, hkk⟩ : ∃ kk, kk = lgC B := ⟨_, rfl⟩
 have nk : (kk != kk) = false := by simp
 have HB := hide hB
 have HM := hide hm
 have HC := hide hkk
 have m20 : m ≤ 1048576 := by rw [hm]; exact Nat.le_trans (lgA_le B c.done) (unhide HZ).1.2.2.2
 have HB2 : Hid (B = cluB c2.nds c2.sts c2.wire c2.done) := by show _ = _; rw [hB]; exact cluB_same hs2
 have e2 : c2.done = c.done := hs2.2.2.2.symm
 have HM2 : Hid (m = (lgA B c2.done).length) := by show _ = _; rw [e2]; exact hm
 have HF2 := hide (fits_same hs2 (unhide HZ))
 have E2 := hide e2
 clear hs2 hf2 hB hm hkk e2
 have kA := (unhide A2).S
 go_wp2_with fail
 refine (slongest nv2 sv2 wv2 dv2 c2 HF2 B HB2 m HM2 kk HC _ (unhide R2)).mono ?_
 rintro e w3 ⟨v, rfl, ho, hb⟩
 clear kA R2
 have B3 := hide ((unhide B2).trans (hb.mono (unhide B2).size))
 have A3 := hide ((unhide A2).below hb)
 clear hb B2 A2
 rw [unhide E2] at ho
 obtain ⟨aW, cW, rfl, rW⟩ := ho.row
 have RW := hide rW
 have Q3 := hide (Below.refl w3.heap.size w3)
 have HLQ : Hid (w.heap.size < w3.heap.size) := (unhide A3).lt
 have HLB := hide (unhide B3).size
 have HNL : Hid ((lgA B c.done).length = m) := (unhide HM).symm
 clear ho rW HM2 HB2 HF2 E2
 have kA := (unhide A3).S
 go_wp2_with fail
 refine (toCluX nv sv wv dv c HZ _ ((unhide HRR).below (unhide B3))).mono ?_
 rintro e w4 ⟨nv4, sv4, wv4, dv4, c4, rfl, hs4, hf4, ⟨m1, m2, m3, hsp, hm12, hm23, hm34, hm41⟩, hb⟩
 clear kA
 have B4 := hide ((unhide B3).trans (hb.mono (unhide B3).size))
 have A4 := hide ((unhide A3).below hb)
 have Q4 := hide ((unhide Q3).trans (hb.mono (unhide Q3).size))
 clear hb B3 A3 Q3
 obtain ⟨n4, kn4, s4, ks4, mm4, km4, d4, kd4, rfl, rfl, rfl, rfl, -⟩ := (CluR.of_own hf4).parts
 have HS4 := hide hs4
 have hb := Go.Joins.below_alloc1 w4 (Obj.cells #[.slice n4 c4.nds.length kn4, .slice s4 c4.sts.length ks4, .slice mm4 c4.wire.length km4, .slice d4 c4.done.length kd4] 35)
 have X5 := hide (BF.new w4 #[.slice n4 c4.nds.length kn4, .slice s4 c4.sts.length ks4, .slice mm4 c4.wire.length km4, .slice d4 c4.done.length kd4] 35)
 have LT4 := hide (fun r hr j hj => (hf4.lt r hr j hj).2)
 have P5 := hide (hf4.below hb)
 have R5 := hide ((CluR.of_own hf4).below hb)
 have HSP := hide hsp
 have HMM := hide (show w3.heap.size ≤ m1 ∧ m1 ≤ m2 ∧ m2 ≤ m3 ∧ m3 ≤ w4.heap.size from ⟨hm41, hm12, hm23, hm34⟩)
 have Y5 : Hid ((w4.alloc (Obj.cells #[.slice n4 c4.nds.length kn4, .slice s4 c4.sts.length ks4, .slice mm4 c4.wire.length km4, .slice d4 c4.done.length kd4] 35)).heap.size = w4.heap.size + 1) := by show _ = _; simp only [World.size_alloc]
 have HB4 : Hid (B = cluB c4.nds c4.sts c4.wire c4.done) := by show _ = _; rw [unhide HB]; exact cluB_same hs4
 have e4 : c4.done = c.done := hs4.2.2.2.symm
 have HM4 : Hid (m = (lgA B c4.done).length) := by show _ = _; rw [e4]; exact unhide HM
 have HF4 := hide (fits_same hs4 (unhide HZ))
 have HBK4 : Hid (c4.bulk ≤ 1048576) := by show _ ≤ _; rw [← bulk_same hs4]; exact unhide HBK
 have E4 := hide e4
 clear hs4 hf4 hsp hm12 hm23 hm34 hm41 e4
 have B5 := hide ((unhide B4).trans (hb.mono (unhide B4).size))
 have A5 := hide ((unhide A4).below hb)
 have Q5 := hide ((unhide Q4).trans (hb.mono (unhide Q4).size))
 clear hb B4 A4 Q4
 have kA := (unhide A5).S
 have kX := (unhide X5).S
 go_wp2_with fail
 refine (ilongest _ _ _ _ c4 HF4 B HB4 m HM4 kk HC _ ((unhide HE).below (unhide B5)) (unhide R5)).mono ?_
 rintro e w6 ⟨v, rfl, ho, hb⟩
 clear kA kX
 have B6 := hide ((unhide B5).trans (hb.mono (unhide B5).size))
 have A6 := hide ((unhide A5).below hb)
 have Q6 := hide ((unhide Q5).trans (hb.mono (unhide Q5).size))
 have X6 := hide ((unhide X5).below hb)
 have P6 := hide ((unhide P5).below hb)
 have R6 := hide ((unhide R5).below hb)
 clear hb B5 A5 Q5 X5 P5 R5
 rw [unhide Y5, unhide E4] at ho
 obtain ⟨aG, cG, rfl, -⟩ := ho.row
 have G6 := hide ho
 clear ho E4 HM4 HB4
 go_wp2_with fail
 refine (sameStrN aG aW cG cW m (lgA B c.done) HNL m20 _ (unhide G6).rowV ((unhide RW).below (unhide Q6))).mono ?_
 rintro e w7 ⟨rfl, hb⟩
 have B7 := hide ((unhide B6).trans (hb.mono (unhide B6).size))
 have A7 := hide ((unhide A6).below hb)
 have Q7 := hide ((unhide Q6).trans (hb.mono (unhide Q6).size))
 have X7 := hide ((unhide X6).below hb)
 have P7 := hide ((unhide P6).below hb)
 have R7 := hide ((unhide R6).below hb)
 have G7 := hide ((unhide G6).below hb (unhide G6).le)
 clear hb B6 A6 Q6 X6 P6 R6 G6
 go_wp2_with fail
 obtain ⟨xb, hxb⟩ : ∃ xb, xb = w4.heap.size := ⟨_, rfl⟩
 have HXB := hide hxb
 rw [← hxb] at X7 ⊢
 clear hxb
 have SK : Hid (∀ w2, Below w7.heap.size w7 w2 → (fun w' => (∀ o, w'.cell? ⟨w.heap.size, o, none⟩ = (#[nv, sv, wv, dv] : Array Value)[o]?) ∧ (∀ o, w'.cell? ⟨xb, o, none⟩ = (#[.slice n4 c4.nds.length kn4, .slice s4 c4.sts.length ks4, .slice mm4 c4.wire.length km4, .slice d4 c4.done.length kd4] : Array Value)[o]?)) w2) := fun w2 hb => ⟨((unhide A7).below hb).S, ((unhide X7).below hb).S⟩
 have TD : Hid (Below w7.heap.size w7 w7.drew) := (Below.refl _ _).drew
 refine wp_region_held_drew (S := fun w' => (∀ o, w'.cell? ⟨w.heap.size, o, none⟩ = (#[nv, sv, wv, dv] : Array Value)[o]?) ∧ (∀ o, w'.cell? ⟨xb, o, none⟩ = (#[.slice n4 c4.nds.length kn4, .slice s4 c4.sts.length ks4, .slice mm4 c4.wire.length km4, .slice d4 c4.done.length kd4] : Array Value)[o]?)) (by kernel_rfl) (unhide SK _ (unhide TD)) (fun hHeld => ?_)
 generalize w7.drew = wd at TD hHeld ⊢
 refine wtv 0 (oi := { dst := some 41, op := .load 35 (.tmp 6), type := 35, pos := "exact.go:5669", after := #[], guard := none }) ?_
 refine wtv 1 (oi := { dst := some 42, op := .load 27 (.tmp 1), type := 27, pos := "exact.go:5669", after := #[], guard := none }) ?_
 refine wpAnyH_ready (rs := [2]) (by kernel_rfl) (by simp) ?_
 refine AllReadyH.cons (o := { dst := some 43, op := .call { callee := .value (.func 6), args := #[.tmp 42], argTypes := #[27] }, type := 35, pos := "exact.go:5669", after := #[{ on := 1, ground := .data }], guard := none }) rfl (fun K hK => ?_) AllReadyH.nil
 go_simp
 refine (toClu nv sv wv dv c HZ _ ((unhide HRR).below ((unhide B7).trans ((unhide TD).mono (unhide B7).size)))).mono ?_
 rintro e w8 ⟨nv7, sv7, wv7, dv7, c7, rfl, hs7, hf7, hb⟩
 have T7 := hide ((unhide TD).trans (hb.mono (unhide TD).size))
 have R77 := hide (CluR.of_own hf7)
 have HS7 := hide (Clu.same_trans (Clu.same_symm (unhide HS4)) hs7)
 clear hb hs7 hf7
 go_wp2_with fail
 refine hK.out _ _ ?_ (fun hHeld2 => ?_)
 ·exact unhide SK _ (unhide T7)
 clear hK K
 try simp only [Act.put, qqA, qqB, qqC]
 refine wpAnyH_ready (rs := [3]) (by kernel_rfl) (by simp) ?_
 refine AllReadyH.cons (o := { dst := some 44, op := .call { callee := .value (.func 9), args := #[.tmp 41, .tmp 43], argTypes := #[35, 35] }, type := 4, pos := "exact.go:5669", after := #[{ on := 0, ground := .data }, { on := 2, ground := .data }, { on := 2, ground := .chain }], guard := none }) rfl (fun K hK => ?_) AllReadyH.nil
 go_simp
 refine (eqClu _ _ _ _ nv7 sv7 wv7 dv7 c4 c7 HF4 HS7 _ ((unhide R7).below (unhide T7)) (unhide R77)).mono ?_
 rintro e w9 ⟨rfl, hb⟩
 have T8 := hide ((unhide T7).trans (hb.mono (unhide T7).size))
 clear hb
 go_wp2_with fail
 refine hK.out _ _ ?_ (fun hHeld3 => ?_)
 ·exact unhide SK _ (unhide T8)
 clear hK K
 try simp only [Act.put, qqA, qqB, qqC]
 refine wtv 4 (oi := { dst := some 45, op := .unOp .not 4 (.tmp 44), type := 4, pos := "exact.go:5669", after := #[{ on := 3, ground := .data }], guard := none }) ?_
 refine wpAnyH_done (by kernel_rfl) ?_ _
 have hb := unhide T8
 clear SK TD T7 T8 hHeld hHeld2 hHeld3 R77 HS7
 have B9 := hide ((unhide B7).trans (hb.mono (unhide B7).size))
 have A9 := hide ((unhide A7).below hb)
 have Q9 := hide ((unhide Q7).trans (hb.mono (unhide Q7).size))
 have X9 := hide ((unhide X7).below hb)
 have P9 := hide ((unhide P7).below hb)
 have R9 := hide ((unhide R7).below hb)
 have G9 := hide ((unhide G7).below hb (unhide G7).le)
 clear hb B7 A7 Q7 X7 P7 R7 G7
 have kX := (unhide X9).S
 go_wp2_with fail
 have hiw : w4.heap.size ≤ w9.heap.size := by have := (unhide X9).lt; have := unhide HXB; omega
 refine (markClu _ _ _ _ c4 HBK4 w3.heap.size m1 m2 m3 w4.heap.size HSP HMM _ (unhide P9) (unhide LT4) hiw).mono ?_
 rintro e w10 ⟨ky, rfl, ho⟩
 have hlb := unhide HLB
 have hlq : w3.heap.size ≤ w3.heap.size := Nat.le_refl _
 have hla := unhide HLQ
 have hlg : w4.heap.size ≤ w4.heap.size + 1 := Nat.le_succ _
 clear hiw kX X9 P9 R9
 have B10 := hide (Below.outs (unhide B9) (unhide B9).size ho hlb)
 have A10 := hide ((unhide A9).outs ho (.inl hla))
 have Q10 := hide (Below.outs (unhide Q9) (unhide Q9).size ho hlq)
 have G10 := hide ((unhide G9).outs ho (.inr hlg))
 clear ho B9 A9 Q9 G9
 clear hlb hlq hla hlg
 have hky : ¬ (ky : Int) < 0 := by omega
 go_wp2_with fail
 refine (sameStrN aG aW cG cW m (lgA B c.done) HNL m20 _ (unhide G10).rowV ((unhide RW).below (unhide Q10))).mono ?_
 rintro e w11 ⟨rfl, hb⟩
 have B11 := hide ((unhide B10).trans (hb.mono (unhide B10).size))
 have A11 := hide ((unhide A10).below hb)
 have Q11 := hide ((unhide Q10).trans (hb.mono (unhide Q10).size))
 have G11 := hide ((unhide G10).below hb (unhide G10).le)
 clear hb B10 A10 Q10 G10
 obtain ⟨q, hq⟩ : ∃ q : Int, q = ((1 + m : Nat) : Int) := ⟨_, rfl⟩
 have hq0 : ¬ q < 0 := by omega
 have nq : (q != q) = false := by simp
 have HQ := hide hq
 clear hq
 go_wp2_with fail
 refine (markString1 (.slice aG m cG) m _ _ q _ (unhide HQ) (by omega) _ (unhide G11)).mono ?_
 rintro e w12 ⟨rfl, hg12, hg⟩
 have hlg0 : w3.heap.size ≤ w4.heap.size + 1 := by have := unhide HMM; omega
 have ho := Outs.of_grown hg (fun j hj => (unhide G11).blk j hj)
 have hlb := Nat.le_trans (unhide HLB) hlg0
 have hlq := hlg0
 have hla := Nat.lt_of_lt_of_le (unhide HLQ) hlg0
 have G12 := hide hg12
 clear hg hg12 G11
 have B12 := hide (Below.outs (unhide B11) (unhide B11).size ho hlb)
 have A12 := hide ((unhide A11).outs ho (.inl hla))
 have Q12 := hide (Below.outs (unhide Q11) (unhide Q11).size ho hlq)
 clear ho B11 A11 Q11
 clear hlb hlq hla hlg0
 go_wp2_with fail
 refine (heldString1 (.slice aG m cG) m _ _ q (unhide HQ) (by omega) _ (unhide G12)).mono ?_
 rintro e w13 ⟨rfl, hb⟩
 have B13 := hide ((unhide B12).trans (hb.mono (unhide B12).size))
 have A13 := hide ((unhide A12).below hb)
 have Q13 := hide ((unhide Q12).trans (hb.mono (unhide Q12).size))
 have G13 := hide ((unhide G12).below hb (unhide G12).le)
 clear hb B12 A12 Q12 G12
 have kA := (unhide A13).S
 go_wp2_with fail
 refine (toClu nv sv wv dv c HZ _ ((unhide HRR).below (unhide B13))).mono ?_
 rintro e w14 ⟨nv5, sv5, wv5, dv5, c5, rfl, hs5, hf5, hb⟩
 clear kA
 have B14 := hide ((unhide B13).trans (hb.mono (unhide B13).size))
 have A14 := hide ((unhide A13).below hb)
 have Q14 := hide ((unhide Q13).trans (hb.mono (unhide Q13).size))
 have G14 := hide ((unhide G13).below hb (unhide G13).le)
 clear hb B13 A13 Q13 G13
 have R14 := hide (CluR.of_own hf5)
 have HB5 : Hid (B = cluB c5.nds c5.sts c5.wire c5.done) := by show _ = _; rw [unhide HB]; exact cluB_same hs5
 have e5 : c5.done = c.done := hs5.2.2.2.symm
 have HM5 : Hid (m = (lgA B c5.done).length) := by show _ = _; rw [e5]; exact unhide HM
 have HF5 := hide (fits_same hs5 (unhide HZ))
 have E5 := hide e5
 clear hs5 hf5 e5
 go_wp2_with fail
 refine (ilongest _ _ _ _ c5 HF5 B HB5 m HM5 kk HC _ ((unhide HE).below (unhide B14)) (unhide R14)).mono ?_
 rintro e w15 ⟨v, rfl, ho, hb⟩
 clear R14
 have B15 := hide ((unhide B14).trans (hb.mono (unhide B14).size))
 have Q15 := hide ((unhide Q14).trans (hb.mono (unhide Q14).size))
 have G15 := hide ((unhide G14).below hb (unhide G14).le)
 clear hb B14 Q14 G14
 rw [unhide E5] at ho
 obtain ⟨aH, cH, rfl, rH⟩ := ho.row
 have RH := hide rH
 clear ho rH E5 HM5 HB5 HF5
 go_wp2_with fail
 refine (sameStrN aH aW cH cW m (lgA B c.done) HNL m20 _ (unhide RH) ((unhide RW).below (unhide Q15))).mono ?_
 rintro e w16 ⟨rfl, hb⟩
 clear RH
 have B16 := hide ((unhide B15).trans (hb.mono (unhide B15).size))
 have G16 := hide ((unhide G15).below hb (unhide G15).le)
 clear hb B15 G15
 go_wp2_with fail
 refine (heldString1 (.slice aG m cG) m _ _ q (unhide HQ) (by omega) _ (unhide G16)).mono ?_
 rintro e w17 ⟨rfl, hb⟩
 have B17 := hide ((unhide B16).trans (hb.mono (unhide B16).size))
 clear hb B16
 go_wp2_with fail
 go_ret
 exact ⟨rfl, unhide B17⟩

theorem own : ownKnob Tryz.prog.godebug = none := by kernel_rfl
theorem laidOut : laidOutB Tryz.prog = true := by kernel_rfl
theorem door_met (os : Os) (args : Array Value) : laidMetH Tryz.prog Rows.fnExactLongestDoneRow.laid ((World.doorLaid Tryz.prog 187 os).forCall (fun _ _ => 0) ⟨#[], args, []⟩).memory :=
 laidMetH_of_parts3 (fuel := 8) (laidMet_of_run' 8 (by kernel_rfl) (by kernel_rfl)) (by kernel_rfl) (by kernel_rfl)
set_option maxRecDepth 100000 in
theorem lifted (os : Os) (started : os.Started) (H : Type) (enc : TypeId × Value → H) :
  ReturnsInHanded {} Tryz.checked os 3 .any (fun w args => (Rows.fnExactLongestDoneSpec.pre enc Tryz.prog Tryz.f3 [] false w args ∧ laidMetH Tryz.prog Rows.fnExactLongestDoneRow.laid w) ∧ sizedMet enc Tryz.prog Tryz.f3 (OpenSpec.ofChange Rows.fnExactLongestDoneSpec) false w args)
   (Rows.fnExactLongestDoneSpec.post enc Tryz.prog Tryz.f3 false true false false) := by
 refine returnsInHanded_of_change_and (C := Tryz.checked) (X := fun w _ => laidMetH Tryz.prog Rows.fnExactLongestDoneRow.laid w) (fun _ _ _ hh h => h.of_heap hh) own started (by kernel_rfl) Tryz.func3
  (ChangeSpec.witness_shaped (enc := enc) (C := Tryz.checked) (os := os) (X := fun w _ => laidMetH Tryz.prog Rows.fnExactLongestDoneRow.laid w) false (World.doorLaid Tryz.prog 187 os) #[.agg #[.slice none 0 0, .slice none 0 0, .slice none 0 0, .slice none 0 0]] 8 rfl (World.shaped_of_RefB (by kernel_rfl) (by kernel_rfl)) (by kernel_rfl) (by kernel_rfl) (by kernel_rfl) (door_met os _)) ?_
 intro W base args ds gs before hval0 hW _ _ hL _
 have hval : ∀ (j : Nat) t v, Tryz.f3.params[j]? = some t → args[j]? = some v → Value.okWide Tryz.prog W .any base t v := hval0
 have hW' := hW
 obtain ⟨p, q, hA0, hV, rfl, hfz, hnd⟩ := hW
 have hA : DataW.TrodAll enc Tryz.prog W 0 (fun _ => true) true Tryz.f3.params.toList args.toList ds p := hA0
 rw [Tryz.params3] at hA hval
 obtain ⟨v0, vs0, d0, ds0, p0, q0, hargs, rfl, rfl, h0, r0⟩ := trodAll_cons hA
 obtain ⟨rfl, rfl, rfl⟩ := trodAll_nil r0
 obtain rfl : args = #[v0] := by cases args; simp_all
 obtain ⟨g1, g2, g3, g4, g5, g6, g7, g8, g9, rfl⟩ : ∃ d1x d2x d3x d4x d5x d6x d7x d8x d9x, gs = [d1x, d2x, d3x, d4x, d5x, d6x, d7x, d8x, d9x] := vars_len9 hV
 have k0 := h0
 have lt0 : ∀ x ∈ p0, x.block < W.heap.size := by obtain ⟨m, hm⟩ := k0; exact DataW.trod_lt m _ _ _ hm
 obtain ⟨nv, sv, wv, dv, c, rfl, HF, HR⟩ := open_clu (hval 0 27 v0 rfl rfl) h0
 have hT := errs_laidLongestDone hL
 clear hA0 hval0
 refine (walk W nv sv wv dv c HF HR hT).mono fun e W' ⟨he, bel⟩ => ?_
 subst he
 exact ⟨_, rfl, _, _, _, [], _, _, hW', trodAll_mk1 (shut_bool Tryz.underlying4 _), (trodAll_cons_mk (Below.trod laidOut (by kernel_rfl) (of_decide_eq_true (by kernel_rfl)) k0 bel lt0) trodAll_mk0), Below.trodVars laidOut bel (by kernel_rfl) hV, bel.frame _, fun h => by cases h⟩

theorem said : Rows.FnExactLongestDoneSaid :=
 OpenClaim.holds_of_wide 3 Tryz.f3 rfl rfl rfl rfl rfl rfl rfl ⟨rfl, rfl, rfl, rfl, rfl⟩ rfl rfl rfl rfl rfl (by kernel_rfl) Tryz.func3 (by kernel_rfl)
  (of_decide_eq_true (by kernel_rfl)) (by unfold Func.isWrapper; first | (rw [if_pos (by decide +kernel)]; kernel_rfl) | (rw [if_neg (by decide +kernel)]; exact ⟨rfl, rfl⟩))
  (fun os started H enc _ => lifted os started H enc)

theorem card : Rows.FnExactLongestDoneCardSaid :=
 Claim7.holds_tied_plain_at .later [] _ _ _ _ said (fun _ h => by cases h) (by kernel_rfl) (fun _ h => by cases h) fnExactLongestDone_row_tie rfl ⟨rfl, rfl⟩ (by kernel_rfl) rfl
  (fun f fn hf hfn => by
   obtain rfl : f = 3 := Option.some.inj ((show Tryz.prog.funcNamed Tryz.f3.name = some 3 by kernel_rfl).symm.trans hf) |>.symm
   obtain rfl : fn = Tryz.f3 := (Option.some.inj (Tryz.func3.symm.trans hfn)).symm
   exact ⟨by kernel_rfl, fun j t ht => by
    rw [Tryz.params3] at ht
    have hm : t ∈ [27] := by simpa using Array.mem_of_getElem? ht
    have hall : ([27].all fun u => !Tryz.prog.wantsStandIn u) = true := by kernel_rfl
    exact (show Tryz.prog.wantsStandIn t = false by simpa using List.all_eq_true.1 hall t hm)⟩)
  (by kernel_rfl)
#print axioms card
end Go.Proofs.YtfogppnijdjakaaGreatDoor
