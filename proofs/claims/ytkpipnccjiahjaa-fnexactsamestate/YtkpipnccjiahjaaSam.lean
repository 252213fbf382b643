/- At every argument that can be read, the law FnExactSameState returns true and leaves its arguments as they were: no condition. -/
import Derived.Test.YtkpipnccjiahjaaSamAll
import Derived.Test.YtkpipnccjiahjaaAgg3
import Derived.Test.YtkpipnccjiahjaaEntO
import Derived.WalkKit
import Derived.ProofKit
import Derived.OpenShut
import Derived.ShutString
import Derived.ChangeOld
import Derived.Below
import Derived.Deep.Strs
namespace Go.Proofs.Ytkpipnccjiahjaa
open Go.ChangeShapes Go.WideShapes Go.ChangeAt Go.RowKit
set_option linter.unusedVariables false

theorem own : ownKnob Try.prog.godebug = none := by kernel_rfl
theorem laidOut : laidOutB Try.prog = true := by kernel_rfl
set_option maxHeartbeats 4000000 in
set_option maxRecDepth 100000 in
theorem walk (w : World) (tm0 vt0 : Int) (a0 : Option Addr) (len0 cap0 : Nat) (l0 : List (Int × ByteArray)) (el0 : l0.length = len0) (ml0 : len0 ≤ maxLen) (sl0 : ∀ k (h : k < l0.length), l0[k].2.size ≤ maxLen) (tm1 vt1 : Int) (a1 : Option Addr) (len1 cap1 : Nat) (l1 : List (Int × ByteArray)) (el1 : l1.length = len1) (ml1 : len1 ≤ maxLen) (sl1 : ∀ k (h : k < l1.length), l1[k].2.size ≤ maxLen) (rl0 : RowV w a0 (cE l0)) (rl1 : RowV w a1 (cE l1)) :
    Calls Try.prog 3 #[.agg #[.int .i64 tm0, .int .i64 vt0, .slice a0 len0 cap0], .agg #[.int .i64 tm1, .int .i64 vt1, .slice a1 len1 cap1]] w fun e w' => e = .returned (.bool true) ∧ Below w.heap.size w w' := by
  obtain ⟨R, c, his⟩ := same_ex tm0 vt0 l0 tm1 vt1 l1
  have HIS := hide his
  have nR : (R != R) = false := by simp
  have nc : (c != c) = false := by simp
  clear his
  have HN0 := hide el0
  have HM0 := hide ml0
  have HS0 := hide sl0
  have HR0 := hide rl0
  clear el0 ml0 sl0 rl0
  have HN1 := hide el1
  have HM1 := hide ml1
  have HS1 := hide sl1
  have HR1 := hide rl1
  clear el1 ml1 sl1 rl1
  have B_1 := hide (Go.Joins.below_alloc2 w (.cells #[.int .i64 tm0, .int .i64 vt0, .slice a0 len0 cap0] 24) (.cells #[.int .i64 tm1, .int .i64 vt1, .slice a1 len1 cap1] 24))
  have A0_2 := hide ((BF.new w #[.int .i64 tm0, .int .i64 vt0, .slice a0 len0 cap0] 24).alloc (.cells #[.int .i64 tm1, .int .i64 vt1, .slice a1 len1 cap1] 24))
  have A1_3 := hide (BF.new (w.alloc (.cells #[.int .i64 tm0, .int .i64 vt0, .slice a0 len0 cap0] 24)) #[.int .i64 tm1, .int .i64 vt1, .slice a1 len1 cap1] 24)
  rw [show (w.alloc (.cells #[.int .i64 tm0, .int .i64 vt0, .slice a0 len0 cap0] 24)).heap.size = w.heap.size + 1 from by simp] at A1_3
  go_enter Try.func3, Try.ntmps3
  have kA0 := (unhide A0_2).S
  have kA1 := (unhide A1_3).S
  go_wp2_with fail
  refine (szState tm0 vt0 a0 cap0 len0 l0 HN0 1048576 (Nat.le_refl _) HM0 HS0 _ ((unhide HR0).below (unhide B_1))).mono ?_
  rintro e w1 ⟨x, rfl, hb1, hx⟩
  clear kA0 kA1
  have B_4 := hide ((unhide B_1).trans (hb1.mono (unhide B_1).size))
  clear B_1
  have A0_5 := hide ((unhide A0_2).below hb1)
  clear A0_2
  have A1_6 := hide ((unhide A1_3).below hb1)
  clear A1_3
  clear hb1
  rcases hx with rfl | ⟨z0, rfl, hz0, hl0, hs0⟩
  · go_wp2_with fail
    go_ret
    exact ⟨rfl, (unhide B_4)⟩
  have hzn0 : ¬ (z0 : Int) < 0 := by omega
  have HZ0 := hide hs0
  have HL0 := hide hl0
  have HY0 := hide hz0
  clear hs0 HM0 HS0 hl0 hz0
  have kA0 := (unhide A0_5).S
  have kA1 := (unhide A1_6).S
  go_wp2_with fail
  refine (szState tm1 vt1 a1 cap1 len1 l1 HN1 z0 (by have := unhide HY0; omega) HM1 HS1 _ ((unhide HR1).below (unhide B_4))).mono ?_
  rintro e w2 ⟨x, rfl, hb2, hx⟩
  clear kA0 kA1
  have B_7 := hide ((unhide B_4).trans (hb2.mono (unhide B_4).size))
  clear B_4
  have A0_8 := hide ((unhide A0_5).below hb2)
  clear A0_5
  have A1_9 := hide ((unhide A1_6).below hb2)
  clear A1_6
  clear hb2
  rcases hx with rfl | ⟨z1, rfl, hz1, hl1, hs1⟩
  · go_wp2_with fail
    go_ret
    exact ⟨rfl, (unhide B_7)⟩
  have hzn1 : ¬ (z1 : Int) < 0 := by omega
  have HZ1 := hide hs1
  have HL1 := hide hl1
  have HY1 := hide hz1
  clear hs1 HM1 HS1 hl1 hz1
  have TOK : True := trivial
  have K2 := And.intro (unhide A0_8).S (unhide A1_9).S
  have LA : w.heap.size < _ := (unhide A0_8).lt
  have LC : (w.heap.size + 1) < _ := (unhide A1_9).lt
  go_wp2_with fail
  go_region_held3 (fun w' => (∀ o, w'.cell? ⟨w.heap.size, o, none⟩ = (#[.int .i64 tm0, .int .i64 vt0, .slice a0 len0 cap0] : Array Value)[o]?) ∧ (∀ o, w'.cell? ⟨(w.heap.size + 1), o, none⟩ = (#[.int .i64 tm1, .int .i64 vt1, .slice a1 len1 cap1] : Array Value)[o]?)) (first | exact K2 | exact K3 | exact K4 | exact K5) (first | (clear TOK; go_at_call 6; refine (toState tm0 vt0 a0 cap0 len0 l0 HN0 (unhide HL0) _ ((unhide HR0).below (unhide B_7).drew)).mono ?_; rintro e w3 ⟨g3, rfl, o3, hb3⟩; have K3 := And.intro (fun o => (hb3.cell (p := ⟨w.heap.size, o, none⟩) LA).trans (K2.1 o)) (fun o => (hb3.cell (p := ⟨(w.heap.size + 1), o, none⟩) LC).trans (K2.2 o)); have HO3 := hide (rowZ_at o3); have HT3 := hide (below_undrew hb3); have LA3 := Nat.lt_of_lt_of_le LA (unhide HT3).size; have LC3 := Nat.lt_of_lt_of_le LC (unhide HT3).size; clear o3 hb3) | (go_at_call 6; refine (toState tm1 vt1 a1 cap1 len1 l1 HN1 (unhide HL1) _ (((unhide HR1).below (unhide B_7)).below (unhide HT3))).mono ?_; rintro e w4 ⟨g4, rfl, o4, hb4⟩; have K4 := And.intro (fun o => (hb4.cell (p := ⟨w.heap.size, o, none⟩) LA3).trans (K3.1 o)) (fun o => (hb4.cell (p := ⟨(w.heap.size + 1), o, none⟩) LC3).trans (K3.2 o)); have HO34 := hide ((unhide HO3).below hb4); have HO4 := hide (rowZ_at o4); have HT4 := hide ((unhide HT3).trans (hb4.mono (unhide HT3).size)); have LA4 := Nat.lt_of_lt_of_le LA3 hb4.size; have LC4 := Nat.lt_of_lt_of_le LC3 hb4.size; clear o4 hb4) | (go_at_call 5; refine (ssame tm0 vt0 _ _ len0 l0 HN0 (unhide HL0) HZ0 tm1 vt1 _ _ len1 l1 HN1 (unhide HL1) HZ1 R c HIS _ (unhide HO34) (unhide HO4)).mono ?_; rintro e w5 ⟨rfl, hb5⟩; have K5 := And.intro (fun o => (hb5.cell (p := ⟨w.heap.size, o, none⟩) LA4).trans (K4.1 o)) (fun o => (hb5.cell (p := ⟨(w.heap.size + 1), o, none⟩) LC4).trans (K4.2 o)); have HT5 := hide ((unhide HT4).trans (hb5.mono (unhide HT4).size)); clear hb5))
  clear K2 K3 K4 K5 HO3 HO34 HO4 HT3 HT4 LA LC LA3 LC3 LA4 LC4
  have B_10 := hide ((unhide B_7).trans ((unhide HT5).mono (unhide B_7).size))
  clear B_7
  have A0_11 := hide ((unhide A0_8).below (unhide HT5))
  clear A0_8
  have A1_12 := hide ((unhide A1_9).below (unhide HT5))
  clear A1_9
  clear HT5
  have kA0 := (unhide A0_11).S
  have kA1 := (unhide A1_12).S
  go_wp2_with fail
  refine (toState tm0 vt0 a0 cap0 len0 l0 HN0 (unhide HL0) _ ((unhide HR0).below (unhide B_10))).mono ?_
  rintro e w6 ⟨g6, rfl, o6, hb6⟩
  clear kA0 kA1
  have B_13 := hide ((unhide B_10).trans (hb6.mono (unhide B_10).size))
  clear B_10
  have A0_14 := hide ((unhide A0_11).below hb6)
  clear A0_11
  have A1_15 := hide ((unhide A1_12).below hb6)
  clear A1_12
  clear hb6
  have XR_16 := hide (heldZ_of o6)
  clear o6
  have B_17 := hide ((unhide B_13).alloc (unhide B_13).size (.cells #[.int .i64 tm0, .int .i64 vt0, .slice (some ⟨g6, 0, none⟩) len0 len0] 30))
  clear B_13
  have A0_18 := hide ((unhide A0_14).alloc (.cells #[.int .i64 tm0, .int .i64 vt0, .slice (some ⟨g6, 0, none⟩) len0 len0] 30))
  clear A0_14
  have A1_19 := hide ((unhide A1_15).alloc (.cells #[.int .i64 tm0, .int .i64 vt0, .slice (some ⟨g6, 0, none⟩) len0 len0] 30))
  clear A1_15
  have XR_20 := hide ((unhide XR_16).below (Go.Joins.below_alloc1 _ (.cells #[.int .i64 tm0, .int .i64 vt0, .slice (some ⟨g6, 0, none⟩) len0 len0] 30)) (unhide XR_16).le)
  clear XR_16
  have X_21 := hide (BF.new w6 #[.int .i64 tm0, .int .i64 vt0, .slice (some ⟨g6, 0, none⟩) len0 len0] 30)
  have kA0 := (unhide A0_18).S
  have kA1 := (unhide A1_19).S
  go_wp2_with fail
  refine (toState tm1 vt1 a1 cap1 len1 l1 HN1 (unhide HL1) _ ((unhide HR1).below (unhide B_17))).mono ?_
  rintro e w7 ⟨g7, rfl, o7, hb7⟩
  clear kA0 kA1
  have B_22 := hide ((unhide B_17).trans (hb7.mono (unhide B_17).size))
  clear B_17
  have A0_23 := hide ((unhide A0_18).below hb7)
  clear A0_18
  have A1_24 := hide ((unhide A1_19).below hb7)
  clear A1_19
  have XR_25 := hide ((unhide XR_20).below hb7 (unhide XR_20).le)
  clear XR_20
  have X_26 := hide ((unhide X_21).below hb7)
  clear X_21
  clear hb7
  have YR_27 := hide (heldZ_of o7)
  clear o7
  have B_28 := hide ((unhide B_22).alloc (unhide B_22).size (.cells #[.int .i64 tm1, .int .i64 vt1, .slice (some ⟨g7, 0, none⟩) len1 len1] 30))
  clear B_22
  have A0_29 := hide ((unhide A0_23).alloc (.cells #[.int .i64 tm1, .int .i64 vt1, .slice (some ⟨g7, 0, none⟩) len1 len1] 30))
  clear A0_23
  have A1_30 := hide ((unhide A1_24).alloc (.cells #[.int .i64 tm1, .int .i64 vt1, .slice (some ⟨g7, 0, none⟩) len1 len1] 30))
  clear A1_24
  have XR_31 := hide ((unhide XR_25).below (Go.Joins.below_alloc1 _ (.cells #[.int .i64 tm1, .int .i64 vt1, .slice (some ⟨g7, 0, none⟩) len1 len1] 30)) (unhide XR_25).le)
  clear XR_25
  have X_32 := hide ((unhide X_26).alloc (.cells #[.int .i64 tm1, .int .i64 vt1, .slice (some ⟨g7, 0, none⟩) len1 len1] 30))
  clear X_26
  have YR_33 := hide ((unhide YR_27).below (Go.Joins.below_alloc1 _ (.cells #[.int .i64 tm1, .int .i64 vt1, .slice (some ⟨g7, 0, none⟩) len1 len1] 30)) (unhide YR_27).le)
  clear YR_27
  have Y_34 := hide (BF.new w7 #[.int .i64 tm1, .int .i64 vt1, .slice (some ⟨g7, 0, none⟩) len1 len1] 30)
  have kX := (unhide X_32).S
  have kY := (unhide Y_34).S
  go_wp2_with fail
  refine (isame tm0 vt0 _ _ len0 l0 HN0 (unhide HL0) HZ0 tm1 vt1 _ _ len1 l1 HN1 (unhide HL1) HZ1 R c HIS _ (unhide XR_31).rowV (unhide YR_33).rowV).mono ?_
  rintro e w8 ⟨rfl, hb8⟩
  clear kX kY
  have B_35 := hide ((unhide B_28).trans (hb8.mono (unhide B_28).size))
  clear B_28
  have A0_36 := hide ((unhide A0_29).below hb8)
  clear A0_29
  have A1_37 := hide ((unhide A1_30).below hb8)
  clear A1_30
  have XR_38 := hide ((unhide XR_31).below hb8 (unhide XR_31).le)
  clear XR_31
  have X_39 := hide ((unhide X_32).below hb8)
  clear X_32
  have YR_40 := hide ((unhide YR_33).below hb8 (unhide YR_33).le)
  clear YR_33
  have Y_41 := hide ((unhide Y_34).below hb8)
  clear Y_34
  clear hb8
  have K6 := And.intro (unhide A0_36).S (unhide X_39).S
  have HU6 := hide (unhide XR_38).rowV
  have LA : w.heap.size < _ := (unhide A0_36).lt
  have LX : w6.heap.size < _ := (unhide X_39).lt
  go_wp2_with fail
  go_region_held3 (fun w' => (∀ o, w'.cell? ⟨w.heap.size, o, none⟩ = (#[.int .i64 tm0, .int .i64 vt0, .slice a0 len0 cap0] : Array Value)[o]?) ∧ (∀ o, w'.cell? ⟨w6.heap.size, o, none⟩ = (#[.int .i64 tm0, .int .i64 vt0, .slice (some ⟨g6, 0, none⟩) len0 len0] : Array Value)[o]?)) (first | exact K6 | exact K7 | exact K8) (first | (go_at_call 6; refine (toState tm0 vt0 a0 cap0 len0 l0 HN0 (unhide HL0) _ ((unhide HR0).below (unhide B_35).drew)).mono ?_; rintro e w9 ⟨g9, rfl, o9, hb9⟩; have K7 := And.intro (fun o => (hb9.cell (p := ⟨w.heap.size, o, none⟩) LA).trans (K6.1 o)) (fun o => (hb9.cell (p := ⟨w6.heap.size, o, none⟩) LX).trans (K6.2 o)); have HO7 := hide (rowZ_at o9); have HU7 := hide ((unhide HU6).below (below_undrew hb9)); have HT7 := hide (below_undrew hb9); have LA7 := Nat.lt_of_lt_of_le LA (unhide HT7).size; have LX7 := Nat.lt_of_lt_of_le LX (unhide HT7).size; clear o9 hb9) | (go_at_call 8; refine (eqState tm0 vt0 _ _ _ _ len0 l0 HN0 (unhide HL0) _ (unhide HU7) (unhide HO7)).mono ?_; rintro e w10 ⟨rfl, hb10⟩; have K8 := And.intro (fun o => (hb10.cell (p := ⟨w.heap.size, o, none⟩) LA7).trans (K7.1 o)) (fun o => (hb10.cell (p := ⟨w6.heap.size, o, none⟩) LX7).trans (K7.2 o)); have HT8 := hide ((unhide HT7).trans (hb10.mono (unhide HT7).size)); clear hb10))
  clear K6 K7 K8 HO7 HU6 HU7 HT7 LA LX LA7 LX7
  have B_42 := hide ((unhide B_35).trans ((unhide HT8).mono (unhide B_35).size))
  clear B_35
  have A0_43 := hide ((unhide A0_36).below (unhide HT8))
  clear A0_36
  have A1_44 := hide ((unhide A1_37).below (unhide HT8))
  clear A1_37
  have XR_45 := hide ((unhide XR_38).below (unhide HT8) (unhide XR_38).le)
  clear XR_38
  have X_46 := hide ((unhide X_39).below (unhide HT8))
  clear X_39
  have YR_47 := hide ((unhide YR_40).below (unhide HT8) (unhide YR_40).le)
  clear YR_40
  have Y_48 := hide ((unhide Y_41).below (unhide HT8))
  clear Y_41
  clear HT8
  have K6 := And.intro (unhide A1_44).S (unhide Y_48).S
  have HU6 := hide (unhide YR_47).rowV
  have LA : (w.heap.size + 1) < _ := (unhide A1_44).lt
  have LX : w7.heap.size < _ := (unhide Y_48).lt
  go_wp2_with fail
  go_region_held3 (fun w' => (∀ o, w'.cell? ⟨(w.heap.size + 1), o, none⟩ = (#[.int .i64 tm1, .int .i64 vt1, .slice a1 len1 cap1] : Array Value)[o]?) ∧ (∀ o, w'.cell? ⟨w7.heap.size, o, none⟩ = (#[.int .i64 tm1, .int .i64 vt1, .slice (some ⟨g7, 0, none⟩) len1 len1] : Array Value)[o]?)) (first | exact K6 | exact K7 | exact K8) (first | (go_at_call 6; refine (toState tm1 vt1 a1 cap1 len1 l1 HN1 (unhide HL1) _ ((unhide HR1).below (unhide B_42).drew)).mono ?_; rintro e w11 ⟨g11, rfl, o11, hb11⟩; have K7 := And.intro (fun o => (hb11.cell (p := ⟨(w.heap.size + 1), o, none⟩) LA).trans (K6.1 o)) (fun o => (hb11.cell (p := ⟨w7.heap.size, o, none⟩) LX).trans (K6.2 o)); have HO7 := hide (rowZ_at o11); have HU7 := hide ((unhide HU6).below (below_undrew hb11)); have HT7 := hide (below_undrew hb11); have LA7 := Nat.lt_of_lt_of_le LA (unhide HT7).size; have LX7 := Nat.lt_of_lt_of_le LX (unhide HT7).size; clear o11 hb11) | (go_at_call 8; refine (eqState tm1 vt1 _ _ _ _ len1 l1 HN1 (unhide HL1) _ (unhide HU7) (unhide HO7)).mono ?_; rintro e w12 ⟨rfl, hb12⟩; have K8 := And.intro (fun o => (hb12.cell (p := ⟨(w.heap.size + 1), o, none⟩) LA7).trans (K7.1 o)) (fun o => (hb12.cell (p := ⟨w7.heap.size, o, none⟩) LX7).trans (K7.2 o)); have HT8 := hide ((unhide HT7).trans (hb12.mono (unhide HT7).size)); clear hb12))
  clear K6 K7 K8 HO7 HU6 HU7 HT7 LA LX LA7 LX7
  have B_49 := hide ((unhide B_42).trans ((unhide HT8).mono (unhide B_42).size))
  clear B_42
  have A0_50 := hide ((unhide A0_43).below (unhide HT8))
  clear A0_43
  have A1_51 := hide ((unhide A1_44).below (unhide HT8))
  clear A1_44
  have XR_52 := hide ((unhide XR_45).below (unhide HT8) (unhide XR_45).le)
  clear XR_45
  have X_53 := hide ((unhide X_46).below (unhide HT8))
  clear X_46
  have YR_54 := hide ((unhide YR_47).below (unhide HT8) (unhide YR_47).le)
  clear YR_47
  have Y_55 := hide ((unhide Y_48).below (unhide HT8))
  clear Y_48
  clear HT8
  go_wp2_with fail
  go_ret
  exact ⟨rfl, (unhide B_49)⟩

set_option maxRecDepth 100000 in
theorem lifted (os : Os) (started : os.Started) (H : Type) (enc : TypeId × Value → H) :
    ReturnsInHanded {} Try.checked os 3 .any (Rows.fnExactSameStateSpec.pre6 enc Try.prog Try.f3 Rows.fnExactSameStateRow.domain false) (Rows.fnExactSameStateSpec.post enc Try.prog Try.f3 false true false false) := by
  refine returnsInHanded_of_change (C := Try.checked) own started (by kernel_rfl) Try.func3
    (ChangeSpec.witness6 (enc := enc) (C := Try.checked) false ⟨#[], #[.agg #[.int .i64 0, .int .i64 0, .slice none 0 0], .agg #[.int .i64 0, .int .i64 0, .slice none 0 0]], []⟩ 8 (by kernel_rfl) (by kernel_rfl) (by kernel_rfl) (by kernel_rfl)) ?_
  intro W base args ds gs before hval0 hW hcnd _
  have hval : ∀ (j : Nat) t v, Try.f3.params[j]? = some t → args[j]? = some v → Value.okWide Try.prog W .any base t v := hval0
  have hW' := hW
  obtain ⟨p, q, hA0, hV, rfl, hfz, hnd⟩ := hW
  have hA : DataW.TrodAll enc Try.prog W 0 (fun _ => true) true Try.f3.params.toList args.toList ds p := hA0
  rw [Try.params3] at hA hval
  obtain ⟨v0, vs0, d_0, ds0, p0, q0, hargs, rfl, rfl, h0, r0⟩ := trodAll_cons hA
  obtain ⟨v1, vs1, d_1, ds1, p1, q1, rfl, rfl, rfl, h1, r1⟩ := trodAll_cons r0
  obtain ⟨rfl, rfl, rfl⟩ := trodAll_nil r1
  obtain rfl : args = #[v0, v1] := by cases args; simp_all
  obtain ⟨rfl, rfl⟩ := trodVars_none hV
  have k0 := h0
  have lt0 : ∀ x ∈ p0, x.block < W.heap.size := by obtain ⟨m, hm⟩ := k0; exact DataW.trod_lt m _ _ _ hm
  have k1 := h1
  have lt1 : ∀ x ∈ p1, x.block < W.heap.size := by obtain ⟨m, hm⟩ := k1; exact DataW.trod_lt m _ _ _ hm
  obtain ⟨c0_0, c0_1, c0_2, u0_0, u0_1, u0_2, n0, rfl, z0_0, z0_1, z0_2⟩ := open_agg3 Try.underlying24 (by kernel_rfl) (by kernel_rfl) (hval 0 24 v0 rfl rfl) h0
  obtain ⟨tm0, e0_0, -, -⟩ := DataW.trod_int Try.underlying3 z0_0
  obtain rfl : c0_0 = .int .i64 tm0 := by simpa using e0_0
  obtain ⟨vt0, e0_1, -, -⟩ := DataW.trod_int Try.underlying3 z0_1
  obtain rfl : c0_1 = .int .i64 vt0 := by simpa using e0_1
  obtain ⟨a0, len0, cap0, l0, rfl, el0, ml0, sl0, rl0⟩ := entries_field Try.underlying22 Try.underlying42 (by kernel_rfl) rfl rfl (by kernel_rfl) (by kernel_rfl) Try.underlying3 Try.underlying9 z0_2
  obtain ⟨c1_0, c1_1, c1_2, u1_0, u1_1, u1_2, n1, rfl, z1_0, z1_1, z1_2⟩ := open_agg3 Try.underlying24 (by kernel_rfl) (by kernel_rfl) (hval 1 24 v1 rfl rfl) h1
  obtain ⟨tm1, e1_0, -, -⟩ := DataW.trod_int Try.underlying3 z1_0
  obtain rfl : c1_0 = .int .i64 tm1 := by simpa using e1_0
  obtain ⟨vt1, e1_1, -, -⟩ := DataW.trod_int Try.underlying3 z1_1
  obtain rfl : c1_1 = .int .i64 vt1 := by simpa using e1_1
  obtain ⟨a1, len1, cap1, l1, rfl, el1, ml1, sl1, rl1⟩ := entries_field Try.underlying22 Try.underlying42 (by kernel_rfl) rfl rfl (by kernel_rfl) (by kernel_rfl) Try.underlying3 Try.underlying9 z1_2
  clear hA0 hval0
  refine (walk W tm0 vt0 a0 len0 cap0 l0 el0 ml0 sl0 tm1 vt1 a1 len1 cap1 l1 el1 ml1 sl1 rl0 rl1).mono fun e W' ⟨he, bel⟩ => ?_
  subst he
  exact ⟨_, rfl, _, _, _, [], _, [], hW', trodAll_mk1 (shut_bool Try.underlying4 _), (trodAll_cons_mk (Below.trod laidOut (by kernel_rfl) (of_decide_eq_true (by kernel_rfl)) k0 bel lt0) (trodAll_cons_mk (Below.trod laidOut (by kernel_rfl) (of_decide_eq_true (by kernel_rfl)) k1 bel lt1) trodAll_mk0)), rfl, bel.frame _, fun h => by cases h⟩

theorem over : Rows.fnExactSameStateRow.holds Try.pinned (OpenSpec.ofChange Rows.fnExactSameStateSpec) :=
  OpenClaim.holds_of_wide 3 Try.f3 rfl rfl rfl rfl rfl rfl rfl ⟨rfl, rfl, rfl, rfl, rfl⟩ rfl rfl rfl rfl rfl (by kernel_rfl) Try.func3 (by kernel_rfl)
    (of_decide_eq_true (by kernel_rfl)) (by unfold Func.isWrapper; first | (rw [if_pos (by decide +kernel)]; kernel_rfl) | (rw [if_neg (by decide +kernel)]; exact ⟨rfl, rfl⟩))
    (fun os started H enc _ => lifted os started H enc)

theorem proved : Rows.FnExactSameStateSaid := over
#print axioms proved
end Go.Proofs.Ytkpipnccjiahjaa
