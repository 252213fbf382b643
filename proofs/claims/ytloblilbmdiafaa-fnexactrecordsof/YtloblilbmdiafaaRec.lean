/- At every argument that can be read, the law FnExactRecordsOf returns true and leaves its arguments as they were: no condition. -/
import Derived.Test.YtloblilbmdiafaaRecAll
import Derived.Test.YtloblilbmdiafaaAgg3
import Derived.Test.YtloblilbmdiafaaEntO
import Derived.WalkKit
import Derived.ProofKit
import Derived.OpenShut
import Derived.ShutString
import Derived.ChangeOld
import Derived.Below
import Derived.Deep.Strs
namespace Go.Proofs.Ytloblilbmdiafaa
open Go.ChangeShapes Go.WideShapes Go.ChangeAt Go.RowKit
set_option linter.unusedVariables false

theorem own : ownKnob Try.prog.godebug = none := by kernel_rfl
theorem laidOut : laidOutB Try.prog = true := by kernel_rfl
set_option maxHeartbeats 4000000 in
set_option maxRecDepth 100000 in
theorem walk (w : World) (tm0 vt0 : Int) (a0 : Option Addr) (len0 cap0 : Nat) (l0 : List (Int × ByteArray)) (el0 : l0.length = len0) (ml0 : len0 ≤ maxLen) (sl0 : ∀ k (h : k < l0.length), l0[k].2.size ≤ maxLen) (tm1 vt1 : Int) (a1 : Option Addr) (len1 cap1 : Nat) (l1 : List (Int × ByteArray)) (el1 : l1.length = len1) (ml1 : len1 ≤ maxLen) (sl1 : ∀ k (h : k < l1.length), l1[k].2.size ≤ maxLen) (rl0 : RowV w a0 (cE l0)) (rl1 : RowV w a1 (cE l1)) :
    Calls Try.prog 3 #[.agg #[.int .i64 tm0, .int .i64 vt0, .slice a0 len0 cap0], .agg #[.int .i64 tm1, .int .i64 vt1, .slice a1 len1 cap1]] w fun e w' => e = .returned (.bool true) ∧ Below w.heap.size w w' := by
  obtain ⟨L, c, his, hLL⟩ := rec_ex tm0 vt0 l0 tm1 vt1 l1
  have HIS := hide his
  have HLL := hide hLL
  have nc : (c != c) = false := by simp
  obtain ⟨q, hq⟩ : ∃ q : Int, q = ((1 + L.length : Nat) : Int) := ⟨_, rfl⟩
  have q1 : ¬ q < 0 := by omega
  have nq : (q != q) = false := by simp
  have HQ := hide hq
  obtain ⟨kx, hkx⟩ : ∃ kx : Nat, (kx : Int) = ((1 + len0 * 2 : Nat) : Int) := ⟨_, rfl⟩
  have HKX := hide hkx
  obtain ⟨ky, hky⟩ : ∃ ky : Nat, (ky : Int) = ((kx + len1 * 2 : Nat) : Int) := ⟨_, rfl⟩
  have HKY := hide hky
  have hk0 : ¬ (ky : Int) < 0 := by omega
  clear his hLL hq hkx hky
  have HN0 := hide el0
  have HM0 := hide ml0
  have HS0 := hide sl0
  have HR0 := hide rl0
  clear el0 ml0 sl0 rl0
  have HN1 := hide el1
  have HM1 := hide ml1
  have HS1 := hide sl1
  have HR1 := hide rl1
  clear el1 ml1 sl1 rl1
  have B_1 := hide (Go.Joins.below_alloc2 w (.cells #[.int .i64 tm0, .int .i64 vt0, .slice a0 len0 cap0] 24) (.cells #[.int .i64 tm1, .int .i64 vt1, .slice a1 len1 cap1] 24))
  have A0_2 := hide ((BF.new w #[.int .i64 tm0, .int .i64 vt0, .slice a0 len0 cap0] 24).alloc (.cells #[.int .i64 tm1, .int .i64 vt1, .slice a1 len1 cap1] 24))
  have A1_3 := hide (BF.new (w.alloc (.cells #[.int .i64 tm0, .int .i64 vt0, .slice a0 len0 cap0] 24)) #[.int .i64 tm1, .int .i64 vt1, .slice a1 len1 cap1] 24)
  rw [show (w.alloc (.cells #[.int .i64 tm0, .int .i64 vt0, .slice a0 len0 cap0] 24)).heap.size = w.heap.size + 1 from by simp] at A1_3
  go_enter Try.func3, Try.ntmps3
  have kA0 := (unhide A0_2).S
  have kA1 := (unhide A1_3).S
  go_wp2_with fail
  refine (szState tm0 vt0 a0 cap0 len0 l0 HN0 1048576 (Nat.le_refl _) HM0 HS0 _ ((unhide HR0).below (unhide B_1))).mono ?_
  rintro e w1 ⟨x, rfl, hb1, hx⟩
  clear kA0 kA1
  have B_4 := hide ((unhide B_1).trans (hb1.mono (unhide B_1).size))
  clear B_1
  have A0_5 := hide ((unhide A0_2).below hb1)
  clear A0_2
  have A1_6 := hide ((unhide A1_3).below hb1)
  clear A1_3
  clear hb1
  rcases hx with rfl | ⟨z0, rfl, hz0, hl0, hs0⟩
  · go_wp2_with fail
    go_ret
    exact ⟨rfl, (unhide B_4)⟩
  have hzn0 : ¬ (z0 : Int) < 0 := by omega
  have HZ0 := hide hs0
  have HL0 := hide hl0
  have HY0 := hide hz0
  clear hs0 HM0 HS0 hl0 hz0
  have kA0 := (unhide A0_5).S
  have kA1 := (unhide A1_6).S
  go_wp2_with fail
  refine (szState tm1 vt1 a1 cap1 len1 l1 HN1 z0 (by have := unhide HY0; omega) HM1 HS1 _ ((unhide HR1).below (unhide B_4))).mono ?_
  rintro e w2 ⟨x, rfl, hb2, hx⟩
  clear kA0 kA1
  have B_7 := hide ((unhide B_4).trans (hb2.mono (unhide B_4).size))
  clear B_4
  have A0_8 := hide ((unhide A0_5).below hb2)
  clear A0_5
  have A1_9 := hide ((unhide A1_6).below hb2)
  clear A1_6
  clear hb2
  rcases hx with rfl | ⟨z1, rfl, hz1, hl1, hs1⟩
  · go_wp2_with fail
    go_ret
    exact ⟨rfl, (unhide B_7)⟩
  have hzn1 : ¬ (z1 : Int) < 0 := by omega
  have HZ1 := hide hs1
  have HL1 := hide hl1
  have HY1 := hide hz1
  clear hs1 HM1 HS1 hl1 hz1
  have hKX : 0 < kx ∧ kx + len1 * 2 ≤ 3000000 ∧ 1 + len0 * 2 ≤ 3000000 := by have := unhide HY0; have := unhide HY1; have := unhide HKX; omega
  obtain ⟨hkx0, hkx1, hkx2⟩ := hKX
  have HK0 := hide hkx0
  have HK1 := hide hkx1
  have HK2 := hide hkx2
  clear hkx0 hkx1 hkx2
  have TOK : True := trivial
  have K2 := And.intro (unhide A0_8).S (unhide A1_9).S
  have LA : w.heap.size < _ := (unhide A0_8).lt
  have LC : (w.heap.size + 1) < _ := (unhide A1_9).lt
  go_wp2_with fail
  go_region_held3 (fun w' => (∀ o, w'.cell? ⟨w.heap.size, o, none⟩ = (#[.int .i64 tm0, .int .i64 vt0, .slice a0 len0 cap0] : Array Value)[o]?) ∧ (∀ o, w'.cell? ⟨(w.heap.size + 1), o, none⟩ = (#[.int .i64 tm1, .int .i64 vt1, .slice a1 len1 cap1] : Array Value)[o]?)) (first | exact K2 | exact K3 | exact K4 | exact K5) (first | (clear TOK; go_at_call 6; refine (toState tm0 vt0 a0 cap0 len0 l0 HN0 (unhide HL0) _ ((unhide HR0).below (unhide B_7).drew)).mono ?_; rintro e w3 ⟨g3, rfl, o3, hb3⟩; have K3 := And.intro (fun o => (hb3.cell (p := ⟨w.heap.size, o, none⟩) LA).trans (K2.1 o)) (fun o => (hb3.cell (p := ⟨(w.heap.size + 1), o, none⟩) LC).trans (K2.2 o)); have HO3 := hide (rowZ_at o3); have HT3 := hide (below_undrew hb3); have LA3 := Nat.lt_of_lt_of_le LA (unhide HT3).size; have LC3 := Nat.lt_of_lt_of_le LC (unhide HT3).size; clear o3 hb3) | (go_at_call 6; refine (toState tm1 vt1 a1 cap1 len1 l1 HN1 (unhide HL1) _ (((unhide HR1).below (unhide B_7)).below (unhide HT3))).mono ?_; rintro e w4 ⟨g4, rfl, o4, hb4⟩; have K4 := And.intro (fun o => (hb4.cell (p := ⟨w.heap.size, o, none⟩) LA3).trans (K3.1 o)) (fun o => (hb4.cell (p := ⟨(w.heap.size + 1), o, none⟩) LC3).trans (K3.2 o)); have HO34 := hide ((unhide HO3).below hb4); have HO4 := hide (rowZ_at o4); have HT4 := hide ((unhide HT3).trans (hb4.mono (unhide HT3).size)); have LA4 := Nat.lt_of_lt_of_le LA3 hb4.size; have LC4 := Nat.lt_of_lt_of_le LC3 hb4.size; clear o4 hb4) | (go_at_call 5; refine (srecs tm0 vt0 _ _ len0 l0 HN0 (unhide HL0) HZ0 tm1 vt1 _ _ _ len1 l1 HN1 (unhide HL1) HZ1 L c HIS _ (unhide HO34) (unhide HO4)).mono ?_; rintro e w5 ⟨vW, rfl, hoW, hb5⟩; have K5 := And.intro (fun o => (hb5.cell (p := ⟨w.heap.size, o, none⟩) LA4).trans (K4.1 o)) (fun o => (hb5.cell (p := ⟨(w.heap.size + 1), o, none⟩) LC4).trans (K4.2 o)); obtain ⟨aW, cW, rfl, -⟩ := own_rowV hoW; have HHW := hide (held_of hoW); have zzW := hb5.size; clear hoW; have HT5 := hide ((unhide HT4).trans (hb5.mono (unhide HT4).size)); clear hb5))
  clear K2 K3 K4 K5 HO3 HO34 HO4 HT3 HT4 LA LC LA3 LC3 LA4 LC4
  have B_10 := hide ((unhide B_7).trans ((unhide HT5).mono (unhide B_7).size))
  clear B_7
  have A0_11 := hide ((unhide A0_8).below (unhide HT5))
  clear A0_8
  have A1_12 := hide ((unhide A1_9).below (unhide HT5))
  clear A1_9
  clear HT5
  have zA : w.heap.size + 1 < w5.heap.size := (unhide A1_12).lt
  have kA0 := (unhide A0_11).S
  have kA1 := (unhide A1_12).S
  go_wp2_with fail
  refine (toState tm0 vt0 a0 cap0 len0 l0 HN0 (unhide HL0) _ ((unhide HR0).below (unhide B_10))).mono ?_
  rintro e w6 ⟨g6, rfl, o6, hb6⟩
  clear kA0 kA1
  have z6 : w5.heap.size ≤ w6.heap.size := by have := hb6.size; (try simp at this); omega
  have B_13 := hide ((unhide B_10).trans (hb6.mono (unhide B_10).size))
  clear B_10
  have A0_14 := hide ((unhide A0_11).below hb6)
  clear A0_11
  have A1_15 := hide ((unhide A1_12).below hb6)
  clear A1_12
  have W_16 := hide ((unhide HHW).below hb6 (unhide HHW).le)
  clear HHW
  clear hb6
  have XR_17 := hide (heldZ_of o6)
  clear o6
  try simp only [World.size_alloc] at XR_17
  have B_18 := hide ((unhide B_13).alloc (unhide B_13).size (.cells #[.int .i64 tm0, .int .i64 vt0, .slice (some ⟨g6, 0, none⟩) len0 len0] 31))
  clear B_13
  have A0_19 := hide ((unhide A0_14).alloc (.cells #[.int .i64 tm0, .int .i64 vt0, .slice (some ⟨g6, 0, none⟩) len0 len0] 31))
  clear A0_14
  have A1_20 := hide ((unhide A1_15).alloc (.cells #[.int .i64 tm0, .int .i64 vt0, .slice (some ⟨g6, 0, none⟩) len0 len0] 31))
  clear A1_15
  have W_21 := hide ((unhide W_16).below (Go.Joins.below_alloc1 _ (.cells #[.int .i64 tm0, .int .i64 vt0, .slice (some ⟨g6, 0, none⟩) len0 len0] 31)) (unhide W_16).le)
  clear W_16
  have XR_22 := hide ((unhide XR_17).below (Go.Joins.below_alloc1 _ (.cells #[.int .i64 tm0, .int .i64 vt0, .slice (some ⟨g6, 0, none⟩) len0 len0] 31)) (unhide XR_17).le)
  clear XR_17
  have X_23 := hide (BF.new w6 #[.int .i64 tm0, .int .i64 vt0, .slice (some ⟨g6, 0, none⟩) len0 len0] 31)
  have kA0 := (unhide A0_19).S
  have kA1 := (unhide A1_20).S
  go_wp2_with fail
  refine (toState tm1 vt1 a1 cap1 len1 l1 HN1 (unhide HL1) _ ((unhide HR1).below (unhide B_18))).mono ?_
  rintro e w7 ⟨g7, rfl, o7, hb7⟩
  clear kA0 kA1
  have z7 : w6.heap.size + 1 ≤ w7.heap.size := by have := hb7.size; (try simp at this); omega
  have B_24 := hide ((unhide B_18).trans (hb7.mono (unhide B_18).size))
  clear B_18
  have A0_25 := hide ((unhide A0_19).below hb7)
  clear A0_19
  have A1_26 := hide ((unhide A1_20).below hb7)
  clear A1_20
  have W_27 := hide ((unhide W_21).below hb7 (unhide W_21).le)
  clear W_21
  have XR_28 := hide ((unhide XR_22).below hb7 (unhide XR_22).le)
  clear XR_22
  have X_29 := hide ((unhide X_23).below hb7)
  clear X_23
  clear hb7
  have YR_30 := hide (heldZ_of o7)
  clear o7
  try simp only [World.size_alloc] at YR_30
  have B_31 := hide ((unhide B_24).alloc (unhide B_24).size (.cells #[.int .i64 tm1, .int .i64 vt1, .slice (some ⟨g7, 0, none⟩) len1 len1] 31))
  clear B_24
  have A0_32 := hide ((unhide A0_25).alloc (.cells #[.int .i64 tm1, .int .i64 vt1, .slice (some ⟨g7, 0, none⟩) len1 len1] 31))
  clear A0_25
  have A1_33 := hide ((unhide A1_26).alloc (.cells #[.int .i64 tm1, .int .i64 vt1, .slice (some ⟨g7, 0, none⟩) len1 len1] 31))
  clear A1_26
  have W_34 := hide ((unhide W_27).below (Go.Joins.below_alloc1 _ (.cells #[.int .i64 tm1, .int .i64 vt1, .slice (some ⟨g7, 0, none⟩) len1 len1] 31)) (unhide W_27).le)
  clear W_27
  have XR_35 := hide ((unhide XR_28).below (Go.Joins.below_alloc1 _ (.cells #[.int .i64 tm1, .int .i64 vt1, .slice (some ⟨g7, 0, none⟩) len1 len1] 31)) (unhide XR_28).le)
  clear XR_28
  have X_36 := hide ((unhide X_29).alloc (.cells #[.int .i64 tm1, .int .i64 vt1, .slice (some ⟨g7, 0, none⟩) len1 len1] 31))
  clear X_29
  have YR_37 := hide ((unhide YR_30).below (Go.Joins.below_alloc1 _ (.cells #[.int .i64 tm1, .int .i64 vt1, .slice (some ⟨g7, 0, none⟩) len1 len1] 31)) (unhide YR_30).le)
  clear YR_30
  have Y_38 := hide (BF.new w7 #[.int .i64 tm1, .int .i64 vt1, .slice (some ⟨g7, 0, none⟩) len1 len1] 31)
  have kX := (unhide X_36).S
  have kY := (unhide Y_38).S
  go_wp2_with fail
  refine (irecs tm0 vt0 _ _ len0 l0 HN0 (unhide HL0) HZ0 tm1 vt1 _ _ _ len1 (Nat.le_refl _) (unhide HL1) l1 HN1 (unhide HL1) HZ1 L c HIS _ (unhide XR_35).rowV (unhide YR_37).rowV).mono ?_
  rintro e w8 ⟨vG, rfl, hoG, hb8⟩
  clear kX kY
  have z8 : w7.heap.size + 1 ≤ w8.heap.size := by have := hb8.size; (try simp at this); omega
  have B_39 := hide ((unhide B_31).trans (hb8.mono (unhide B_31).size))
  clear B_31
  have A0_40 := hide ((unhide A0_32).below hb8)
  clear A0_32
  have A1_41 := hide ((unhide A1_33).below hb8)
  clear A1_33
  have W_42 := hide ((unhide W_34).below hb8 (unhide W_34).le)
  clear W_34
  have XR_43 := hide ((unhide XR_35).below hb8 (unhide XR_35).le)
  clear XR_35
  have X_44 := hide ((unhide X_36).below hb8)
  clear X_36
  have YR_45 := hide ((unhide YR_37).below hb8 (unhide YR_37).le)
  clear YR_37
  have Y_46 := hide ((unhide Y_38).below hb8)
  clear Y_38
  clear hb8
  obtain ⟨aG, cG, rfl, -⟩ := own_rowV hoG
  have G_47 := hide (held_of hoG)
  clear hoG
  try simp only [World.size_alloc] at G_47
  go_wp2_with fail
  refine (sameString aG aW cG cW L (Nat.le_trans (unhide HLL) (by decide)) _ (unhide G_47).rowV (unhide W_42).rowV).mono ?_
  rintro e w9 ⟨rfl, hb9⟩
  have B_48 := hide ((unhide B_39).trans (hb9.mono (unhide B_39).size))
  clear B_39
  have A0_49 := hide ((unhide A0_40).below hb9)
  clear A0_40
  have A1_50 := hide ((unhide A1_41).below hb9)
  clear A1_41
  have W_51 := hide ((unhide W_42).below hb9 (unhide W_42).le)
  clear W_42
  have XR_52 := hide ((unhide XR_43).below hb9 (unhide XR_43).le)
  clear XR_43
  have X_53 := hide ((unhide X_44).below hb9)
  clear X_44
  have YR_54 := hide ((unhide YR_45).below hb9 (unhide YR_45).le)
  clear YR_45
  have Y_55 := hide ((unhide Y_46).below hb9)
  clear Y_46
  have G_56 := hide ((unhide G_47).below hb9 (unhide G_47).le)
  clear G_47
  clear hb9
  have K6 := And.intro (unhide A0_49).S (unhide X_53).S
  have HU6 := hide (unhide XR_52).rowV
  have LA : w.heap.size < _ := (unhide A0_49).lt
  have LX : w6.heap.size < _ := (unhide X_53).lt
  go_wp2_with fail
  go_region_held3 (fun w' => (∀ o, w'.cell? ⟨w.heap.size, o, none⟩ = (#[.int .i64 tm0, .int .i64 vt0, .slice a0 len0 cap0] : Array Value)[o]?) ∧ (∀ o, w'.cell? ⟨w6.heap.size, o, none⟩ = (#[.int .i64 tm0, .int .i64 vt0, .slice (some ⟨g6, 0, none⟩) len0 len0] : Array Value)[o]?)) (first | exact K6 | exact K7 | exact K8) (first | (go_at_call 6; refine (toState tm0 vt0 a0 cap0 len0 l0 HN0 (unhide HL0) _ ((unhide HR0).below (unhide B_48).drew)).mono ?_; rintro e w10 ⟨g10, rfl, o10, hb10⟩; have K7 := And.intro (fun o => (hb10.cell (p := ⟨w.heap.size, o, none⟩) LA).trans (K6.1 o)) (fun o => (hb10.cell (p := ⟨w6.heap.size, o, none⟩) LX).trans (K6.2 o)); have HO7 := hide (rowZ_at o10); have HU7 := hide ((unhide HU6).below (below_undrew hb10)); have HT7 := hide (below_undrew hb10); have LA7 := Nat.lt_of_lt_of_le LA (unhide HT7).size; have LX7 := Nat.lt_of_lt_of_le LX (unhide HT7).size; clear o10 hb10) | (go_at_call 9; refine (eqState tm0 vt0 _ _ _ _ len0 l0 HN0 (unhide HL0) _ (unhide HU7) (unhide HO7)).mono ?_; rintro e w11 ⟨rfl, hb11⟩; have K8 := And.intro (fun o => (hb11.cell (p := ⟨w.heap.size, o, none⟩) LA7).trans (K7.1 o)) (fun o => (hb11.cell (p := ⟨w6.heap.size, o, none⟩) LX7).trans (K7.2 o)); have HT8 := hide ((unhide HT7).trans (hb11.mono (unhide HT7).size)); clear hb11))
  clear K6 K7 K8 HO7 HU6 HU7 HT7 LA LX LA7 LX7
  have B_57 := hide ((unhide B_48).trans ((unhide HT8).mono (unhide B_48).size))
  clear B_48
  have A0_58 := hide ((unhide A0_49).below (unhide HT8))
  clear A0_49
  have A1_59 := hide ((unhide A1_50).below (unhide HT8))
  clear A1_50
  have W_60 := hide ((unhide W_51).below (unhide HT8) (unhide W_51).le)
  clear W_51
  have XR_61 := hide ((unhide XR_52).below (unhide HT8) (unhide XR_52).le)
  clear XR_52
  have X_62 := hide ((unhide X_53).below (unhide HT8))
  clear X_53
  have YR_63 := hide ((unhide YR_54).below (unhide HT8) (unhide YR_54).le)
  clear YR_54
  have Y_64 := hide ((unhide Y_55).below (unhide HT8))
  clear Y_55
  have G_65 := hide ((unhide G_56).below (unhide HT8) (unhide G_56).le)
  clear G_56
  clear HT8
  have K6 := And.intro (unhide A1_59).S (unhide Y_64).S
  have HU6 := hide (unhide YR_63).rowV
  have LA : (w.heap.size + 1) < _ := (unhide A1_59).lt
  have LX : w7.heap.size < _ := (unhide Y_64).lt
  go_wp2_with fail
  go_region_held3 (fun w' => (∀ o, w'.cell? ⟨(w.heap.size + 1), o, none⟩ = (#[.int .i64 tm1, .int .i64 vt1, .slice a1 len1 cap1] : Array Value)[o]?) ∧ (∀ o, w'.cell? ⟨w7.heap.size, o, none⟩ = (#[.int .i64 tm1, .int .i64 vt1, .slice (some ⟨g7, 0, none⟩) len1 len1] : Array Value)[o]?)) (first | exact K6 | exact K7 | exact K8) (first | (go_at_call 6; refine (toState tm1 vt1 a1 cap1 len1 l1 HN1 (unhide HL1) _ ((unhide HR1).below (unhide B_57).drew)).mono ?_; rintro e w12 ⟨g12, rfl, o12, hb12⟩; have K7 := And.intro (fun o => (hb12.cell (p := ⟨(w.heap.size + 1), o, none⟩) LA).trans (K6.1 o)) (fun o => (hb12.cell (p := ⟨w7.heap.size, o, none⟩) LX).trans (K6.2 o)); have HO7 := hide (rowZ_at o12); have HU7 := hide ((unhide HU6).below (below_undrew hb12)); have HT7 := hide (below_undrew hb12); have LA7 := Nat.lt_of_lt_of_le LA (unhide HT7).size; have LX7 := Nat.lt_of_lt_of_le LX (unhide HT7).size; clear o12 hb12) | (go_at_call 9; refine (eqState tm1 vt1 _ _ _ _ len1 l1 HN1 (unhide HL1) _ (unhide HU7) (unhide HO7)).mono ?_; rintro e w13 ⟨rfl, hb13⟩; have K8 := And.intro (fun o => (hb13.cell (p := ⟨(w.heap.size + 1), o, none⟩) LA7).trans (K7.1 o)) (fun o => (hb13.cell (p := ⟨w7.heap.size, o, none⟩) LX7).trans (K7.2 o)); have HT8 := hide ((unhide HT7).trans (hb13.mono (unhide HT7).size)); clear hb13))
  clear K6 K7 K8 HO7 HU6 HU7 HT7 LA LX LA7 LX7
  have B_66 := hide ((unhide B_57).trans ((unhide HT8).mono (unhide B_57).size))
  clear B_57
  have A0_67 := hide ((unhide A0_58).below (unhide HT8))
  clear A0_58
  have A1_68 := hide ((unhide A1_59).below (unhide HT8))
  clear A1_59
  have W_69 := hide ((unhide W_60).below (unhide HT8) (unhide W_60).le)
  clear W_60
  have XR_70 := hide ((unhide XR_61).below (unhide HT8) (unhide XR_61).le)
  clear XR_61
  have X_71 := hide ((unhide X_62).below (unhide HT8))
  clear X_62
  have YR_72 := hide ((unhide YR_63).below (unhide HT8) (unhide YR_63).le)
  clear YR_63
  have Y_73 := hide ((unhide Y_64).below (unhide HT8))
  clear Y_64
  have G_74 := hide ((unhide G_65).below (unhide HT8) (unhide G_65).le)
  clear G_65
  clear HT8
  have kX := (unhide X_71).S
  go_wp2_with fail
  refine (markState tm0 vt0 _ len0 _ _ _ 1 (kx : Int) HKX _ (by decide) (unhide HK2) _ (unhide XR_70)).mono ?_
  rintro e w14 ⟨rfl, h14, hg14⟩
  clear kX
  have B_75 := hide (Below.markedZ (unhide B_66) (unhide B_66).size (unhide XR_70) (by omega) hg14)
  clear B_66
  have A0_76 := hide ((unhide A0_67).grown hg14 (fun hk => by have := (unhide XR_70).blk _ hk; omega))
  clear A0_67
  have A1_77 := hide ((unhide A1_68).grown hg14 (fun hk => by have := (unhide XR_70).blk _ hk; omega))
  clear A1_68
  have W_78 := hide ((unhide W_69).grown hg14 (fun k hk => by have := (unhide XR_70).blk k hk; omega))
  clear W_69
  have X_79 := hide ((unhide X_71).grown hg14 (fun hk => by have := (unhide XR_70).blk _ hk; omega))
  clear X_71
  have YR_80 := hide ((unhide YR_72).grown hg14 (fun k hk => by have := (unhide XR_70).blk k hk; omega))
  clear YR_72
  have Y_81 := hide ((unhide Y_73).grown hg14 (fun hk => by have := (unhide XR_70).blk _ hk; omega))
  clear Y_73
  have G_82 := hide ((unhide G_74).grown hg14 (fun k hk => by have := (unhide XR_70).blk k hk; omega))
  clear G_74
  have XR_m14 := hide h14
  clear h14 hg14 XR_70
  clear XR_m14
  clear X_79
  have kY := (unhide Y_81).S
  go_wp2_with fail
  refine (markState tm1 vt1 _ len1 _ _ _ kx (ky : Int) HKY _ (unhide HK0) (unhide HK1) _ (unhide YR_80)).mono ?_
  rintro e w15 ⟨rfl, h15, hg15⟩
  clear kY
  have B_83 := hide (Below.markedZ (unhide B_75) (unhide B_75).size (unhide YR_80) (by omega) hg15)
  clear B_75
  have A0_84 := hide ((unhide A0_76).grown hg15 (fun hk => by have := (unhide YR_80).blk _ hk; omega))
  clear A0_76
  have A1_85 := hide ((unhide A1_77).grown hg15 (fun hk => by have := (unhide YR_80).blk _ hk; omega))
  clear A1_77
  have W_86 := hide ((unhide W_78).grown hg15 (fun k hk => by have := (unhide YR_80).blk k hk; omega))
  clear W_78
  have Y_87 := hide ((unhide Y_81).grown hg15 (fun hk => by have := (unhide YR_80).blk _ hk; omega))
  clear Y_81
  have G_88 := hide ((unhide G_82).grown hg15 (fun k hk => by have := (unhide YR_80).blk k hk; omega))
  clear G_82
  have YR_m15 := hide h15
  clear h15 hg15 YR_80
  clear YR_m15
  clear Y_87
  go_wp2_with fail
  refine (sameString aG aW cG cW L (Nat.le_trans (unhide HLL) (by decide)) _ (unhide G_88).rowV (unhide W_86).rowV).mono ?_
  rintro e w16 ⟨rfl, hb16⟩
  have B_89 := hide ((unhide B_83).trans (hb16.mono (unhide B_83).size))
  clear B_83
  have A0_90 := hide ((unhide A0_84).below hb16)
  clear A0_84
  have A1_91 := hide ((unhide A1_85).below hb16)
  clear A1_85
  have W_92 := hide ((unhide W_86).below hb16 (unhide W_86).le)
  clear W_86
  have G_93 := hide ((unhide G_88).below hb16 (unhide G_88).le)
  clear G_88
  clear hb16
  go_wp2_with fail
  refine (markString1 _ L.length _ _ q _ (unhide HQ) (Nat.le_trans (unhide HLL) (by decide)) _ (unhide G_93)).mono ?_
  rintro e w17 ⟨rfl, h17, hg17⟩
  have B_94 := hide (Below.marked (unhide B_89) (unhide B_89).size (unhide G_93) (by omega) hg17)
  clear B_89
  have A0_95 := hide ((unhide A0_90).grown hg17 (fun hk => by have := (unhide G_93).blk _ hk; omega))
  clear A0_90
  have A1_96 := hide ((unhide A1_91).grown hg17 (fun hk => by have := (unhide G_93).blk _ hk; omega))
  clear A1_91
  have W_97 := hide ((unhide W_92).grown hg17 (fun k hk => by have := (unhide G_93).blk k hk; omega))
  clear W_92
  have G_m17 := hide h17
  clear h17 hg17 G_93
  go_wp2_with fail
  refine (heldString1 _ L.length _ _ q (unhide HQ) (Nat.le_trans (unhide HLL) (by decide)) _ (unhide G_m17)).mono ?_
  rintro e w18 ⟨rfl, hb18⟩
  have B_98 := hide ((unhide B_94).trans (hb18.mono (unhide B_94).size))
  clear B_94
  have A0_99 := hide ((unhide A0_95).below hb18)
  clear A0_95
  have A1_100 := hide ((unhide A1_96).below hb18)
  clear A1_96
  have W_101 := hide ((unhide W_97).below hb18 (unhide W_97).le)
  clear W_97
  have G_102 := hide ((unhide G_m17).below hb18 (unhide G_m17).le)
  clear G_m17
  clear hb18
  have TOK : True := trivial
  have K2 := And.intro (unhide A0_99).S (unhide A1_100).S
  have LA : w.heap.size < _ := (unhide A0_99).lt
  have LC : (w.heap.size + 1) < _ := (unhide A1_100).lt
  go_wp2_with fail
  go_region_held3 (fun w' => (∀ o, w'.cell? ⟨w.heap.size, o, none⟩ = (#[.int .i64 tm0, .int .i64 vt0, .slice a0 len0 cap0] : Array Value)[o]?) ∧ (∀ o, w'.cell? ⟨(w.heap.size + 1), o, none⟩ = (#[.int .i64 tm1, .int .i64 vt1, .slice a1 len1 cap1] : Array Value)[o]?)) (first | exact K2 | exact K3 | exact K4 | exact K5) (first | (clear TOK; go_at_call 6; refine (toState tm0 vt0 a0 cap0 len0 l0 HN0 (unhide HL0) _ ((unhide HR0).below (unhide B_98).drew)).mono ?_; rintro e w19 ⟨g19, rfl, o19, hb19⟩; have K3 := And.intro (fun o => (hb19.cell (p := ⟨w.heap.size, o, none⟩) LA).trans (K2.1 o)) (fun o => (hb19.cell (p := ⟨(w.heap.size + 1), o, none⟩) LC).trans (K2.2 o)); have HO3 := hide (rowZ_at o19); have HT3 := hide (below_undrew hb19); have LA3 := Nat.lt_of_lt_of_le LA (unhide HT3).size; have LC3 := Nat.lt_of_lt_of_le LC (unhide HT3).size; clear o19 hb19) | (go_at_call 6; refine (toState tm1 vt1 a1 cap1 len1 l1 HN1 (unhide HL1) _ (((unhide HR1).below (unhide B_98)).below (unhide HT3))).mono ?_; rintro e w20 ⟨g20, rfl, o20, hb20⟩; have K4 := And.intro (fun o => (hb20.cell (p := ⟨w.heap.size, o, none⟩) LA3).trans (K3.1 o)) (fun o => (hb20.cell (p := ⟨(w.heap.size + 1), o, none⟩) LC3).trans (K3.2 o)); have HO34 := hide ((unhide HO3).below hb20); have HO4 := hide (rowZ_at o20); have HT4 := hide ((unhide HT3).trans (hb20.mono (unhide HT3).size)); have LA4 := Nat.lt_of_lt_of_le LA3 hb20.size; have LC4 := Nat.lt_of_lt_of_le LC3 hb20.size; clear o20 hb20) | (go_at_call 7; refine (irecs tm0 vt0 _ _ len0 l0 HN0 (unhide HL0) HZ0 tm1 vt1 _ _ _ len1 (Nat.le_refl _) (unhide HL1) l1 HN1 (unhide HL1) HZ1 L c HIS _ (unhide HO34) (unhide HO4)).mono ?_; rintro e w21 ⟨vH, rfl, hoH, hb21⟩; have K5 := And.intro (fun o => (hb21.cell (p := ⟨w.heap.size, o, none⟩) LA4).trans (K4.1 o)) (fun o => (hb21.cell (p := ⟨(w.heap.size + 1), o, none⟩) LC4).trans (K4.2 o)); obtain ⟨aH, cH, rfl, -⟩ := own_rowV hoH; have HHH := hide (held_of hoH); have zzH := hb21.size; clear hoH; have HT5 := hide ((unhide HT4).trans (hb21.mono (unhide HT4).size)); clear hb21))
  clear K2 K3 K4 K5 HO3 HO34 HO4 HT3 HT4 LA LC LA3 LC3 LA4 LC4
  have B_103 := hide ((unhide B_98).trans ((unhide HT5).mono (unhide B_98).size))
  clear B_98
  have A0_104 := hide ((unhide A0_99).below (unhide HT5))
  clear A0_99
  have A1_105 := hide ((unhide A1_100).below (unhide HT5))
  clear A1_100
  have W_106 := hide ((unhide W_101).below (unhide HT5) (unhide W_101).le)
  clear W_101
  have G_107 := hide ((unhide G_102).below (unhide HT5) (unhide G_102).le)
  clear G_102
  clear HT5
  go_wp2_with fail
  refine (sameString aH aW cH cW L (Nat.le_trans (unhide HLL) (by decide)) _ (unhide HHH).rowV (unhide W_106).rowV).mono ?_
  rintro e w22 ⟨rfl, hb22⟩
  have B_108 := hide ((unhide B_103).trans (hb22.mono (unhide B_103).size))
  clear B_103
  have A0_109 := hide ((unhide A0_104).below hb22)
  clear A0_104
  have A1_110 := hide ((unhide A1_105).below hb22)
  clear A1_105
  have W_111 := hide ((unhide W_106).below hb22 (unhide W_106).le)
  clear W_106
  have G_112 := hide ((unhide G_107).below hb22 (unhide G_107).le)
  clear G_107
  have H_113 := hide ((unhide HHH).below hb22 (unhide HHH).le)
  clear HHH
  clear hb22
  go_wp2_with fail
  refine (heldString1 _ L.length _ _ q (unhide HQ) (Nat.le_trans (unhide HLL) (by decide)) _ (unhide G_112)).mono ?_
  rintro e w23 ⟨rfl, hb23⟩
  have B_114 := hide ((unhide B_108).trans (hb23.mono (unhide B_108).size))
  clear B_108
  have A0_115 := hide ((unhide A0_109).below hb23)
  clear A0_109
  have A1_116 := hide ((unhide A1_110).below hb23)
  clear A1_110
  have W_117 := hide ((unhide W_111).below hb23 (unhide W_111).le)
  clear W_111
  have G_118 := hide ((unhide G_112).below hb23 (unhide G_112).le)
  clear G_112
  have H_119 := hide ((unhide H_113).below hb23 (unhide H_113).le)
  clear H_113
  clear hb23
  go_wp2_with fail
  go_ret
  exact ⟨rfl, (unhide B_114)⟩

set_option maxRecDepth 100000 in
theorem lifted (os : Os) (started : os.Started) (H : Type) (enc : TypeId × Value → H) :
    ReturnsInHanded {} Try.checked os 3 .any (Rows.fnExactRecordsOfSpec.pre6 enc Try.prog Try.f3 Rows.fnExactRecordsOfRow.domain false) (Rows.fnExactRecordsOfSpec.post enc Try.prog Try.f3 false true false false) := by
  refine returnsInHanded_of_change (C := Try.checked) own started (by kernel_rfl) Try.func3
    (ChangeSpec.witness6 (enc := enc) (C := Try.checked) false ⟨#[], #[.agg #[.int .i64 0, .int .i64 0, .slice none 0 0], .agg #[.int .i64 0, .int .i64 0, .slice none 0 0]], []⟩ 8 (by kernel_rfl) (by kernel_rfl) (by kernel_rfl) (by kernel_rfl)) ?_
  intro W base args ds gs before hval0 hW hcnd _
  have hval : ∀ (j : Nat) t v, Try.f3.params[j]? = some t → args[j]? = some v → Value.okWide Try.prog W .any base t v := hval0
  have hW' := hW
  obtain ⟨p, q, hA0, hV, rfl, hfz, hnd⟩ := hW
  have hA : DataW.TrodAll enc Try.prog W 0 (fun _ => true) true Try.f3.params.toList args.toList ds p := hA0
  rw [Try.params3] at hA hval
  obtain ⟨v0, vs0, d_0, ds0, p0, q0, hargs, rfl, rfl, h0, r0⟩ := trodAll_cons hA
  obtain ⟨v1, vs1, d_1, ds1, p1, q1, rfl, rfl, rfl, h1, r1⟩ := trodAll_cons r0
  obtain ⟨rfl, rfl, rfl⟩ := trodAll_nil r1
  obtain rfl : args = #[v0, v1] := by cases args; simp_all
  obtain ⟨rfl, rfl⟩ := trodVars_none hV
  have k0 := h0
  have lt0 : ∀ x ∈ p0, x.block < W.heap.size := by obtain ⟨m, hm⟩ := k0; exact DataW.trod_lt m _ _ _ hm
  have k1 := h1
  have lt1 : ∀ x ∈ p1, x.block < W.heap.size := by obtain ⟨m, hm⟩ := k1; exact DataW.trod_lt m _ _ _ hm
  obtain ⟨c0_0, c0_1, c0_2, u0_0, u0_1, u0_2, n0, rfl, z0_0, z0_1, z0_2⟩ := open_agg3 Try.underlying24 (by kernel_rfl) (by kernel_rfl) (hval 0 24 v0 rfl rfl) h0
  obtain ⟨tm0, e0_0, -, -⟩ := DataW.trod_int Try.underlying3 z0_0
  obtain rfl : c0_0 = .int .i64 tm0 := by simpa using e0_0
  obtain ⟨vt0, e0_1, -, -⟩ := DataW.trod_int Try.underlying3 z0_1
  obtain rfl : c0_1 = .int .i64 vt0 := by simpa using e0_1
  obtain ⟨a0, len0, cap0, l0, rfl, el0, ml0, sl0, rl0⟩ := entries_field Try.underlying22 Try.underlying51 (by kernel_rfl) rfl rfl (by kernel_rfl) (by kernel_rfl) Try.underlying3 Try.underlying9 z0_2
  obtain ⟨c1_0, c1_1, c1_2, u1_0, u1_1, u1_2, n1, rfl, z1_0, z1_1, z1_2⟩ := open_agg3 Try.underlying24 (by kernel_rfl) (by kernel_rfl) (hval 1 24 v1 rfl rfl) h1
  obtain ⟨tm1, e1_0, -, -⟩ := DataW.trod_int Try.underlying3 z1_0
  obtain rfl : c1_0 = .int .i64 tm1 := by simpa using e1_0
  obtain ⟨vt1, e1_1, -, -⟩ := DataW.trod_int Try.underlying3 z1_1
  obtain rfl : c1_1 = .int .i64 vt1 := by simpa using e1_1
  obtain ⟨a1, len1, cap1, l1, rfl, el1, ml1, sl1, rl1⟩ := entries_field Try.underlying22 Try.underlying51 (by kernel_rfl) rfl rfl (by kernel_rfl) (by kernel_rfl) Try.underlying3 Try.underlying9 z1_2
  clear hA0 hval0
  refine (walk W tm0 vt0 a0 len0 cap0 l0 el0 ml0 sl0 tm1 vt1 a1 len1 cap1 l1 el1 ml1 sl1 rl0 rl1).mono fun e W' ⟨he, bel⟩ => ?_
  subst he
  exact ⟨_, rfl, _, _, _, [], _, [], hW', trodAll_mk1 (shut_bool Try.underlying4 _), (trodAll_cons_mk (Below.trod laidOut (by kernel_rfl) (of_decide_eq_true (by kernel_rfl)) k0 bel lt0) (trodAll_cons_mk (Below.trod laidOut (by kernel_rfl) (of_decide_eq_true (by kernel_rfl)) k1 bel lt1) trodAll_mk0)), rfl, bel.frame _, fun h => by cases h⟩

theorem over : Rows.fnExactRecordsOfRow.holds Try.pinned (OpenSpec.ofChange Rows.fnExactRecordsOfSpec) :=
  OpenClaim.holds_of_wide 3 Try.f3 rfl rfl rfl rfl rfl rfl rfl ⟨rfl, rfl, rfl, rfl, rfl⟩ rfl rfl rfl rfl rfl (by kernel_rfl) Try.func3 (by kernel_rfl)
    (of_decide_eq_true (by kernel_rfl)) (by unfold Func.isWrapper; first | (rw [if_pos (by decide +kernel)]; kernel_rfl) | (rw [if_neg (by decide +kernel)]; exact ⟨rfl, rfl⟩))
    (fun os started H enc _ => lifted os started H enc)

theorem proved : Rows.FnExactRecordsOfSaid := over
#print axioms proved
end Go.Proofs.Ytloblilbmdiafaa
