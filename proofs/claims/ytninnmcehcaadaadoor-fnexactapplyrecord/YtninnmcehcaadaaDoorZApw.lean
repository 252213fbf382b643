/- At every argument that can be read, with the listed variables as the program text lays them, the law FnExactApplyRecord returns true and leaves its arguments as they were: the tied card. -/
import Derived.Test.YtninnmcehcaadaaDoorCards
import Derived.Test.YtninnmcehcaadaaDoorTie
import Derived.Test.YtninnmcehcaadaaDoorZG48
import Derived.WalkKit
import Derived.ProofKit
import Derived.OpenShut
import Derived.ShutString
import Derived.ChangeOld
import Derived.Below
import Derived.OpenVars
import Derived.LaidMore
import Derived.Lay
import Derived.Stop.Joined
namespace Go.Proofs.YtninnmcehcaadaaDoor
open Go.ChangeShapes Go.WideShapes Go.ChangeAt Go.RowKit
open Go.ChangeMaps (open_string shut_string)
set_option linter.unusedVariables false

set_option maxHeartbeats 4000000 in
set_option maxRecDepth 100000 in
theorem walk (w : World) (tm0 vt0 : Int) (a0 : Option Addr) (len0 cap0 : Nat) (l0 : List (Int × ByteArray)) (el0 : l0.length = len0) (ml0 : len0 ≤ maxLen) (sl0 : ∀ k (h : k < l0.length), l0[k].2.size ≤ maxLen) (rl0 : RowV w a0 (cE l0)) (t1 : ByteArray) (wt1 : t1.size ≤ maxLen) (hT : ErrsIn w ∧ ∃ x0 x1 x2 x3 x4, StE w x0 x1 x2 x3 x4) :
    Calls Tryd.prog 3 #[.agg #[.int .i64 tm0, .int .i64 vt0, .slice a0 len0 cap0], .string t1] w fun e w' => e = .returned (.bool true) ∧ Below w.heap.size w w' := by
  obtain ⟨hE, x0, x1, x2, x3, x4, hS⟩ := hT
  have HE := hide hE
  have HSE := hide hS
  obtain ⟨tm', vt', l', c, his, hn60⟩ := ap_ex tm0 vt0 l0 t1
  obtain ⟨n', hn'⟩ : ∃ n', l'.length = n' := ⟨_, rfl⟩
  have h60 : n' ≤ 60 := by omega
  have HIS := hide his
  have HNN := hide hn'
  have HNL : Hid (n' ≤ 1048576) := by show _ ≤ _; omega
  have nc : (c != c) = false := by simp
  obtain ⟨sz, hsz⟩ : ∃ sz, sz = t1.size := ⟨_, rfl⟩
  have la : (t1.size : Int) = (sz : Int) := by rw [hsz]
  have HSZT := hide hsz
  obtain ⟨q, hq⟩ : ∃ q : Int, q = ((1 + n' * 2 : Nat) : Int) := ⟨_, rfl⟩
  have q1 : ¬ q < 0 := by omega
  have nq : (q != q) = false := by simp
  have HQ := hide hq
  obtain ⟨kx, hkx⟩ : ∃ kx : Int, kx = ((1 + len0 * 2 : Nat) : Int) := ⟨_, rfl⟩
  have HKX := hide hkx
  have hk0 : ¬ kx < 0 := by omega
  have HQ2 : Hid (1 + n' * 2 ≤ 3000000) := by show _ ≤ _; omega
  clear his hn60 hn' h60 hsz hq hkx hE hS wt1
  have HN0 := hide el0
  have HM0 := hide ml0
  have HS0 := hide sl0
  have HR0 := hide rl0
  clear el0 ml0 sl0 rl0
  have B_1 := hide (Go.Joins.below_alloc1 w (.cells #[.int .i64 tm0, .int .i64 vt0, .slice a0 len0 cap0] 24))
  have A0_2 := hide (BF.new w #[.int .i64 tm0, .int .i64 vt0, .slice a0 len0 cap0] 24)
  go_enter Tryd.func3, Tryd.ntmps3
  by_cases hlong : 1048576 < sz
  · have dl : (1048576 : Int) < (sz : Int) := by omega
    go_wp2_with fail
    go_ret
    exact ⟨rfl, (unhide B_1)⟩
  have dl : ¬ (1048576 : Int) < (sz : Int) := by omega
  have HLT : Hid (sz ≤ 1048576) := by show _ ≤ _; omega
  clear hlong
  have kA0 := (unhide A0_2).S
  go_wp2_with fail
  refine (szState tm0 vt0 a0 cap0 len0 l0 HN0 1048576 (Nat.le_refl _) HM0 HS0 _ ((unhide HR0).below (unhide B_1))).mono ?_
  rintro e w1 ⟨x, rfl, hb1, hx⟩
  clear kA0
  have B_3 := hide ((unhide B_1).trans (hb1.mono (unhide B_1).size))
  clear B_1
  have A0_4 := hide ((unhide A0_2).below hb1)
  clear A0_2
  clear hb1
  rcases hx with rfl | ⟨z0, rfl, hz0, hl0, hs0⟩
  · go_wp2_with fail
    go_ret
    exact ⟨rfl, (unhide B_3)⟩
  have hzn0 : ¬ (z0 : Int) < 0 := by omega
  have HZ0 := hide hs0
  have HL0 := hide hl0
  have HY0 := hide hz0
  clear hs0 HM0 HS0 hl0 hz0
  have HK2 : Hid (1 + len0 * 2 ≤ 3000000) := by show _ ≤ _; have := unhide HL0; omega
  have HF : Hid (sz ≤ 65536 → ∀ m, rfOf t1.data.toList = some m → ∀ k (hk : k < m.length), m[k].size ≤ 20000) := fun h => ap_fields t1 (by rw [← unhide HSZT]; exact h)
  have HK : Hid (sz ≤ 65536 → ∀ f L r, recP t1 = some (f, L, r) → L.length ≤ 65536 ∧ r.length ≤ 65536) := fun _ => ap_counts t1
  have HZ : Hid (sz ≤ 65536 → stateB tm0 vt0 l0 = true → ∀ tm2 vt2 l2, apR tm0 vt0 l0 t1 = some (tm2, vt2, l2) → l2.length ≤ 1048576 ∧ ∀ k (h : k < l2.length), l2[k].2.size ≤ 1048576) := fun h hs => ap_state tm0 vt0 l0 t1 (by rw [← unhide HSZT]; exact h) (unhide HZ0) hs
  have kA0 := (unhide A0_4).S
  go_wp2_with fail
  refine (toState tm0 vt0 a0 cap0 len0 l0 HN0 (unhide HL0) _ ((unhide HR0).below (unhide B_3))).mono ?_
  rintro e w2 ⟨g2, rfl, o2, hb2⟩
  clear kA0
  have B_5 := hide ((unhide B_3).trans (hb2.mono (unhide B_3).size))
  clear B_3
  have A0_6 := hide ((unhide A0_4).below hb2)
  clear A0_4
  clear hb2
  have S_7 := hide (heldZ_of o2)
  clear o2
  go_wp2_with fail
  refine (sapp tm0 vt0 _ _ len0 l0 HN0 (unhide HL0) HZ0 t1 sz (unhide HSZT) (unhide HLT) tm' vt' l' n' c HIS HNN HNL _ (unhide S_7).rowV).mono ?_
  rintro e w3 ⟨vW, rfl, hoW, hb3⟩
  have B_8 := hide ((unhide B_5).trans (hb3.mono (unhide B_5).size))
  clear B_5
  have A0_9 := hide ((unhide A0_6).below hb3)
  clear A0_6
  have S_10 := hide ((unhide S_7).below hb3 (unhide S_7).le)
  clear S_7
  clear hb3
  clear S_10
  have zA : w.heap.size < w3.heap.size := (unhide A0_9).lt
  obtain ⟨aW, cW, rfl, -⟩ := ownZ_rowV hoW
  have WR_11 := hide (heldZ_of hoW)
  clear hoW
  try simp only [World.size_alloc] at WR_11
  have B_12 := hide ((unhide B_8).alloc (unhide B_8).size (.cells #[.int .i64 tm', .int .i64 vt', .slice aW n' cW] 28))
  clear B_8
  have A0_13 := hide ((unhide A0_9).alloc (.cells #[.int .i64 tm', .int .i64 vt', .slice aW n' cW] 28))
  clear A0_9
  have WR_14 := hide ((unhide WR_11).below (Go.Joins.below_alloc1 _ (.cells #[.int .i64 tm', .int .i64 vt', .slice aW n' cW] 28)) (unhide WR_11).le)
  clear WR_11
  have W_15 := hide (BF.new w3 #[.int .i64 tm', .int .i64 vt', .slice aW n' cW] 28)
  have kA0 := (unhide A0_13).S
  go_wp2_with fail
  refine (toState tm0 vt0 a0 cap0 len0 l0 HN0 (unhide HL0) _ ((unhide HR0).below (unhide B_12))).mono ?_
  rintro e w4 ⟨g4, rfl, o4, hb4⟩
  clear kA0
  have z4 : w3.heap.size + 1 ≤ w4.heap.size := by have := hb4.size; (try simp at this); omega
  have B_16 := hide ((unhide B_12).trans (hb4.mono (unhide B_12).size))
  clear B_12
  have A0_17 := hide ((unhide A0_13).below hb4)
  clear A0_13
  have WR_18 := hide ((unhide WR_14).below hb4 (unhide WR_14).le)
  clear WR_14
  have W_19 := hide ((unhide W_15).below hb4)
  clear W_15
  clear hb4
  have XR_20 := hide (heldZ_of o4)
  clear o4
  try simp only [World.size_alloc] at XR_20
  have B_21 := hide ((unhide B_16).alloc (unhide B_16).size (.cells #[.int .i64 tm0, .int .i64 vt0, .slice (some ⟨g4, 0, none⟩) len0 len0] 28))
  clear B_16
  have A0_22 := hide ((unhide A0_17).alloc (.cells #[.int .i64 tm0, .int .i64 vt0, .slice (some ⟨g4, 0, none⟩) len0 len0] 28))
  clear A0_17
  have WR_23 := hide ((unhide WR_18).below (Go.Joins.below_alloc1 _ (.cells #[.int .i64 tm0, .int .i64 vt0, .slice (some ⟨g4, 0, none⟩) len0 len0] 28)) (unhide WR_18).le)
  clear WR_18
  have W_24 := hide ((unhide W_19).alloc (.cells #[.int .i64 tm0, .int .i64 vt0, .slice (some ⟨g4, 0, none⟩) len0 len0] 28))
  clear W_19
  have XR_25 := hide ((unhide XR_20).below (Go.Joins.below_alloc1 _ (.cells #[.int .i64 tm0, .int .i64 vt0, .slice (some ⟨g4, 0, none⟩) len0 len0] 28)) (unhide XR_20).le)
  clear XR_20
  have X_26 := hide (BF.new w4 #[.int .i64 tm0, .int .i64 vt0, .slice (some ⟨g4, 0, none⟩) len0 len0] 28)
  have kX := (unhide X_26).S
  go_wp2_with fail
  refine (iapply tm0 vt0 _ _ len0 l0 HN0 (unhide HL0) HZ0 t1 sz (unhide HSZT) (unhide HLT) HF HK HZ tm' vt' l' n' c HIS HNN _ ((unhide HE).below (unhide B_21)) ((unhide HSE).below (unhide B_21)) (unhide XR_25).rowV).mono ?_
  rintro e w5 ⟨vG, rfl, hoG, hb5⟩
  clear kX
  have z5 : w4.heap.size + 1 ≤ w5.heap.size := by have := hb5.size; (try simp at this); omega
  have B_27 := hide ((unhide B_21).trans (hb5.mono (unhide B_21).size))
  clear B_21
  have A0_28 := hide ((unhide A0_22).below hb5)
  clear A0_22
  have WR_29 := hide ((unhide WR_23).below hb5 (unhide WR_23).le)
  clear WR_23
  have W_30 := hide ((unhide W_24).below hb5)
  clear W_24
  have XR_31 := hide ((unhide XR_25).below hb5 (unhide XR_25).le)
  clear XR_25
  have X_32 := hide ((unhide X_26).below hb5)
  clear X_26
  clear hb5
  obtain ⟨aG, cG, rfl, -⟩ := ownZ_rowV hoG
  have GR_33 := hide (heldZ_of hoG)
  clear hoG
  try simp only [World.size_alloc] at GR_33
  have B_34 := hide ((unhide B_27).alloc (unhide B_27).size (.cells #[.int .i64 tm', .int .i64 vt', .slice aG n' cG] 28))
  clear B_27
  have A0_35 := hide ((unhide A0_28).alloc (.cells #[.int .i64 tm', .int .i64 vt', .slice aG n' cG] 28))
  clear A0_28
  have WR_36 := hide ((unhide WR_29).below (Go.Joins.below_alloc1 _ (.cells #[.int .i64 tm', .int .i64 vt', .slice aG n' cG] 28)) (unhide WR_29).le)
  clear WR_29
  have W_37 := hide ((unhide W_30).alloc (.cells #[.int .i64 tm', .int .i64 vt', .slice aG n' cG] 28))
  clear W_30
  have XR_38 := hide ((unhide XR_31).below (Go.Joins.below_alloc1 _ (.cells #[.int .i64 tm', .int .i64 vt', .slice aG n' cG] 28)) (unhide XR_31).le)
  clear XR_31
  have X_39 := hide ((unhide X_32).alloc (.cells #[.int .i64 tm', .int .i64 vt', .slice aG n' cG] 28))
  clear X_32
  have GR_40 := hide ((unhide GR_33).below (Go.Joins.below_alloc1 _ (.cells #[.int .i64 tm', .int .i64 vt', .slice aG n' cG] 28)) (unhide GR_33).le)
  clear GR_33
  have G_41 := hide (BF.new w5 #[.int .i64 tm', .int .i64 vt', .slice aG n' cG] 28)
  have kW := (unhide W_37).S
  have kG := (unhide G_41).S
  go_wp2_with fail
  refine (eqState tm' vt' _ _ _ _ n' l' HNN (unhide HNL) _ (unhide GR_40).rowV (unhide WR_36).rowV).mono ?_
  rintro e w6 ⟨rfl, hb6⟩
  clear kW kG
  have B_42 := hide ((unhide B_34).trans (hb6.mono (unhide B_34).size))
  clear B_34
  have A0_43 := hide ((unhide A0_35).below hb6)
  clear A0_35
  have WR_44 := hide ((unhide WR_36).below hb6 (unhide WR_36).le)
  clear WR_36
  have W_45 := hide ((unhide W_37).below hb6)
  clear W_37
  have XR_46 := hide ((unhide XR_38).below hb6 (unhide XR_38).le)
  clear XR_38
  have X_47 := hide ((unhide X_39).below hb6)
  clear X_39
  have GR_48 := hide ((unhide GR_40).below hb6 (unhide GR_40).le)
  clear GR_40
  have G_49 := hide ((unhide G_41).below hb6)
  clear G_41
  clear hb6
  have K6 := And.intro (unhide A0_43).S (unhide X_47).S
  have HU6 := hide (unhide XR_46).rowV
  have LA : w.heap.size < _ := (unhide A0_43).lt
  have LX : w4.heap.size < _ := (unhide X_47).lt
  go_wp2_with fail
  go_region_held3 (fun w' => (∀ o, w'.cell? ⟨w.heap.size, o, none⟩ = (#[.int .i64 tm0, .int .i64 vt0, .slice a0 len0 cap0] : Array Value)[o]?) ∧ (∀ o, w'.cell? ⟨w4.heap.size, o, none⟩ = (#[.int .i64 tm0, .int .i64 vt0, .slice (some ⟨g4, 0, none⟩) len0 len0] : Array Value)[o]?)) (first | exact K6 | exact K7 | exact K8) (first | (go_at_call 6; refine (toState tm0 vt0 a0 cap0 len0 l0 HN0 (unhide HL0) _ ((unhide HR0).below (unhide B_42).drew)).mono ?_; rintro e w7 ⟨g7, rfl, o7, hb7⟩; have K7 := And.intro (fun o => (hb7.cell (p := ⟨w.heap.size, o, none⟩) LA).trans (K6.1 o)) (fun o => (hb7.cell (p := ⟨w4.heap.size, o, none⟩) LX).trans (K6.2 o)); have HO7 := hide (rowZ_at o7); have HU7 := hide ((unhide HU6).below (below_undrew hb7)); have HT7 := hide (below_undrew hb7); have LA7 := Nat.lt_of_lt_of_le LA (unhide HT7).size; have LX7 := Nat.lt_of_lt_of_le LX (unhide HT7).size; clear o7 hb7) | (go_at_call 8; refine (eqState tm0 vt0 _ _ _ _ len0 l0 HN0 (unhide HL0) _ (unhide HU7) (unhide HO7)).mono ?_; rintro e w8 ⟨rfl, hb8⟩; have K8 := And.intro (fun o => (hb8.cell (p := ⟨w.heap.size, o, none⟩) LA7).trans (K7.1 o)) (fun o => (hb8.cell (p := ⟨w4.heap.size, o, none⟩) LX7).trans (K7.2 o)); have HT8 := hide ((unhide HT7).trans (hb8.mono (unhide HT7).size)); clear hb8))
  clear K6 K7 K8 HO7 HU6 HU7 HT7 LA LX LA7 LX7
  have B_50 := hide ((unhide B_42).trans ((unhide HT8).mono (unhide B_42).size))
  clear B_42
  have A0_51 := hide ((unhide A0_43).below (unhide HT8))
  clear A0_43
  have WR_52 := hide ((unhide WR_44).below (unhide HT8) (unhide WR_44).le)
  clear WR_44
  have W_53 := hide ((unhide W_45).below (unhide HT8))
  clear W_45
  have XR_54 := hide ((unhide XR_46).below (unhide HT8) (unhide XR_46).le)
  clear XR_46
  have X_55 := hide ((unhide X_47).below (unhide HT8))
  clear X_47
  have GR_56 := hide ((unhide GR_48).below (unhide HT8) (unhide GR_48).le)
  clear GR_48
  have G_57 := hide ((unhide G_49).below (unhide HT8))
  clear G_49
  clear HT8
  have kX := (unhide X_55).S
  go_wp2_with fail
  refine (markState tm0 vt0 _ len0 _ _ _ 1 kx HKX _ (by decide) (unhide HK2) _ (unhide XR_54)).mono ?_
  rintro e w9 ⟨rfl, h9, hg9⟩
  clear kX
  have B_58 := hide (Below.markedZ (unhide B_50) (unhide B_50).size (unhide XR_54) (by omega) hg9)
  clear B_50
  have A0_59 := hide ((unhide A0_51).grown hg9 (fun hk => by have := (unhide XR_54).blk _ hk; omega))
  clear A0_51
  have WR_60 := hide ((unhide WR_52).grown hg9 (fun k hk => by have := (unhide XR_54).blk k hk; omega))
  clear WR_52
  have W_61 := hide ((unhide W_53).grown hg9 (fun hk => by have := (unhide XR_54).blk _ hk; omega))
  clear W_53
  have X_62 := hide ((unhide X_55).grown hg9 (fun hk => by have := (unhide XR_54).blk _ hk; omega))
  clear X_55
  have GR_63 := hide ((unhide GR_56).grown hg9 (fun k hk => by have := (unhide XR_54).blk k hk; omega))
  clear GR_56
  have G_64 := hide ((unhide G_57).grown hg9 (fun hk => by have := (unhide XR_54).blk _ hk; omega))
  clear G_57
  have XR_m9 := hide h9
  clear h9 hg9 XR_54
  clear XR_m9
  clear X_62
  have kW := (unhide W_61).S
  have kG := (unhide G_64).S
  go_wp2_with fail
  refine (eqState tm' vt' _ _ _ _ n' l' HNN (unhide HNL) _ (unhide GR_63).rowV (unhide WR_60).rowV).mono ?_
  rintro e w10 ⟨rfl, hb10⟩
  clear kW kG
  have B_65 := hide ((unhide B_58).trans (hb10.mono (unhide B_58).size))
  clear B_58
  have A0_66 := hide ((unhide A0_59).below hb10)
  clear A0_59
  have WR_67 := hide ((unhide WR_60).below hb10 (unhide WR_60).le)
  clear WR_60
  have W_68 := hide ((unhide W_61).below hb10)
  clear W_61
  have GR_69 := hide ((unhide GR_63).below hb10 (unhide GR_63).le)
  clear GR_63
  have G_70 := hide ((unhide G_64).below hb10)
  clear G_64
  clear hb10
  have kG := (unhide G_70).S
  go_wp2_with fail
  refine (markState tm' vt' _ n' _ _ _ 1 q HQ _ (by decide) (unhide HQ2) _ (unhide GR_69)).mono ?_
  rintro e w11 ⟨rfl, h11, hg11⟩
  clear kG
  have B_71 := hide (Below.markedZ (unhide B_65) (unhide B_65).size (unhide GR_69) (by omega) hg11)
  clear B_65
  have A0_72 := hide ((unhide A0_66).grown hg11 (fun hk => by have := (unhide GR_69).blk _ hk; omega))
  clear A0_66
  have WR_73 := hide ((unhide WR_67).grown hg11 (fun k hk => by have := (unhide GR_69).blk k hk; omega))
  clear WR_67
  have W_74 := hide ((unhide W_68).grown hg11 (fun hk => by have := (unhide GR_69).blk _ hk; omega))
  clear W_68
  have G_75 := hide ((unhide G_70).grown hg11 (fun hk => by have := (unhide GR_69).blk _ hk; omega))
  clear G_70
  have GR_m11 := hide h11
  clear h11 hg11 GR_69
  have kG := (unhide G_75).S
  go_wp2_with fail
  refine (heldState tm' vt' _ n' _ _ _ 1 q HQ (by decide) (unhide HQ2) _ (unhide GR_m11)).mono ?_
  rintro e w12 ⟨rfl, hb12⟩
  clear kG
  have B_76 := hide ((unhide B_71).trans (hb12.mono (unhide B_71).size))
  clear B_71
  have A0_77 := hide ((unhide A0_72).below hb12)
  clear A0_72
  have WR_78 := hide ((unhide WR_73).below hb12 (unhide WR_73).le)
  clear WR_73
  have W_79 := hide ((unhide W_74).below hb12)
  clear W_74
  have G_80 := hide ((unhide G_75).below hb12)
  clear G_75
  have GR_81 := hide ((unhide GR_m11).below hb12 (unhide GR_m11).le)
  clear GR_m11
  clear hb12
  have kA0 := (unhide A0_77).S
  go_wp2_with fail
  refine (toState tm0 vt0 a0 cap0 len0 l0 HN0 (unhide HL0) _ ((unhide HR0).below (unhide B_76))).mono ?_
  rintro e w13 ⟨g13, rfl, o13, hb13⟩
  clear kA0
  have B_82 := hide ((unhide B_76).trans (hb13.mono (unhide B_76).size))
  clear B_76
  have A0_83 := hide ((unhide A0_77).below hb13)
  clear A0_77
  have WR_84 := hide ((unhide WR_78).below hb13 (unhide WR_78).le)
  clear WR_78
  have W_85 := hide ((unhide W_79).below hb13)
  clear W_79
  have G_86 := hide ((unhide G_80).below hb13)
  clear G_80
  have GR_87 := hide ((unhide GR_81).below hb13 (unhide GR_81).le)
  clear GR_81
  clear hb13
  have Y_88 := hide (heldZ_of o13)
  clear o13
  go_wp2_with fail
  refine (iapply tm0 vt0 _ _ len0 l0 HN0 (unhide HL0) HZ0 t1 sz (unhide HSZT) (unhide HLT) HF HK HZ tm' vt' l' n' c HIS HNN _ ((unhide HE).below (unhide B_82)) ((unhide HSE).below (unhide B_82)) (unhide Y_88).rowV).mono ?_
  rintro e w14 ⟨vH, rfl, hoH, hb14⟩
  have B_89 := hide ((unhide B_82).trans (hb14.mono (unhide B_82).size))
  clear B_82
  have A0_90 := hide ((unhide A0_83).below hb14)
  clear A0_83
  have WR_91 := hide ((unhide WR_84).below hb14 (unhide WR_84).le)
  clear WR_84
  have W_92 := hide ((unhide W_85).below hb14)
  clear W_85
  have G_93 := hide ((unhide G_86).below hb14)
  clear G_86
  have GR_94 := hide ((unhide GR_87).below hb14 (unhide GR_87).le)
  clear GR_87
  have Y_95 := hide ((unhide Y_88).below hb14 (unhide Y_88).le)
  clear Y_88
  clear hb14
  clear Y_95
  obtain ⟨aH, cH, rfl, -⟩ := ownZ_rowV hoH
  have HR_96 := hide (heldZ_of hoH)
  clear hoH
  try simp only [World.size_alloc] at HR_96
  have B_97 := hide ((unhide B_89).alloc (unhide B_89).size (.cells #[.int .i64 tm', .int .i64 vt', .slice aH n' cH] 28))
  clear B_89
  have A0_98 := hide ((unhide A0_90).alloc (.cells #[.int .i64 tm', .int .i64 vt', .slice aH n' cH] 28))
  clear A0_90
  have WR_99 := hide ((unhide WR_91).below (Go.Joins.below_alloc1 _ (.cells #[.int .i64 tm', .int .i64 vt', .slice aH n' cH] 28)) (unhide WR_91).le)
  clear WR_91
  have W_100 := hide ((unhide W_92).alloc (.cells #[.int .i64 tm', .int .i64 vt', .slice aH n' cH] 28))
  clear W_92
  have G_101 := hide ((unhide G_93).alloc (.cells #[.int .i64 tm', .int .i64 vt', .slice aH n' cH] 28))
  clear G_93
  have GR_102 := hide ((unhide GR_94).below (Go.Joins.below_alloc1 _ (.cells #[.int .i64 tm', .int .i64 vt', .slice aH n' cH] 28)) (unhide GR_94).le)
  clear GR_94
  have HR_103 := hide ((unhide HR_96).below (Go.Joins.below_alloc1 _ (.cells #[.int .i64 tm', .int .i64 vt', .slice aH n' cH] 28)) (unhide HR_96).le)
  clear HR_96
  have H_104 := hide (BF.new w14 #[.int .i64 tm', .int .i64 vt', .slice aH n' cH] 28)
  have kW := (unhide W_100).S
  have kH := (unhide H_104).S
  go_wp2_with fail
  refine (eqState tm' vt' _ _ _ _ n' l' HNN (unhide HNL) _ (unhide HR_103).rowV (unhide WR_99).rowV).mono ?_
  rintro e w15 ⟨rfl, hb15⟩
  clear kW kH
  have B_105 := hide ((unhide B_97).trans (hb15.mono (unhide B_97).size))
  clear B_97
  have A0_106 := hide ((unhide A0_98).below hb15)
  clear A0_98
  have WR_107 := hide ((unhide WR_99).below hb15 (unhide WR_99).le)
  clear WR_99
  have W_108 := hide ((unhide W_100).below hb15)
  clear W_100
  have G_109 := hide ((unhide G_101).below hb15)
  clear G_101
  have GR_110 := hide ((unhide GR_102).below hb15 (unhide GR_102).le)
  clear GR_102
  have HR_111 := hide ((unhide HR_103).below hb15 (unhide HR_103).le)
  clear HR_103
  have H_112 := hide ((unhide H_104).below hb15)
  clear H_104
  clear hb15
  have kG := (unhide G_109).S
  go_wp2_with fail
  refine (heldState tm' vt' _ n' _ _ _ 1 q HQ (by decide) (unhide HQ2) _ (unhide GR_110)).mono ?_
  rintro e w16 ⟨rfl, hb16⟩
  clear kG
  have B_113 := hide ((unhide B_105).trans (hb16.mono (unhide B_105).size))
  clear B_105
  have A0_114 := hide ((unhide A0_106).below hb16)
  clear A0_106
  have WR_115 := hide ((unhide WR_107).below hb16 (unhide WR_107).le)
  clear WR_107
  have W_116 := hide ((unhide W_108).below hb16)
  clear W_108
  have G_117 := hide ((unhide G_109).below hb16)
  clear G_109
  have GR_118 := hide ((unhide GR_110).below hb16 (unhide GR_110).le)
  clear GR_110
  have HR_119 := hide ((unhide HR_111).below hb16 (unhide HR_111).le)
  clear HR_111
  have H_120 := hide ((unhide H_112).below hb16)
  clear H_112
  clear hb16
  go_wp2_with fail
  go_ret
  exact ⟨rfl, (unhide B_113)⟩

theorem own : ownKnob Tryd.prog.godebug = none := by kernel_rfl
theorem laidOut : laidOutB Tryd.prog = true := by kernel_rfl
theorem door_met (os : Os) (args : Array Value) : laidMetH Tryd.prog Rows.fnExactApplyRecordRow.laid ((World.doorLaid Tryd.prog 168 os).forCall (fun _ _ => 0) ⟨#[], args, []⟩).memory :=
  laidMetH_of_parts3 (fuel := 8) (laidMet_of_run' 8 (by kernel_rfl) (by kernel_rfl)) (by kernel_rfl) (by kernel_rfl)
set_option maxRecDepth 100000 in
theorem lifted (os : Os) (started : os.Started) (H : Type) (enc : TypeId × Value → H) :
    ReturnsInHanded {} Tryd.checked os 3 .any (fun w args => (Rows.fnExactApplyRecordSpec.pre enc Tryd.prog Tryd.f3 [] false w args ∧ laidMetH Tryd.prog Rows.fnExactApplyRecordRow.laid w) ∧ sizedMet enc Tryd.prog Tryd.f3 (OpenSpec.ofChange Rows.fnExactApplyRecordSpec) false w args)
      (Rows.fnExactApplyRecordSpec.post enc Tryd.prog Tryd.f3 false true false false) := by
  refine returnsInHanded_of_change_and (C := Tryd.checked) (X := fun w _ => laidMetH Tryd.prog Rows.fnExactApplyRecordRow.laid w) (fun _ _ _ hh h => h.of_heap hh) own started (by kernel_rfl) Tryd.func3
    (ChangeSpec.witness_shaped (enc := enc) (C := Tryd.checked) (os := os) (X := fun w _ => laidMetH Tryd.prog Rows.fnExactApplyRecordRow.laid w) false (World.doorLaid Tryd.prog 168 os) #[.agg #[.int .i64 0, .int .i64 0, .slice none 0 0], .string ByteArray.empty] 8 rfl (World.shaped_of_RefB (by kernel_rfl) (by kernel_rfl)) (by kernel_rfl) (by kernel_rfl) (by kernel_rfl) (door_met os _)) ?_
  intro W base args ds gs before hval0 hW _ _ hL _
  have hval : ∀ (j : Nat) t v, Tryd.f3.params[j]? = some t → args[j]? = some v → Value.okWide Tryd.prog W .any base t v := hval0
  have hW' := hW
  obtain ⟨p, q, hA0, hV, rfl, hfz, hnd⟩ := hW
  have hA : DataW.TrodAll enc Tryd.prog W 0 (fun _ => true) true Tryd.f3.params.toList args.toList ds p := hA0
  rw [Tryd.params3] at hA hval
  obtain ⟨v0, vs0, d0, ds0, p0, q0, hargs, rfl, rfl, h0, r0⟩ := trodAll_cons hA
  obtain ⟨v1, vs1, d1, ds1, p1, q1, rfl, rfl, rfl, h1, r1⟩ := trodAll_cons r0
  obtain ⟨rfl, rfl, rfl⟩ := trodAll_nil r1
  obtain rfl : args = #[v0, v1] := by cases args; simp_all
  obtain ⟨g1, g2, g3, g4, g5, g6, g7, g8, rfl⟩ : ∃ d1x d2x d3x d4x d5x d6x d7x d8x, gs = [d1x, d2x, d3x, d4x, d5x, d6x, d7x, d8x] := vars_len8 hV
  have k0 := h0
  have lt0 : ∀ x ∈ p0, x.block < W.heap.size := by obtain ⟨m, hm⟩ := k0; exact DataW.trod_lt m _ _ _ hm
  have k1 := h1
  have lt1 : ∀ x ∈ p1, x.block < W.heap.size := by obtain ⟨m, hm⟩ := k1; exact DataW.trod_lt m _ _ _ hm
  obtain ⟨c0_0, c0_1, c0_2, u0_0, u0_1, u0_2, n0, rfl, z0_0, z0_1, z0_2⟩ := open_agg3 Tryd.underlying24 (by kernel_rfl) (by kernel_rfl) (hval 0 24 v0 rfl rfl) h0
  obtain ⟨tm0, e0_0, -, -⟩ := DataW.trod_int Tryd.underlying3 z0_0
  obtain rfl : c0_0 = .int .i64 tm0 := by simpa using e0_0
  obtain ⟨vt0, e0_1, -, -⟩ := DataW.trod_int Tryd.underlying3 z0_1
  obtain rfl : c0_1 = .int .i64 vt0 := by simpa using e0_1
  obtain ⟨a0, len0, cap0, l0, rfl, el0, ml0, sl0, rl0⟩ := entries_field Tryd.underlying22 Tryd.underlying50 (by kernel_rfl) rfl rfl (by kernel_rfl) (by kernel_rfl) Tryd.underlying3 Tryd.underlying9 z0_2
  obtain ⟨t1, rfl, rfl, rfl, wt1⟩ := open_string Tryd.underlying9 (hval 1 9 v1 rfl rfl) h1
  have hT := errs_laidA hL
  clear hA0 hval0
  refine (walk W tm0 vt0 a0 len0 cap0 l0 el0 ml0 sl0 rl0 t1 wt1 hT).mono fun e W' ⟨he, bel⟩ => ?_
  subst he
  exact ⟨_, rfl, _, _, _, [], _, _, hW', trodAll_mk1 (shut_bool Tryd.underlying4 _), (trodAll_cons_mk (Below.trod laidOut (by kernel_rfl) (of_decide_eq_true (by kernel_rfl)) k0 bel lt0) (trodAll_cons_mk (Below.trod laidOut (by kernel_rfl) (of_decide_eq_true (by kernel_rfl)) k1 bel lt1) trodAll_mk0)), Below.trodVars laidOut bel (by kernel_rfl) hV, bel.frame _, fun h => by cases h⟩

theorem said : Rows.FnExactApplyRecordSaid :=
  OpenClaim.holds_of_wide 3 Tryd.f3 rfl rfl rfl rfl rfl rfl rfl ⟨rfl, rfl, rfl, rfl, rfl⟩ rfl rfl rfl rfl rfl (by kernel_rfl) Tryd.func3 (by kernel_rfl)
    (of_decide_eq_true (by kernel_rfl)) (by unfold Func.isWrapper; first | (rw [if_pos (by decide +kernel)]; kernel_rfl) | (rw [if_neg (by decide +kernel)]; exact ⟨rfl, rfl⟩))
    (fun os started H enc _ => lifted os started H enc)

theorem card : Rows.FnExactApplyRecordCardSaid :=
  Claim7.holds_tied_plain_at .later [] _ _ _ _ said (fun _ h => by cases h) (by kernel_rfl) (fun _ h => by cases h) fnExactApplyRecord_row_tie rfl ⟨rfl, rfl⟩ (by kernel_rfl) rfl
    (fun f fn hf hfn => by
      obtain rfl : f = 3 := Option.some.inj ((show Tryd.prog.funcNamed Tryd.f3.name = some 3 by kernel_rfl).symm.trans hf) |>.symm
      obtain rfl : fn = Tryd.f3 := (Option.some.inj (Tryd.func3.symm.trans hfn)).symm
      exact ⟨by kernel_rfl, fun j t ht => by
        rw [Tryd.params3] at ht
        have hm : t ∈ [24, 9] := by simpa using Array.mem_of_getElem? ht
        have hall : ([24, 9].all fun u => !Tryd.prog.wantsStandIn u) = true := by kernel_rfl
        exact (show Tryd.prog.wantsStandIn t = false by simpa using List.all_eq_true.1 hall t hm)⟩)
    (by kernel_rfl)
#print axioms card
end Go.Proofs.YtninnmcehcaadaaDoor
