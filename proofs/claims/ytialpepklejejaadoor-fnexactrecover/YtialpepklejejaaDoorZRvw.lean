/- At every argument that can be read, with the listed variables as the program text lays them, the law FnExactRecover returns true and leaves its arguments as they were: the tied card. -/
import Derived.Test.YtialpepklejejaaDoorCards
import Derived.Test.YtialpepklejejaaDoorTie
import Derived.Test.YtialpepklejejaaDoorZG48
import Derived.WalkKit
import Derived.ProofKit
import Derived.OpenShut
import Derived.ShutString
import Derived.ChangeOld
import Derived.Below
import Derived.OpenVars
import Derived.LaidMore
import Derived.Lay
import Derived.Stop.Joined
namespace Go.Proofs.YtialpepklejejaaDoor
open Go.ChangeShapes Go.WideShapes Go.ChangeAt Go.RowKit
open Go.ChangeMaps (open_string shut_string)
set_option linter.unusedVariables false

set_option maxHeartbeats 2000000 in
set_option maxRecDepth 100000 in
theorem walk (w : World) (d0 : ByteArray) (s0 : Int) (wd0 : d0.size ≤ maxLen) (hT : Errs9 w) :
    Calls Tryd.prog 3 #[.agg #[.string d0, .int .i64 s0]] w fun e w' => e = .returned (.bool true) ∧ Below w.heap.size w w' := by
  obtain ⟨hE, xc, xb, xs, x0, x1, x2, x3, x4, hX, hS, hn1, hn2⟩ := hT
  have HE := hide hE
  have HX := hide hX
  have HSE := hide hS
  have N1 := hide hn1
  have N2 := hide hn2
  obtain ⟨tm', vt', l', d2, s2, c, his, hn60⟩ := rv_ex d0 s0
  obtain ⟨n', hn'⟩ : ∃ n', l'.length = n' := ⟨_, rfl⟩
  have h60 : n' ≤ 60 := by omega
  have HIS := hide his
  have HNN := hide hn'
  have HNL : Hid (n' ≤ 1048576) := by show _ ≤ _; omega
  have nc : (c != c) = false := by simp
  obtain ⟨q, hq⟩ : ∃ q : Int, q = ((1 + n' * 2 : Nat) : Int) := ⟨_, rfl⟩
  have q1 : ¬ q < 0 := by omega
  have nq : (q != q) = false := by simp
  have HQ := hide hq
  have HQ2 : Hid (1 + n' * 2 ≤ 3000000) := by show _ ≤ _; omega
  clear his hn60 hn' h60 hq hE hX hS hn1 hn2
  have B_1 := hide (Go.Joins.below_alloc1 w (.cells #[.string d0, .int .i64 s0] 23))
  have A_2 := hide (BF.new w #[.string d0, .int .i64 s0] 23)
  have T1 := hide (fun w => szStore d0 s0 wd0 w)
  have HD := hide wd0
  clear wd0
  have kA := (unhide A_2).S
  go_enter Tryd.func3, Tryd.ntmps3
  go_wp2_with fail
  refine (unhide T1 _).mono ?_
  rintro e w1 ⟨x, rfl, hb1, hx⟩
  clear kA
  have B_3 := hide ((unhide B_1).trans (hb1.mono (unhide B_1).size))
  clear B_1
  have A_4 := hide ((unhide A_2).below hb1)
  clear A_2
  clear hb1
  clear T1
  rcases hx with rfl | ⟨z, rfl, hz, h7⟩
  · go_wp2_with fail
    go_ret
    exact ⟨rfl, (unhide B_3)⟩
  clear h7 hz
  have hz : ¬ (z : Int) < 0 := by omega
  have kA := (unhide A_4).S
  go_wp2_with fail
  refine (toStore d0 s0 _).mono ?_
  rintro e w2 ⟨rfl, hb2⟩
  clear kA
  have B_5 := hide ((unhide B_3).trans (hb2.mono (unhide B_3).size))
  clear B_3
  have A_6 := hide ((unhide A_4).below hb2)
  clear A_4
  clear hb2
  go_wp2_with fail
  refine (srecov d0 s0 HD tm' vt' l' n' d2 s2 c HIS HNN HNL _).mono ?_
  rintro e w3 ⟨vW, rfl, hoW, hb3⟩
  have B_7 := hide ((unhide B_5).trans (hb3.mono (unhide B_5).size))
  clear B_5
  have A_8 := hide ((unhide A_6).below hb3)
  clear A_6
  clear hb3
  have zA : w.heap.size < w3.heap.size := (unhide A_8).lt
  obtain ⟨aW, cW, rfl, -⟩ := ownZ_rowV hoW
  have WR_9 := hide (heldZ_of hoW)
  clear hoW
  try simp only [World.size_alloc] at WR_9
  have B_10 := hide ((unhide B_7).alloc (unhide B_7).size (.cells #[.int .i64 tm', .int .i64 vt', .slice aW n' cW] 27))
  clear B_7
  have A_11 := hide ((unhide A_8).alloc (.cells #[.int .i64 tm', .int .i64 vt', .slice aW n' cW] 27))
  clear A_8
  have WR_12 := hide ((unhide WR_9).below (Go.Joins.below_alloc1 _ (.cells #[.int .i64 tm', .int .i64 vt', .slice aW n' cW] 27)) (unhide WR_9).le)
  clear WR_9
  have W_13 := hide (BF.new w3 #[.int .i64 tm', .int .i64 vt', .slice aW n' cW] 27)
  have B_14 := hide ((unhide B_10).alloc (unhide B_10).size (.cells #[.string d2, .int .i64 s2] 28))
  clear B_10
  have A_15 := hide ((unhide A_11).alloc (.cells #[.string d2, .int .i64 s2] 28))
  clear A_11
  have WR_16 := hide ((unhide WR_12).below (Go.Joins.below_alloc1 _ (.cells #[.string d2, .int .i64 s2] 28)) (unhide WR_12).le)
  clear WR_12
  have W_17 := hide ((unhide W_13).alloc (.cells #[.string d2, .int .i64 s2] 28))
  clear W_13
  have WS_18 := hide (BF.new (w3.alloc (.cells #[.int .i64 tm', .int .i64 vt', .slice aW n' cW] 27)) #[.string d2, .int .i64 s2] 28)
  simp only [World.size_alloc] at WS_18
  have kA := (unhide A_15).S
  go_wp2_with fail
  refine (toStore d0 s0 _).mono ?_
  rintro e w4 ⟨rfl, hb4⟩
  clear kA
  have z4 : w3.heap.size + 2 ≤ w4.heap.size := by have := hb4.size; (try simp at this); omega
  have B_19 := hide ((unhide B_14).trans (hb4.mono (unhide B_14).size))
  clear B_14
  have A_20 := hide ((unhide A_15).below hb4)
  clear A_15
  have WR_21 := hide ((unhide WR_16).below hb4 (unhide WR_16).le)
  clear WR_16
  have W_22 := hide ((unhide W_17).below hb4)
  clear W_17
  have WS_23 := hide ((unhide WS_18).below hb4)
  clear WS_18
  clear hb4
  go_wp2_with fail
  refine (irecov d0 s0 HD tm' vt' l' n' d2 s2 c HIS HNN _ ((unhide HE).below (unhide B_19)) ((unhide HX).below (unhide B_19)) ((unhide HSE).below (unhide B_19)) N1 N2).mono ?_
  rintro e w5 ⟨vG, rfl, hoG, hb5⟩
  have z5 : w4.heap.size ≤ w5.heap.size := by have := hb5.size; (try simp at this); omega
  have B_24 := hide ((unhide B_19).trans (hb5.mono (unhide B_19).size))
  clear B_19
  have A_25 := hide ((unhide A_20).below hb5)
  clear A_20
  have WR_26 := hide ((unhide WR_21).below hb5 (unhide WR_21).le)
  clear WR_21
  have W_27 := hide ((unhide W_22).below hb5)
  clear W_22
  have WS_28 := hide ((unhide WS_23).below hb5)
  clear WS_23
  clear hb5
  obtain ⟨aG, cG, rfl, -⟩ := ownZ_rowV hoG
  have GR_29 := hide (heldZ_of hoG)
  clear hoG
  try simp only [World.size_alloc] at GR_29
  have B_30 := hide ((unhide B_24).alloc (unhide B_24).size (.cells #[.int .i64 tm', .int .i64 vt', .slice aG n' cG] 27))
  clear B_24
  have A_31 := hide ((unhide A_25).alloc (.cells #[.int .i64 tm', .int .i64 vt', .slice aG n' cG] 27))
  clear A_25
  have WR_32 := hide ((unhide WR_26).below (Go.Joins.below_alloc1 _ (.cells #[.int .i64 tm', .int .i64 vt', .slice aG n' cG] 27)) (unhide WR_26).le)
  clear WR_26
  have W_33 := hide ((unhide W_27).alloc (.cells #[.int .i64 tm', .int .i64 vt', .slice aG n' cG] 27))
  clear W_27
  have WS_34 := hide ((unhide WS_28).alloc (.cells #[.int .i64 tm', .int .i64 vt', .slice aG n' cG] 27))
  clear WS_28
  have GR_35 := hide ((unhide GR_29).below (Go.Joins.below_alloc1 _ (.cells #[.int .i64 tm', .int .i64 vt', .slice aG n' cG] 27)) (unhide GR_29).le)
  clear GR_29
  have G_36 := hide (BF.new w5 #[.int .i64 tm', .int .i64 vt', .slice aG n' cG] 27)
  have B_37 := hide ((unhide B_30).alloc (unhide B_30).size (.cells #[.string d2, .int .i64 s2] 28))
  clear B_30
  have A_38 := hide ((unhide A_31).alloc (.cells #[.string d2, .int .i64 s2] 28))
  clear A_31
  have WR_39 := hide ((unhide WR_32).below (Go.Joins.below_alloc1 _ (.cells #[.string d2, .int .i64 s2] 28)) (unhide WR_32).le)
  clear WR_32
  have W_40 := hide ((unhide W_33).alloc (.cells #[.string d2, .int .i64 s2] 28))
  clear W_33
  have WS_41 := hide ((unhide WS_34).alloc (.cells #[.string d2, .int .i64 s2] 28))
  clear WS_34
  have GR_42 := hide ((unhide GR_35).below (Go.Joins.below_alloc1 _ (.cells #[.string d2, .int .i64 s2] 28)) (unhide GR_35).le)
  clear GR_35
  have G_43 := hide ((unhide G_36).alloc (.cells #[.string d2, .int .i64 s2] 28))
  clear G_36
  have GS_44 := hide (BF.new (w5.alloc (.cells #[.int .i64 tm', .int .i64 vt', .slice aG n' cG] 27)) #[.string d2, .int .i64 s2] 28)
  simp only [World.size_alloc] at GS_44
  have kW := (unhide W_40).S
  have kG := (unhide G_43).S
  have kWS := (unhide WS_41).S
  have kGS := (unhide GS_44).S
  go_wp2_with fail
  refine (eqState tm' vt' _ _ _ _ n' l' HNN (unhide HNL) _ (unhide GR_42).rowV (unhide WR_39).rowV).mono ?_
  rintro e w6 ⟨rfl, hb6⟩
  clear kW kG kWS kGS
  have B_45 := hide ((unhide B_37).trans (hb6.mono (unhide B_37).size))
  clear B_37
  have A_46 := hide ((unhide A_38).below hb6)
  clear A_38
  have WR_47 := hide ((unhide WR_39).below hb6 (unhide WR_39).le)
  clear WR_39
  have W_48 := hide ((unhide W_40).below hb6)
  clear W_40
  have WS_49 := hide ((unhide WS_41).below hb6)
  clear WS_41
  have GR_50 := hide ((unhide GR_42).below hb6 (unhide GR_42).le)
  clear GR_42
  have G_51 := hide ((unhide G_43).below hb6)
  clear G_43
  have GS_52 := hide ((unhide GS_44).below hb6)
  clear GS_44
  clear hb6
  have kW := (unhide W_48).S
  have kG := (unhide G_51).S
  have kWS := (unhide WS_49).S
  have kGS := (unhide GS_52).S
  go_wp2_with fail
  refine (eqStore d2 s2 _).mono ?_
  rintro e w7 ⟨rfl, hb7⟩
  clear kW kG kWS kGS
  have B_53 := hide ((unhide B_45).trans (hb7.mono (unhide B_45).size))
  clear B_45
  have A_54 := hide ((unhide A_46).below hb7)
  clear A_46
  have WR_55 := hide ((unhide WR_47).below hb7 (unhide WR_47).le)
  clear WR_47
  have W_56 := hide ((unhide W_48).below hb7)
  clear W_48
  have WS_57 := hide ((unhide WS_49).below hb7)
  clear WS_49
  have GR_58 := hide ((unhide GR_50).below hb7 (unhide GR_50).le)
  clear GR_50
  have G_59 := hide ((unhide G_51).below hb7)
  clear G_51
  have GS_60 := hide ((unhide GS_52).below hb7)
  clear GS_52
  clear hb7
  have kG := (unhide G_59).S
  go_wp2_with fail
  refine (markState tm' vt' _ n' _ _ _ 1 q HQ _ (by decide) (unhide HQ2) _ (unhide GR_58)).mono ?_
  rintro e w8 ⟨rfl, h8, hg8⟩
  clear kG
  have B_61 := hide (Below.markedZ (unhide B_53) (unhide B_53).size (unhide GR_58) (by omega) hg8)
  clear B_53
  have A_62 := hide ((unhide A_54).grown hg8 (fun hk => by have := (unhide GR_58).blk _ hk; omega))
  clear A_54
  have WR_63 := hide ((unhide WR_55).grown hg8 (fun k hk => by have := (unhide GR_58).blk k hk; omega))
  clear WR_55
  have W_64 := hide ((unhide W_56).grown hg8 (fun hk => by have := (unhide GR_58).blk _ hk; omega))
  clear W_56
  have WS_65 := hide ((unhide WS_57).grown hg8 (fun hk => by have := (unhide GR_58).blk _ hk; omega))
  clear WS_57
  have G_66 := hide ((unhide G_59).grown hg8 (fun hk => by have := (unhide GR_58).blk _ hk; omega))
  clear G_59
  have GS_67 := hide ((unhide GS_60).grown hg8 (fun hk => by have := (unhide GR_58).blk _ hk; omega))
  clear GS_60
  have GR_m8 := hide h8
  clear h8 hg8 GR_58
  have kG := (unhide G_66).S
  go_wp2_with fail
  refine (heldState tm' vt' _ n' _ _ _ 1 q HQ (by decide) (unhide HQ2) _ (unhide GR_m8)).mono ?_
  rintro e w9 ⟨rfl, hb9⟩
  clear kG
  have B_68 := hide ((unhide B_61).trans (hb9.mono (unhide B_61).size))
  clear B_61
  have A_69 := hide ((unhide A_62).below hb9)
  clear A_62
  have WR_70 := hide ((unhide WR_63).below hb9 (unhide WR_63).le)
  clear WR_63
  have W_71 := hide ((unhide W_64).below hb9)
  clear W_64
  have WS_72 := hide ((unhide WS_65).below hb9)
  clear WS_65
  have G_73 := hide ((unhide G_66).below hb9)
  clear G_66
  have GS_74 := hide ((unhide GS_67).below hb9)
  clear GS_67
  have GR_75 := hide ((unhide GR_m8).below hb9 (unhide GR_m8).le)
  clear GR_m8
  clear hb9
  have kA := (unhide A_69).S
  go_wp2_with fail
  refine (toStore d0 s0 _).mono ?_
  rintro e w10 ⟨rfl, hb10⟩
  clear kA
  have B_76 := hide ((unhide B_68).trans (hb10.mono (unhide B_68).size))
  clear B_68
  have A_77 := hide ((unhide A_69).below hb10)
  clear A_69
  have WR_78 := hide ((unhide WR_70).below hb10 (unhide WR_70).le)
  clear WR_70
  have W_79 := hide ((unhide W_71).below hb10)
  clear W_71
  have WS_80 := hide ((unhide WS_72).below hb10)
  clear WS_72
  have G_81 := hide ((unhide G_73).below hb10)
  clear G_73
  have GS_82 := hide ((unhide GS_74).below hb10)
  clear GS_74
  have GR_83 := hide ((unhide GR_75).below hb10 (unhide GR_75).le)
  clear GR_75
  clear hb10
  go_wp2_with fail
  refine (irecov d0 s0 HD tm' vt' l' n' d2 s2 c HIS HNN _ ((unhide HE).below (unhide B_76)) ((unhide HX).below (unhide B_76)) ((unhide HSE).below (unhide B_76)) N1 N2).mono ?_
  rintro e w11 ⟨vH, rfl, hoH, hb11⟩
  have B_84 := hide ((unhide B_76).trans (hb11.mono (unhide B_76).size))
  clear B_76
  have A_85 := hide ((unhide A_77).below hb11)
  clear A_77
  have WR_86 := hide ((unhide WR_78).below hb11 (unhide WR_78).le)
  clear WR_78
  have W_87 := hide ((unhide W_79).below hb11)
  clear W_79
  have WS_88 := hide ((unhide WS_80).below hb11)
  clear WS_80
  have G_89 := hide ((unhide G_81).below hb11)
  clear G_81
  have GS_90 := hide ((unhide GS_82).below hb11)
  clear GS_82
  have GR_91 := hide ((unhide GR_83).below hb11 (unhide GR_83).le)
  clear GR_83
  clear hb11
  obtain ⟨aH, cH, rfl, -⟩ := ownZ_rowV hoH
  have HR_92 := hide (heldZ_of hoH)
  clear hoH
  try simp only [World.size_alloc] at HR_92
  have B_93 := hide ((unhide B_84).alloc (unhide B_84).size (.cells #[.int .i64 tm', .int .i64 vt', .slice aH n' cH] 27))
  clear B_84
  have A_94 := hide ((unhide A_85).alloc (.cells #[.int .i64 tm', .int .i64 vt', .slice aH n' cH] 27))
  clear A_85
  have WR_95 := hide ((unhide WR_86).below (Go.Joins.below_alloc1 _ (.cells #[.int .i64 tm', .int .i64 vt', .slice aH n' cH] 27)) (unhide WR_86).le)
  clear WR_86
  have W_96 := hide ((unhide W_87).alloc (.cells #[.int .i64 tm', .int .i64 vt', .slice aH n' cH] 27))
  clear W_87
  have WS_97 := hide ((unhide WS_88).alloc (.cells #[.int .i64 tm', .int .i64 vt', .slice aH n' cH] 27))
  clear WS_88
  have G_98 := hide ((unhide G_89).alloc (.cells #[.int .i64 tm', .int .i64 vt', .slice aH n' cH] 27))
  clear G_89
  have GS_99 := hide ((unhide GS_90).alloc (.cells #[.int .i64 tm', .int .i64 vt', .slice aH n' cH] 27))
  clear GS_90
  have GR_100 := hide ((unhide GR_91).below (Go.Joins.below_alloc1 _ (.cells #[.int .i64 tm', .int .i64 vt', .slice aH n' cH] 27)) (unhide GR_91).le)
  clear GR_91
  have HR_101 := hide ((unhide HR_92).below (Go.Joins.below_alloc1 _ (.cells #[.int .i64 tm', .int .i64 vt', .slice aH n' cH] 27)) (unhide HR_92).le)
  clear HR_92
  have H_102 := hide (BF.new w11 #[.int .i64 tm', .int .i64 vt', .slice aH n' cH] 27)
  have B_103 := hide ((unhide B_93).alloc (unhide B_93).size (.cells #[.string d2, .int .i64 s2] 28))
  clear B_93
  have A_104 := hide ((unhide A_94).alloc (.cells #[.string d2, .int .i64 s2] 28))
  clear A_94
  have WR_105 := hide ((unhide WR_95).below (Go.Joins.below_alloc1 _ (.cells #[.string d2, .int .i64 s2] 28)) (unhide WR_95).le)
  clear WR_95
  have W_106 := hide ((unhide W_96).alloc (.cells #[.string d2, .int .i64 s2] 28))
  clear W_96
  have WS_107 := hide ((unhide WS_97).alloc (.cells #[.string d2, .int .i64 s2] 28))
  clear WS_97
  have G_108 := hide ((unhide G_98).alloc (.cells #[.string d2, .int .i64 s2] 28))
  clear G_98
  have GS_109 := hide ((unhide GS_99).alloc (.cells #[.string d2, .int .i64 s2] 28))
  clear GS_99
  have GR_110 := hide ((unhide GR_100).below (Go.Joins.below_alloc1 _ (.cells #[.string d2, .int .i64 s2] 28)) (unhide GR_100).le)
  clear GR_100
  have HR_111 := hide ((unhide HR_101).below (Go.Joins.below_alloc1 _ (.cells #[.string d2, .int .i64 s2] 28)) (unhide HR_101).le)
  clear HR_101
  have H_112 := hide ((unhide H_102).alloc (.cells #[.string d2, .int .i64 s2] 28))
  clear H_102
  have HS_113 := hide (BF.new (w11.alloc (.cells #[.int .i64 tm', .int .i64 vt', .slice aH n' cH] 27)) #[.string d2, .int .i64 s2] 28)
  simp only [World.size_alloc] at HS_113
  have kW := (unhide W_106).S
  have kH := (unhide H_112).S
  have kWS := (unhide WS_107).S
  have kHS := (unhide HS_113).S
  go_wp2_with fail
  refine (eqState tm' vt' _ _ _ _ n' l' HNN (unhide HNL) _ (unhide HR_111).rowV (unhide WR_105).rowV).mono ?_
  rintro e w12 ⟨rfl, hb12⟩
  clear kW kH kWS kHS
  have B_114 := hide ((unhide B_103).trans (hb12.mono (unhide B_103).size))
  clear B_103
  have A_115 := hide ((unhide A_104).below hb12)
  clear A_104
  have WR_116 := hide ((unhide WR_105).below hb12 (unhide WR_105).le)
  clear WR_105
  have W_117 := hide ((unhide W_106).below hb12)
  clear W_106
  have WS_118 := hide ((unhide WS_107).below hb12)
  clear WS_107
  have G_119 := hide ((unhide G_108).below hb12)
  clear G_108
  have GS_120 := hide ((unhide GS_109).below hb12)
  clear GS_109
  have GR_121 := hide ((unhide GR_110).below hb12 (unhide GR_110).le)
  clear GR_110
  have HR_122 := hide ((unhide HR_111).below hb12 (unhide HR_111).le)
  clear HR_111
  have H_123 := hide ((unhide H_112).below hb12)
  clear H_112
  have HS_124 := hide ((unhide HS_113).below hb12)
  clear HS_113
  clear hb12
  have kW := (unhide W_117).S
  have kH := (unhide H_123).S
  have kWS := (unhide WS_118).S
  have kHS := (unhide HS_124).S
  go_wp2_with fail
  refine (eqStore d2 s2 _).mono ?_
  rintro e w13 ⟨rfl, hb13⟩
  clear kW kH kWS kHS
  have B_125 := hide ((unhide B_114).trans (hb13.mono (unhide B_114).size))
  clear B_114
  have A_126 := hide ((unhide A_115).below hb13)
  clear A_115
  have WR_127 := hide ((unhide WR_116).below hb13 (unhide WR_116).le)
  clear WR_116
  have W_128 := hide ((unhide W_117).below hb13)
  clear W_117
  have WS_129 := hide ((unhide WS_118).below hb13)
  clear WS_118
  have G_130 := hide ((unhide G_119).below hb13)
  clear G_119
  have GS_131 := hide ((unhide GS_120).below hb13)
  clear GS_120
  have GR_132 := hide ((unhide GR_121).below hb13 (unhide GR_121).le)
  clear GR_121
  have HR_133 := hide ((unhide HR_122).below hb13 (unhide HR_122).le)
  clear HR_122
  have H_134 := hide ((unhide H_123).below hb13)
  clear H_123
  have HS_135 := hide ((unhide HS_124).below hb13)
  clear HS_124
  clear hb13
  have kG := (unhide G_130).S
  go_wp2_with fail
  refine (heldState tm' vt' _ n' _ _ _ 1 q HQ (by decide) (unhide HQ2) _ (unhide GR_132)).mono ?_
  rintro e w14 ⟨rfl, hb14⟩
  clear kG
  have B_136 := hide ((unhide B_125).trans (hb14.mono (unhide B_125).size))
  clear B_125
  have A_137 := hide ((unhide A_126).below hb14)
  clear A_126
  have WR_138 := hide ((unhide WR_127).below hb14 (unhide WR_127).le)
  clear WR_127
  have W_139 := hide ((unhide W_128).below hb14)
  clear W_128
  have WS_140 := hide ((unhide WS_129).below hb14)
  clear WS_129
  have G_141 := hide ((unhide G_130).below hb14)
  clear G_130
  have GS_142 := hide ((unhide GS_131).below hb14)
  clear GS_131
  have GR_143 := hide ((unhide GR_132).below hb14 (unhide GR_132).le)
  clear GR_132
  have HR_144 := hide ((unhide HR_133).below hb14 (unhide HR_133).le)
  clear HR_133
  have H_145 := hide ((unhide H_134).below hb14)
  clear H_134
  have HS_146 := hide ((unhide HS_135).below hb14)
  clear HS_135
  clear hb14
  go_wp2_with fail
  go_ret
  exact ⟨rfl, (unhide B_136)⟩

theorem own : ownKnob Tryd.prog.godebug = none := by kernel_rfl
theorem laidOut : laidOutB Tryd.prog = true := by kernel_rfl
theorem door_met (os : Os) (args : Array Value) : laidMetH Tryd.prog Rows.fnExactRecoverRow.laid ((World.doorLaid Tryd.prog 187 os).forCall (fun _ _ => 0) ⟨#[], args, []⟩).memory :=
  laidMetH_of_parts3 (fuel := 8) (laidMet_of_run' 8 (by kernel_rfl) (by kernel_rfl)) (by kernel_rfl) (by kernel_rfl)
set_option maxRecDepth 100000 in
theorem lifted (os : Os) (started : os.Started) (H : Type) (enc : TypeId × Value → H) :
    ReturnsInHanded {} Tryd.checked os 3 .any (fun w args => (Rows.fnExactRecoverSpec.pre enc Tryd.prog Tryd.f3 [] false w args ∧ laidMetH Tryd.prog Rows.fnExactRecoverRow.laid w) ∧ sizedMet enc Tryd.prog Tryd.f3 (OpenSpec.ofChange Rows.fnExactRecoverSpec) false w args)
      (Rows.fnExactRecoverSpec.post enc Tryd.prog Tryd.f3 false true false false) := by
  refine returnsInHanded_of_change_and (C := Tryd.checked) (X := fun w _ => laidMetH Tryd.prog Rows.fnExactRecoverRow.laid w) (fun _ _ _ hh h => h.of_heap hh) own started (by kernel_rfl) Tryd.func3
    (ChangeSpec.witness_shaped (enc := enc) (C := Tryd.checked) (os := os) (X := fun w _ => laidMetH Tryd.prog Rows.fnExactRecoverRow.laid w) false (World.doorLaid Tryd.prog 187 os) #[.agg #[.string ⟨#[]⟩, .int .i64 0]] 8 rfl (World.shaped_of_RefB (by kernel_rfl) (by kernel_rfl)) (by kernel_rfl) (by kernel_rfl) (by kernel_rfl) (door_met os _)) ?_
  intro W base args ds gs before hval0 hW _ _ hL _
  have hval : ∀ (j : Nat) t v, Tryd.f3.params[j]? = some t → args[j]? = some v → Value.okWide Tryd.prog W .any base t v := hval0
  have hW' := hW
  obtain ⟨p, q, hA0, hV, rfl, hfz, hnd⟩ := hW
  have hA : DataW.TrodAll enc Tryd.prog W 0 (fun _ => true) true Tryd.f3.params.toList args.toList ds p := hA0
  rw [Tryd.params3] at hA hval
  obtain ⟨v0, vs0, d0, ds0, p0, q0, hargs, rfl, rfl, h0, r0⟩ := trodAll_cons hA
  obtain ⟨rfl, rfl, rfl⟩ := trodAll_nil r0
  obtain rfl : args = #[v0] := by cases args; simp_all
  obtain ⟨g1, g2, g3, g4, g5, g6, g7, g8, g9, rfl⟩ : ∃ d1x d2x d3x d4x d5x d6x d7x d8x d9x, gs = [d1x, d2x, d3x, d4x, d5x, d6x, d7x, d8x, d9x] := vars_len9 hV
  have k0 := h0
  have lt0 : ∀ x ∈ p0, x.block < W.heap.size := by obtain ⟨m, hm⟩ := k0; exact DataW.trod_lt m _ _ _ hm
  obtain ⟨c0_0, c0_1, u0_0, u0_1, n0, rfl, z0_0, z0_1⟩ := open_agg2 Tryd.underlying23 (by kernel_rfl) (by kernel_rfl) (hval 0 23 v0 rfl rfl) h0
  obtain ⟨d0_, e0_0, -, wd0⟩ := DataW.trod_string Tryd.underlying9 z0_0
  obtain rfl : c0_0 = .string d0_ := by simpa using e0_0
  obtain ⟨s0, e0_1, -, -⟩ := DataW.trod_int Tryd.underlying3 z0_1
  obtain rfl : c0_1 = .int .i64 s0 := by simpa using e0_1
  have hT := errs_laidV hL
  clear hA0 hval0
  refine (walk W d0_ s0 wd0 hT).mono fun e W' ⟨he, bel⟩ => ?_
  subst he
  exact ⟨_, rfl, _, _, _, [], _, _, hW', trodAll_mk1 (shut_bool Tryd.underlying4 _), (trodAll_cons_mk (Below.trod laidOut (by kernel_rfl) (of_decide_eq_true (by kernel_rfl)) k0 bel lt0) trodAll_mk0), Below.trodVars laidOut bel (by kernel_rfl) hV, bel.frame _, fun h => by cases h⟩

theorem said : Rows.FnExactRecoverSaid :=
  OpenClaim.holds_of_wide 3 Tryd.f3 rfl rfl rfl rfl rfl rfl rfl ⟨rfl, rfl, rfl, rfl, rfl⟩ rfl rfl rfl rfl rfl (by kernel_rfl) Tryd.func3 (by kernel_rfl)
    (of_decide_eq_true (by kernel_rfl)) (by unfold Func.isWrapper; first | (rw [if_pos (by decide +kernel)]; kernel_rfl) | (rw [if_neg (by decide +kernel)]; exact ⟨rfl, rfl⟩))
    (fun os started H enc _ => lifted os started H enc)

theorem card : Rows.FnExactRecoverCardSaid :=
  Claim7.holds_tied_plain_at .later [] _ _ _ _ said (fun _ h => by cases h) (by kernel_rfl) (fun _ h => by cases h) fnExactRecover_row_tie rfl ⟨rfl, rfl⟩ (by kernel_rfl) rfl
    (fun f fn hf hfn => by
      obtain rfl : f = 3 := Option.some.inj ((show Tryd.prog.funcNamed Tryd.f3.name = some 3 by kernel_rfl).symm.trans hf) |>.symm
      obtain rfl : fn = Tryd.f3 := (Option.some.inj (Tryd.func3.symm.trans hfn)).symm
      exact ⟨by kernel_rfl, fun j t ht => by
        rw [Tryd.params3] at ht
        have hm : t ∈ [23] := by simpa using Array.mem_of_getElem? ht
        have hall : ([23].all fun u => !Tryd.prog.wantsStandIn u) = true := by kernel_rfl
        exact (show Tryd.prog.wantsStandIn t = false by simpa using List.all_eq_true.1 hall t hm)⟩)
    (by kernel_rfl)
#print axioms card
end Go.Proofs.YtialpepklejejaaDoor
