/- At every argument that can be read, with the listed variables as the program text lays them, the law FnExactDiffView returns true and leaves its arguments as they were: the tied card. -/
import Derived.Test.YtnbifggochgagaaDoorCards
import Derived.Test.YtnbifggochgagaaDoorTie
import Derived.Test.YtnbifggochgagaaDoorDvAll
import Derived.Test.YtnbifggochgagaaDoorStrO
import Derived.WalkKit
import Derived.ProofKit
import Derived.OpenShut
import Derived.ShutString
import Derived.ChangeOld
import Derived.Below
import Derived.OpenVars
import Derived.LaidMore
import Derived.Lay
import Derived.Stop.Joined
namespace Go.Proofs.YtnbifggochgagaaDoor
open Go.ChangeShapes Go.WideShapes Go.ChangeAt Go.RowKit
open Go.ChangeMaps (open_string shut_string)
set_option linter.unusedVariables false

set_option maxHeartbeats 4000000 in
set_option maxRecDepth 100000 in
theorem walk (w : World) (a0 : Int) (w0 : (Lit.int .i64 a0).wf = true) (a1 : Int) (w1 : (Lit.int .i64 a1).wf = true) (a2 : Int) (w2 : (Lit.int .i64 a2).wf = true) (a3 : Int) (w3 : (Lit.int .i64 a3).wf = true) (b4 : Option Addr) (lenb4 capb4 : Nat) (m4 : List ByteArray) (em4 : m4.length = lenb4) (mm4 : lenb4 ≤ maxLen) (sm4 : ∀ k (h : k < m4.length), m4[k].size ≤ maxLen) (rm4 : RowV w b4 (cS m4)) (b5 : Option Addr) (lenb5 capb5 : Nat) (m5 : List ByteArray) (em5 : m5.length = lenb5) (mm5 : lenb5 ≤ maxLen) (sm5 : ∀ k (h : k < m5.length), m5[k].size ≤ maxLen) (rm5 : RowV w b5 (cS m5)) (hT : TzTab w) :
    Calls Tryd.prog 3 #[.int .i64 a0, .int .i64 a1, .int .i64 a2, .int .i64 a3, .slice b4 lenb4 capb4, .slice b5 lenb5 capb5] w fun e w' => e = .returned (.bool true) ∧ Below w.heap.size w w' := by
  clear w0 w1 w2 w3
  obtain ⟨nb2, fr2, vw2, vh2, L, c, his⟩ := dv_ex a0 a1 a2 a3 m4 m5
  have HIS := hide his
  have hL10 := dv_len his
  have nc : (c != c) = false := by simp
  obtain ⟨nL, hnL⟩ : ∃ nL, nL = L.length := ⟨_, rfl⟩
  have HNL : Hid (L.length = nL) := hnL.symm
  have hnL10 : nL ≤ 10 := by rw [hnL]; exact hL10
  obtain ⟨q, hq⟩ : ∃ q : Int, q = ((1 + nL * 2 : Nat) : Int) := ⟨_, rfl⟩
  have q1 : ¬ q < 0 := by omega
  have nq : (q != q) = false := by simp
  have HQ := hide hq
  have HN10 := hide hnL10
  have HTZ := hide hT
  clear his hq hnL hL10 hnL10 hT
  have HN4 := hide em4
  clear em4
  have HM4 := hide mm4
  clear mm4
  have HS4 := hide sm4
  clear sm4
  have HR4 := hide rm4
  clear rm4
  have HN5 := hide em5
  clear em5
  have HM5 := hide mm5
  clear mm5
  have HS5 := hide sm5
  clear sm5
  have HR5 := hide rm5
  clear rm5
  have B_1 := hide (Below.refl w.heap.size w)
  go_enter Tryd.func3, Tryd.ntmps3
  go_wp2_with fail
  refine (szStrN b4 capb4 lenb4 m4 HN4 1048576 (Nat.le_refl _) HM4 HS4 _ ((unhide HR4).below (unhide B_1))).mono ?_
  rintro e w1 ⟨x, rfl, hb1, hx⟩
  have B_2 := hide ((unhide B_1).trans (hb1.mono (unhide B_1).size))
  clear B_1
  clear hb1
  rcases hx with rfl | ⟨z4_, rfl, hz4, hl4, hs4⟩
  · go_wp2_with fail
    go_ret
    exact ⟨rfl, (unhide B_2)⟩
  have hzn4 : ¬ (z4_ : Int) < 0 := by omega
  have HSZ4 := hide hs4
  have HL4 := hide hl4
  have HY4 := hide hz4
  clear hs4 HM4 HS4 hl4 hz4
  go_wp2_with fail
  refine (szStrN b5 capb5 lenb5 m5 HN5 z4_ (by have := unhide HY4; omega) HM5 HS5 _ ((unhide HR5).below (unhide B_2))).mono ?_
  rintro e w2 ⟨x, rfl, hb2, hx⟩
  have B_3 := hide ((unhide B_2).trans (hb2.mono (unhide B_2).size))
  clear B_2
  clear hb2
  rcases hx with rfl | ⟨z5_, rfl, hz5, hl5, hs5⟩
  · go_wp2_with fail
    go_ret
    exact ⟨rfl, (unhide B_3)⟩
  have hzn5 : ¬ (z5_ : Int) < 0 := by omega
  have HSZ5 := hide hs5
  have HL5 := hide hl5
  have HY5 := hide hz5
  clear hs5 HM5 HS5 hl5 hz5
  obtain ⟨kx4, hkx4⟩ : ∃ kx : Nat, kx = 1 + lenb4 := ⟨_, rfl⟩
  have HK4 := hide hkx4
  clear hkx4
  obtain ⟨kx5, hkx5⟩ : ∃ kx : Nat, kx = kx4 + lenb5 := ⟨_, rfl⟩
  have HK5 := hide hkx5
  clear hkx5
  have hk0 : ¬ (kx5 : Int) < 0 := by omega
  have zz : w.heap.size ≤ w2.heap.size := (unhide B_3).size
  go_wp2_with fail
  refine (copyStrN b4 capb4 lenb4 m4 HN4 (unhide HL4) _ ((unhide HR4).below (unhide B_3))).mono ?_
  rintro e w3 ⟨g3, rfl, o3, hb3⟩
  have z3 : w2.heap.size ≤ w3.heap.size := by have := hb3.size; (try simp at this); omega
  have B_4 := hide ((unhide B_3).trans (hb3.mono (unhide B_3).size))
  clear B_3
  clear hb3
  have S4_5 := hide (held_of o3)
  clear o3
  try simp only [World.size_alloc] at S4_5
  go_wp2_with fail
  refine (copyStrN b5 capb5 lenb5 m5 HN5 (unhide HL5) _ ((unhide HR5).below (unhide B_4))).mono ?_
  rintro e w4 ⟨g4, rfl, o4, hb4⟩
  have z4 : w3.heap.size ≤ w4.heap.size := by have := hb4.size; (try simp at this); omega
  have B_6 := hide ((unhide B_4).trans (hb4.mono (unhide B_4).size))
  clear B_4
  have S4_7 := hide ((unhide S4_5).below hb4 (unhide S4_5).le)
  clear S4_5
  clear hb4
  have S5_8 := hide (held_of o4)
  clear o4
  try simp only [World.size_alloc] at S5_8
  go_wp2_with fail
  refine (sdiff11 a0 a1 a2 a3 _ _ lenb4 m4 HN4 (unhide HL4) HSZ4 _ _ lenb5 m5 HN5 (unhide HL5) HSZ5 nb2 fr2 vw2 vh2 L c HIS _ (unhide S4_7).rowV (unhide S5_8).rowV).mono ?_
  rintro e w5 ⟨vW, rfl, hoW, hb5⟩
  have z5 : w4.heap.size ≤ w5.heap.size := by have := hb5.size; (try simp at this); omega
  have B_9 := hide ((unhide B_6).trans (hb5.mono (unhide B_6).size))
  clear B_6
  have S4_10 := hide ((unhide S4_7).below hb5 (unhide S4_7).le)
  clear S4_7
  have S5_11 := hide ((unhide S5_8).below hb5 (unhide S5_8).le)
  clear S5_8
  clear hb5
  obtain ⟨aW, cW, rfl, -⟩ := ownZ_rowV hoW
  rw [unhide HNL] at hoW
  have W_12 := hide (heldZ_of hoW)
  clear hoW
  try simp only [World.size_alloc] at W_12
  rw [unhide HNL]
  have B_13 := hide ((unhide B_9).alloc (unhide B_9).size (.cells #[.int .i64 nb2, .int .i64 fr2, .bool false, .int .i64 vw2, .int .i64 vh2, .slice aW nL cW] 26))
  clear B_9
  have S4_14 := hide ((unhide S4_10).below (Go.Joins.below_alloc1 _ (.cells #[.int .i64 nb2, .int .i64 fr2, .bool false, .int .i64 vw2, .int .i64 vh2, .slice aW nL cW] 26)) (unhide S4_10).le)
  clear S4_10
  have S5_15 := hide ((unhide S5_11).below (Go.Joins.below_alloc1 _ (.cells #[.int .i64 nb2, .int .i64 fr2, .bool false, .int .i64 vw2, .int .i64 vh2, .slice aW nL cW] 26)) (unhide S5_11).le)
  clear S5_11
  have W_16 := hide ((unhide W_12).below (Go.Joins.below_alloc1 _ (.cells #[.int .i64 nb2, .int .i64 fr2, .bool false, .int .i64 vw2, .int .i64 vh2, .slice aW nL cW] 26)) (unhide W_12).le)
  clear W_12
  have bW_17 := hide (BF.new w5 #[.int .i64 nb2, .int .i64 fr2, .bool false, .int .i64 vw2, .int .i64 vh2, .slice aW nL cW] 26)
  clear S4_14
  clear S5_15
  go_wp2_with fail
  refine (copyStrN b4 capb4 lenb4 m4 HN4 (unhide HL4) _ ((unhide HR4).below (unhide B_13))).mono ?_
  rintro e w6 ⟨g6, rfl, o6, hb6⟩
  have z6 : w5.heap.size + 1 ≤ w6.heap.size := by have := hb6.size; (try simp at this); omega
  have B_18 := hide ((unhide B_13).trans (hb6.mono (unhide B_13).size))
  clear B_13
  have W_19 := hide ((unhide W_16).below hb6 (unhide W_16).le)
  clear W_16
  have bW_20 := hide ((unhide bW_17).below hb6)
  clear bW_17
  clear hb6
  have X4_21 := hide (held_of o6)
  clear o6
  try simp only [World.size_alloc] at X4_21
  go_wp2_with fail
  refine (copyStrN b5 capb5 lenb5 m5 HN5 (unhide HL5) _ ((unhide HR5).below (unhide B_18))).mono ?_
  rintro e w7 ⟨g7, rfl, o7, hb7⟩
  have z7 : w6.heap.size ≤ w7.heap.size := by have := hb7.size; (try simp at this); omega
  have B_22 := hide ((unhide B_18).trans (hb7.mono (unhide B_18).size))
  clear B_18
  have W_23 := hide ((unhide W_19).below hb7 (unhide W_19).le)
  clear W_19
  have bW_24 := hide ((unhide bW_20).below hb7)
  clear bW_20
  have X4_25 := hide ((unhide X4_21).below hb7 (unhide X4_21).le)
  clear X4_21
  clear hb7
  have X5_26 := hide (held_of o7)
  clear o7
  try simp only [World.size_alloc] at X5_26
  go_wp2_with fail
  refine (idiff11 a0 a1 a2 a3 _ _ lenb4 m4 HN4 (unhide HL4) HSZ4 _ _ lenb5 m5 HN5 (unhide HL5) HSZ5 nb2 fr2 vw2 vh2 L c HIS _ (unhide X4_25).rowV (unhide X5_26).rowV ((unhide HTZ).below (unhide B_22) (unhide HTZ).pos)).mono ?_
  rintro e w8 ⟨vG, rfl, hoG, hb8⟩
  have z8 : w7.heap.size ≤ w8.heap.size := by have := hb8.size; (try simp at this); omega
  have B_27 := hide ((unhide B_22).trans (hb8.mono (unhide B_22).size))
  clear B_22
  have W_28 := hide ((unhide W_23).below hb8 (unhide W_23).le)
  clear W_23
  have bW_29 := hide ((unhide bW_24).below hb8)
  clear bW_24
  have X4_30 := hide ((unhide X4_25).below hb8 (unhide X4_25).le)
  clear X4_25
  have X5_31 := hide ((unhide X5_26).below hb8 (unhide X5_26).le)
  clear X5_26
  clear hb8
  obtain ⟨aG, cG, rfl, -⟩ := ownZ_rowV hoG
  rw [unhide HNL] at hoG
  have G_32 := hide (heldZ_of hoG)
  clear hoG
  try simp only [World.size_alloc] at G_32
  rw [unhide HNL]
  have B_33 := hide ((unhide B_27).alloc (unhide B_27).size (.cells #[.int .i64 nb2, .int .i64 fr2, .bool false, .int .i64 vw2, .int .i64 vh2, .slice aG nL cG] 26))
  clear B_27
  have W_34 := hide ((unhide W_28).below (Go.Joins.below_alloc1 _ (.cells #[.int .i64 nb2, .int .i64 fr2, .bool false, .int .i64 vw2, .int .i64 vh2, .slice aG nL cG] 26)) (unhide W_28).le)
  clear W_28
  have bW_35 := hide ((unhide bW_29).alloc (.cells #[.int .i64 nb2, .int .i64 fr2, .bool false, .int .i64 vw2, .int .i64 vh2, .slice aG nL cG] 26))
  clear bW_29
  have X4_36 := hide ((unhide X4_30).below (Go.Joins.below_alloc1 _ (.cells #[.int .i64 nb2, .int .i64 fr2, .bool false, .int .i64 vw2, .int .i64 vh2, .slice aG nL cG] 26)) (unhide X4_30).le)
  clear X4_30
  have X5_37 := hide ((unhide X5_31).below (Go.Joins.below_alloc1 _ (.cells #[.int .i64 nb2, .int .i64 fr2, .bool false, .int .i64 vw2, .int .i64 vh2, .slice aG nL cG] 26)) (unhide X5_31).le)
  clear X5_31
  have G_38 := hide ((unhide G_32).below (Go.Joins.below_alloc1 _ (.cells #[.int .i64 nb2, .int .i64 fr2, .bool false, .int .i64 vw2, .int .i64 vh2, .slice aG nL cG] 26)) (unhide G_32).le)
  clear G_32
  have bG_39 := hide (BF.new w8 #[.int .i64 nb2, .int .i64 fr2, .bool false, .int .i64 vw2, .int .i64 vh2, .slice aG nL cG] 26)
  have kbG := (unhide bG_39).S
  have kbW := (unhide bW_35).S
  go_wp2_with fail
  refine (eqVw nb2 fr2 vw2 vh2 false aG aW cG cW nL L HNL (Nat.le_trans (unhide HN10) (by decide)) _ (unhide G_38).rowV (unhide W_34).rowV).mono ?_
  rintro e w9 ⟨rfl, hb9⟩
  clear kbG kbW
  have B_40 := hide ((unhide B_33).trans (hb9.mono (unhide B_33).size))
  clear B_33
  have W_41 := hide ((unhide W_34).below hb9 (unhide W_34).le)
  clear W_34
  have bW_42 := hide ((unhide bW_35).below hb9)
  clear bW_35
  have X4_43 := hide ((unhide X4_36).below hb9 (unhide X4_36).le)
  clear X4_36
  have X5_44 := hide ((unhide X5_37).below hb9 (unhide X5_37).le)
  clear X5_37
  have G_45 := hide ((unhide G_38).below hb9 (unhide G_38).le)
  clear G_38
  have bG_46 := hide ((unhide bG_39).below hb9)
  clear bG_39
  clear hb9
  go_wp2_with fail
  refine (copyStrN b4 capb4 lenb4 m4 HN4 (unhide HL4) _ ((unhide HR4).below (unhide B_40))).mono ?_
  rintro e w10 ⟨g10, rfl, o10, hb10⟩
  have z10 : 0 ≤ w10.heap.size := by have := hb10.size; (try simp at this); omega
  have B_47 := hide ((unhide B_40).trans (hb10.mono (unhide B_40).size))
  clear B_40
  have W_48 := hide ((unhide W_41).below hb10 (unhide W_41).le)
  clear W_41
  have bW_49 := hide ((unhide bW_42).below hb10)
  clear bW_42
  have X4_50 := hide ((unhide X4_43).below hb10 (unhide X4_43).le)
  clear X4_43
  have X5_51 := hide ((unhide X5_44).below hb10 (unhide X5_44).le)
  clear X5_44
  have G_52 := hide ((unhide G_45).below hb10 (unhide G_45).le)
  clear G_45
  have bG_53 := hide ((unhide bG_46).below hb10)
  clear bG_46
  clear hb10
  have T_54 := hide (held_of o10)
  clear o10
  try simp only [World.size_alloc] at T_54
  go_wp2_with fail
  refine (sameStrN _ _ _ _ lenb4 m4 HN4 (unhide HL4) _ (unhide X4_50).rowV (unhide T_54).rowV).mono ?_
  rintro e w11 ⟨rfl, hb11⟩
  have B_55 := hide ((unhide B_47).trans (hb11.mono (unhide B_47).size))
  clear B_47
  have W_56 := hide ((unhide W_48).below hb11 (unhide W_48).le)
  clear W_48
  have bW_57 := hide ((unhide bW_49).below hb11)
  clear bW_49
  have X4_58 := hide ((unhide X4_50).below hb11 (unhide X4_50).le)
  clear X4_50
  have X5_59 := hide ((unhide X5_51).below hb11 (unhide X5_51).le)
  clear X5_51
  have G_60 := hide ((unhide G_52).below hb11 (unhide G_52).le)
  clear G_52
  have bG_61 := hide ((unhide bG_53).below hb11)
  clear bG_53
  have T_62 := hide ((unhide T_54).below hb11 (unhide T_54).le)
  clear T_54
  clear hb11
  clear T_62
  go_wp2_with fail
  refine (copyStrN b5 capb5 lenb5 m5 HN5 (unhide HL5) _ ((unhide HR5).below (unhide B_55))).mono ?_
  rintro e w12 ⟨g12, rfl, o12, hb12⟩
  have z12 : 0 ≤ w12.heap.size := by have := hb12.size; (try simp at this); omega
  have B_63 := hide ((unhide B_55).trans (hb12.mono (unhide B_55).size))
  clear B_55
  have W_64 := hide ((unhide W_56).below hb12 (unhide W_56).le)
  clear W_56
  have bW_65 := hide ((unhide bW_57).below hb12)
  clear bW_57
  have X4_66 := hide ((unhide X4_58).below hb12 (unhide X4_58).le)
  clear X4_58
  have X5_67 := hide ((unhide X5_59).below hb12 (unhide X5_59).le)
  clear X5_59
  have G_68 := hide ((unhide G_60).below hb12 (unhide G_60).le)
  clear G_60
  have bG_69 := hide ((unhide bG_61).below hb12)
  clear bG_61
  clear hb12
  have T_70 := hide (held_of o12)
  clear o12
  try simp only [World.size_alloc] at T_70
  go_wp2_with fail
  refine (sameStrN _ _ _ _ lenb5 m5 HN5 (unhide HL5) _ (unhide X5_67).rowV (unhide T_70).rowV).mono ?_
  rintro e w13 ⟨rfl, hb13⟩
  have B_71 := hide ((unhide B_63).trans (hb13.mono (unhide B_63).size))
  clear B_63
  have W_72 := hide ((unhide W_64).below hb13 (unhide W_64).le)
  clear W_64
  have bW_73 := hide ((unhide bW_65).below hb13)
  clear bW_65
  have X4_74 := hide ((unhide X4_66).below hb13 (unhide X4_66).le)
  clear X4_66
  have X5_75 := hide ((unhide X5_67).below hb13 (unhide X5_67).le)
  clear X5_67
  have G_76 := hide ((unhide G_68).below hb13 (unhide G_68).le)
  clear G_68
  have bG_77 := hide ((unhide bG_69).below hb13)
  clear bG_69
  have T_78 := hide ((unhide T_70).below hb13 (unhide T_70).le)
  clear T_70
  clear hb13
  clear T_78
  go_wp2_with fail
  refine (markStr1N _ lenb4 _ _ kx4 HK4 _ (by have := unhide HL4; omega) _ (unhide X4_74)).mono ?_
  rintro e w14 ⟨rfl, h14, hg14⟩
  have B_79 := hide (Below.marked (unhide B_71) (unhide B_71).size (unhide X4_74) (by omega) hg14)
  clear B_71
  have W_80 := hide ((unhide W_72).grown hg14 (fun k hk => by have := (unhide X4_74).blk k hk; omega))
  clear W_72
  have bW_81 := hide ((unhide bW_73).grown hg14 (fun hk => by have := (unhide X4_74).blk _ hk; omega))
  clear bW_73
  have X5_82 := hide ((unhide X5_75).grown hg14 (fun k hk => by have := (unhide X4_74).blk k hk; omega))
  clear X5_75
  have G_83 := hide ((unhide G_76).grown hg14 (fun k hk => by have := (unhide X4_74).blk k hk; omega))
  clear G_76
  have bG_84 := hide ((unhide bG_77).grown hg14 (fun hk => by have := (unhide X4_74).blk _ hk; omega))
  clear bG_77
  have X4_m14 := hide h14
  clear h14 hg14 X4_74
  clear X4_m14
  go_wp2_with fail
  refine (markStrN _ lenb5 _ _ kx4 kx5 HK5 _ (by have := unhide HL5; omega) (by have := unhide HK4; omega) (by have := unhide HK4; have := unhide HL4; omega) _ (unhide X5_82)).mono ?_
  rintro e w15 ⟨rfl, h15, hg15⟩
  have B_85 := hide (Below.marked (unhide B_79) (unhide B_79).size (unhide X5_82) (by omega) hg15)
  clear B_79
  have W_86 := hide ((unhide W_80).grown hg15 (fun k hk => by have := (unhide X5_82).blk k hk; omega))
  clear W_80
  have bW_87 := hide ((unhide bW_81).grown hg15 (fun hk => by have := (unhide X5_82).blk _ hk; omega))
  clear bW_81
  have G_88 := hide ((unhide G_83).grown hg15 (fun k hk => by have := (unhide X5_82).blk k hk; omega))
  clear G_83
  have bG_89 := hide ((unhide bG_84).grown hg15 (fun hk => by have := (unhide X5_82).blk _ hk; omega))
  clear bG_84
  have X5_m15 := hide h15
  clear h15 hg15 X5_82
  clear X5_m15
  have kbG := (unhide bG_89).S
  have kbW := (unhide bW_87).S
  go_wp2_with fail
  refine (eqVw nb2 fr2 vw2 vh2 false aG aW cG cW nL L HNL (Nat.le_trans (unhide HN10) (by decide)) _ (unhide G_88).rowV (unhide W_86).rowV).mono ?_
  rintro e w16 ⟨rfl, hb16⟩
  clear kbG kbW
  have B_90 := hide ((unhide B_85).trans (hb16.mono (unhide B_85).size))
  clear B_85
  have W_91 := hide ((unhide W_86).below hb16 (unhide W_86).le)
  clear W_86
  have bW_92 := hide ((unhide bW_87).below hb16)
  clear bW_87
  have G_93 := hide ((unhide G_88).below hb16 (unhide G_88).le)
  clear G_88
  have bG_94 := hide ((unhide bG_89).below hb16)
  clear bG_89
  clear hb16
  have kbG := (unhide bG_94).S
  go_wp2_with fail
  refine (markVw nb2 fr2 vw2 vh2 false _ nL _ _ _ 1 q HQ _ (by decide) (by have := unhide HN10; omega) _ (unhide G_93)).mono ?_
  rintro e w17 ⟨rfl, h17, hg17⟩
  clear kbG
  have B_95 := hide (Below.markedZ (unhide B_90) (unhide B_90).size (unhide G_93) (by omega) hg17)
  clear B_90
  have W_96 := hide ((unhide W_91).grown hg17 (fun k hk => by have := (unhide G_93).blk k hk; omega))
  clear W_91
  have bW_97 := hide ((unhide bW_92).grown hg17 (fun hk => by have := (unhide G_93).blk _ hk; omega))
  clear bW_92
  have bG_98 := hide ((unhide bG_94).grown hg17 (fun hk => by have := (unhide G_93).blk _ hk; omega))
  clear bG_94
  have G_m17 := hide h17
  clear h17 hg17 G_93
  have kbG := (unhide bG_98).S
  go_wp2_with fail
  refine (heldVw nb2 fr2 vw2 vh2 false _ nL _ _ _ 1 q HQ (by decide) (by have := unhide HN10; omega) _ (unhide G_m17)).mono ?_
  rintro e w18 ⟨rfl, hb18⟩
  clear kbG
  have B_99 := hide ((unhide B_95).trans (hb18.mono (unhide B_95).size))
  clear B_95
  have W_100 := hide ((unhide W_96).below hb18 (unhide W_96).le)
  clear W_96
  have bW_101 := hide ((unhide bW_97).below hb18)
  clear bW_97
  have bG_102 := hide ((unhide bG_98).below hb18)
  clear bG_98
  have G_103 := hide ((unhide G_m17).below hb18 (unhide G_m17).le)
  clear G_m17
  clear hb18
  go_wp2_with fail
  refine (copyStrN b4 capb4 lenb4 m4 HN4 (unhide HL4) _ ((unhide HR4).below (unhide B_99))).mono ?_
  rintro e w19 ⟨g19, rfl, o19, hb19⟩
  have z19 : 0 ≤ w19.heap.size := by have := hb19.size; (try simp at this); omega
  have B_104 := hide ((unhide B_99).trans (hb19.mono (unhide B_99).size))
  clear B_99
  have W_105 := hide ((unhide W_100).below hb19 (unhide W_100).le)
  clear W_100
  have bW_106 := hide ((unhide bW_101).below hb19)
  clear bW_101
  have bG_107 := hide ((unhide bG_102).below hb19)
  clear bG_102
  have G_108 := hide ((unhide G_103).below hb19 (unhide G_103).le)
  clear G_103
  clear hb19
  have Y4_109 := hide (held_of o19)
  clear o19
  try simp only [World.size_alloc] at Y4_109
  go_wp2_with fail
  refine (copyStrN b5 capb5 lenb5 m5 HN5 (unhide HL5) _ ((unhide HR5).below (unhide B_104))).mono ?_
  rintro e w20 ⟨g20, rfl, o20, hb20⟩
  have z20 : 0 ≤ w20.heap.size := by have := hb20.size; (try simp at this); omega
  have B_110 := hide ((unhide B_104).trans (hb20.mono (unhide B_104).size))
  clear B_104
  have W_111 := hide ((unhide W_105).below hb20 (unhide W_105).le)
  clear W_105
  have bW_112 := hide ((unhide bW_106).below hb20)
  clear bW_106
  have bG_113 := hide ((unhide bG_107).below hb20)
  clear bG_107
  have G_114 := hide ((unhide G_108).below hb20 (unhide G_108).le)
  clear G_108
  have Y4_115 := hide ((unhide Y4_109).below hb20 (unhide Y4_109).le)
  clear Y4_109
  clear hb20
  have Y5_116 := hide (held_of o20)
  clear o20
  try simp only [World.size_alloc] at Y5_116
  go_wp2_with fail
  refine (idiff11 a0 a1 a2 a3 _ _ lenb4 m4 HN4 (unhide HL4) HSZ4 _ _ lenb5 m5 HN5 (unhide HL5) HSZ5 nb2 fr2 vw2 vh2 L c HIS _ (unhide Y4_115).rowV (unhide Y5_116).rowV ((unhide HTZ).below (unhide B_110) (unhide HTZ).pos)).mono ?_
  rintro e w21 ⟨vH, rfl, hoH, hb21⟩
  have B_117 := hide ((unhide B_110).trans (hb21.mono (unhide B_110).size))
  clear B_110
  have W_118 := hide ((unhide W_111).below hb21 (unhide W_111).le)
  clear W_111
  have bW_119 := hide ((unhide bW_112).below hb21)
  clear bW_112
  have bG_120 := hide ((unhide bG_113).below hb21)
  clear bG_113
  have G_121 := hide ((unhide G_114).below hb21 (unhide G_114).le)
  clear G_114
  have Y4_122 := hide ((unhide Y4_115).below hb21 (unhide Y4_115).le)
  clear Y4_115
  have Y5_123 := hide ((unhide Y5_116).below hb21 (unhide Y5_116).le)
  clear Y5_116
  clear hb21
  obtain ⟨aH, cH, rfl, -⟩ := ownZ_rowV hoH
  rw [unhide HNL] at hoH
  have H_124 := hide (heldZ_of hoH)
  clear hoH
  try simp only [World.size_alloc] at H_124
  rw [unhide HNL]
  have B_125 := hide ((unhide B_117).alloc (unhide B_117).size (.cells #[.int .i64 nb2, .int .i64 fr2, .bool false, .int .i64 vw2, .int .i64 vh2, .slice aH nL cH] 26))
  clear B_117
  have W_126 := hide ((unhide W_118).below (Go.Joins.below_alloc1 _ (.cells #[.int .i64 nb2, .int .i64 fr2, .bool false, .int .i64 vw2, .int .i64 vh2, .slice aH nL cH] 26)) (unhide W_118).le)
  clear W_118
  have bW_127 := hide ((unhide bW_119).alloc (.cells #[.int .i64 nb2, .int .i64 fr2, .bool false, .int .i64 vw2, .int .i64 vh2, .slice aH nL cH] 26))
  clear bW_119
  have bG_128 := hide ((unhide bG_120).alloc (.cells #[.int .i64 nb2, .int .i64 fr2, .bool false, .int .i64 vw2, .int .i64 vh2, .slice aH nL cH] 26))
  clear bG_120
  have G_129 := hide ((unhide G_121).below (Go.Joins.below_alloc1 _ (.cells #[.int .i64 nb2, .int .i64 fr2, .bool false, .int .i64 vw2, .int .i64 vh2, .slice aH nL cH] 26)) (unhide G_121).le)
  clear G_121
  have Y4_130 := hide ((unhide Y4_122).below (Go.Joins.below_alloc1 _ (.cells #[.int .i64 nb2, .int .i64 fr2, .bool false, .int .i64 vw2, .int .i64 vh2, .slice aH nL cH] 26)) (unhide Y4_122).le)
  clear Y4_122
  have Y5_131 := hide ((unhide Y5_123).below (Go.Joins.below_alloc1 _ (.cells #[.int .i64 nb2, .int .i64 fr2, .bool false, .int .i64 vw2, .int .i64 vh2, .slice aH nL cH] 26)) (unhide Y5_123).le)
  clear Y5_123
  have H_132 := hide ((unhide H_124).below (Go.Joins.below_alloc1 _ (.cells #[.int .i64 nb2, .int .i64 fr2, .bool false, .int .i64 vw2, .int .i64 vh2, .slice aH nL cH] 26)) (unhide H_124).le)
  clear H_124
  have bH_133 := hide (BF.new w21 #[.int .i64 nb2, .int .i64 fr2, .bool false, .int .i64 vw2, .int .i64 vh2, .slice aH nL cH] 26)
  have kbH := (unhide bH_133).S
  have kbW := (unhide bW_127).S
  go_wp2_with fail
  refine (eqVw nb2 fr2 vw2 vh2 false aH aW cH cW nL L HNL (Nat.le_trans (unhide HN10) (by decide)) _ (unhide H_132).rowV (unhide W_126).rowV).mono ?_
  rintro e w22 ⟨rfl, hb22⟩
  clear kbH kbW
  have B_134 := hide ((unhide B_125).trans (hb22.mono (unhide B_125).size))
  clear B_125
  have W_135 := hide ((unhide W_126).below hb22 (unhide W_126).le)
  clear W_126
  have bW_136 := hide ((unhide bW_127).below hb22)
  clear bW_127
  have bG_137 := hide ((unhide bG_128).below hb22)
  clear bG_128
  have G_138 := hide ((unhide G_129).below hb22 (unhide G_129).le)
  clear G_129
  have Y4_139 := hide ((unhide Y4_130).below hb22 (unhide Y4_130).le)
  clear Y4_130
  have Y5_140 := hide ((unhide Y5_131).below hb22 (unhide Y5_131).le)
  clear Y5_131
  have H_141 := hide ((unhide H_132).below hb22 (unhide H_132).le)
  clear H_132
  have bH_142 := hide ((unhide bH_133).below hb22)
  clear bH_133
  clear hb22
  have kbG := (unhide bG_137).S
  go_wp2_with fail
  refine (heldVw nb2 fr2 vw2 vh2 false _ nL _ _ _ 1 q HQ (by decide) (by have := unhide HN10; omega) _ (unhide G_138)).mono ?_
  rintro e w23 ⟨rfl, hb23⟩
  clear kbG
  have B_143 := hide ((unhide B_134).trans (hb23.mono (unhide B_134).size))
  clear B_134
  have W_144 := hide ((unhide W_135).below hb23 (unhide W_135).le)
  clear W_135
  have bW_145 := hide ((unhide bW_136).below hb23)
  clear bW_136
  have bG_146 := hide ((unhide bG_137).below hb23)
  clear bG_137
  have G_147 := hide ((unhide G_138).below hb23 (unhide G_138).le)
  clear G_138
  have Y4_148 := hide ((unhide Y4_139).below hb23 (unhide Y4_139).le)
  clear Y4_139
  have Y5_149 := hide ((unhide Y5_140).below hb23 (unhide Y5_140).le)
  clear Y5_140
  have H_150 := hide ((unhide H_141).below hb23 (unhide H_141).le)
  clear H_141
  have bH_151 := hide ((unhide bH_142).below hb23)
  clear bH_142
  clear hb23
  go_wp2_with fail
  go_ret
  exact ⟨rfl, (unhide B_143)⟩

theorem own : ownKnob Tryd.prog.godebug = none := by kernel_rfl
theorem laidOut : laidOutB Tryd.prog = true := by kernel_rfl
set_option maxRecDepth 100000 in
theorem lifted (os : Os) (started : os.Started) (H : Type) (enc : TypeId × Value → H) :
    ReturnsInHanded {} Tryd.checked os 3 .any (fun w args => (Rows.fnExactDiffViewSpec.pre enc Tryd.prog Tryd.f3 [] false w args ∧ laidMetH Tryd.prog Rows.fnExactDiffViewRow.laid w) ∧ sizedMet enc Tryd.prog Tryd.f3 (OpenSpec.ofChange Rows.fnExactDiffViewSpec) false w args)
      (Rows.fnExactDiffViewSpec.post enc Tryd.prog Tryd.f3 false true false false) := by
  refine returnsInHanded_of_change_and (C := Tryd.checked) (X := fun w _ => laidMetH Tryd.prog Rows.fnExactDiffViewRow.laid w) (fun _ _ _ hh h => h.of_heap hh) own started (by kernel_rfl) Tryd.func3
    (ChangeSpec.witness_shaped (enc := enc) (C := Tryd.checked) (os := os) (X := fun w _ => laidMetH Tryd.prog Rows.fnExactDiffViewRow.laid w) false (World.laidAll Tryd.prog os Rows.fnExactDiffViewRow.laid) #[.int .i64 0, .int .i64 0, .int .i64 0, .int .i64 0, .slice none 0 0, .slice none 0 0] 8 (World.laidAll_os _ _ _) (World.shaped_of_ZipB (by kernel_rfl) (by kernel_rfl)) (by kernel_rfl) (by kernel_rfl) (by kernel_rfl) (by rw [MakeChecks.laidMetH_plain _ _ _ (by kernel_rfl)]; exact laidMet_laidAll _ (by kernel_rfl) (by kernel_rfl))) ?_
  intro W base args ds gs before hval0 hW _ _ hL _
  have hval : ∀ (j : Nat) t v, Tryd.f3.params[j]? = some t → args[j]? = some v → Value.okWide Tryd.prog W .any base t v := hval0
  have hW' := hW
  obtain ⟨p, q, hA0, hV, rfl, hfz, hnd⟩ := hW
  have hA : DataW.TrodAll enc Tryd.prog W 0 (fun _ => true) true Tryd.f3.params.toList args.toList ds p := hA0
  rw [Tryd.params3] at hA hval
  obtain ⟨v0, vs0, d0, ds0, p0, q0, hargs, rfl, rfl, h0, r0⟩ := trodAll_cons hA
  obtain ⟨v1, vs1, d1, ds1, p1, q1, rfl, rfl, rfl, h1, r1⟩ := trodAll_cons r0
  obtain ⟨v2, vs2, d2, ds2, p2, q2, rfl, rfl, rfl, h2, r2⟩ := trodAll_cons r1
  obtain ⟨v3, vs3, d3, ds3, p3, q3, rfl, rfl, rfl, h3, r3⟩ := trodAll_cons r2
  obtain ⟨v4, vs4, d4, ds4, p4, q4, rfl, rfl, rfl, h4, r4⟩ := trodAll_cons r3
  obtain ⟨v5, vs5, d5, ds5, p5, q5, rfl, rfl, rfl, h5, r5⟩ := trodAll_cons r4
  obtain ⟨rfl, rfl, rfl⟩ := trodAll_nil r5
  obtain rfl : args = #[v0, v1, v2, v3, v4, v5] := by cases args; simp_all
  obtain ⟨rfl, rfl⟩ := trodVars_none hV
  have k0 := h0
  have lt0 : ∀ x ∈ p0, x.block < W.heap.size := by obtain ⟨m, hm⟩ := k0; exact DataW.trod_lt m _ _ _ hm
  have k1 := h1
  have lt1 : ∀ x ∈ p1, x.block < W.heap.size := by obtain ⟨m, hm⟩ := k1; exact DataW.trod_lt m _ _ _ hm
  have k2 := h2
  have lt2 : ∀ x ∈ p2, x.block < W.heap.size := by obtain ⟨m, hm⟩ := k2; exact DataW.trod_lt m _ _ _ hm
  have k3 := h3
  have lt3 : ∀ x ∈ p3, x.block < W.heap.size := by obtain ⟨m, hm⟩ := k3; exact DataW.trod_lt m _ _ _ hm
  have k4 := h4
  have lt4 : ∀ x ∈ p4, x.block < W.heap.size := by obtain ⟨m, hm⟩ := k4; exact DataW.trod_lt m _ _ _ hm
  have k5 := h5
  have lt5 : ∀ x ∈ p5, x.block < W.heap.size := by obtain ⟨m, hm⟩ := k5; exact DataW.trod_lt m _ _ _ hm
  obtain ⟨a0, rfl, rfl, rfl, w0⟩ := open_int Tryd.underlying3 (hval 0 3 v0 rfl rfl) h0
  obtain ⟨a1, rfl, rfl, rfl, w1⟩ := open_int Tryd.underlying3 (hval 1 3 v1 rfl rfl) h1
  obtain ⟨a2, rfl, rfl, rfl, w2⟩ := open_int Tryd.underlying3 (hval 2 3 v2 rfl rfl) h2
  obtain ⟨a3, rfl, rfl, rfl, w3⟩ := open_int Tryd.underlying3 (hval 3 3 v3 rfl rfl) h3
  obtain ⟨b4, lenb4, capb4, rfl⟩ := okWide_slice Tryd.underlying22 (hval 4 22 v4 rfl rfl)
  obtain ⟨m4, em4, mm4, sm4, rm4⟩ : ∃ m : List ByteArray, m.length = lenb4 ∧ lenb4 ≤ maxLen ∧ (∀ k (h : k < m.length), m[k].size ≤ maxLen) ∧ RowV W b4 (cS m) := by
    obtain ⟨fuel, hf⟩ := h4
    obtain ⟨a2, l2, c2, m, e, h1, h2, h3, h4⟩ := strs_fieldO Tryd.underlying22 Tryd.underlying9 (by kernel_rfl) (show DataW.trod _ _ _ _ _ _ fuel _ [_] = _ from hf)
    injection e with e1 e2 e3
    subst e1 e2 e3
    exact ⟨m, h1, h2, h3, h4⟩
  obtain ⟨b5, lenb5, capb5, rfl⟩ := okWide_slice Tryd.underlying22 (hval 5 22 v5 rfl rfl)
  obtain ⟨m5, em5, mm5, sm5, rm5⟩ : ∃ m : List ByteArray, m.length = lenb5 ∧ lenb5 ≤ maxLen ∧ (∀ k (h : k < m.length), m[k].size ≤ maxLen) ∧ RowV W b5 (cS m) := by
    obtain ⟨fuel, hf⟩ := h5
    obtain ⟨a2, l2, c2, m, e, h1, h2, h3, h4⟩ := strs_fieldO Tryd.underlying22 Tryd.underlying9 (by kernel_rfl) (show DataW.trod _ _ _ _ _ _ fuel _ [_] = _ from hf)
    injection e with e1 e2 e3
    subst e1 e2 e3
    exact ⟨m, h1, h2, h3, h4⟩
  have hT := dv_laid hL
  clear hA0 hval0
  refine (walk W a0 w0 a1 w1 a2 w2 a3 w3 b4 lenb4 capb4 m4 em4 mm4 sm4 rm4 b5 lenb5 capb5 m5 em5 mm5 sm5 rm5 hT).mono fun e W' ⟨he, bel⟩ => ?_
  subst he
  exact ⟨_, rfl, _, _, _, [], _, [], hW', trodAll_mk1 (shut_bool Tryd.underlying4 _), (trodAll_cons_mk (Below.trod laidOut (by kernel_rfl) (of_decide_eq_true (by kernel_rfl)) k0 bel lt0) (trodAll_cons_mk (Below.trod laidOut (by kernel_rfl) (of_decide_eq_true (by kernel_rfl)) k1 bel lt1) (trodAll_cons_mk (Below.trod laidOut (by kernel_rfl) (of_decide_eq_true (by kernel_rfl)) k2 bel lt2) (trodAll_cons_mk (Below.trod laidOut (by kernel_rfl) (of_decide_eq_true (by kernel_rfl)) k3 bel lt3) (trodAll_cons_mk (Below.trod laidOut (by kernel_rfl) (of_decide_eq_true (by kernel_rfl)) k4 bel lt4) (trodAll_cons_mk (Below.trod laidOut (by kernel_rfl) (of_decide_eq_true (by kernel_rfl)) k5 bel lt5) trodAll_mk0)))))), rfl, bel.frame _, fun h => by cases h⟩

theorem said : Rows.FnExactDiffViewSaid :=
  OpenClaim.holds_of_wide 3 Tryd.f3 rfl rfl rfl rfl rfl rfl rfl ⟨rfl, rfl, rfl, rfl, rfl⟩ rfl rfl rfl rfl rfl (by kernel_rfl) Tryd.func3 (by kernel_rfl)
    (of_decide_eq_true (by kernel_rfl)) (by unfold Func.isWrapper; first | (rw [if_pos (by decide +kernel)]; kernel_rfl) | (rw [if_neg (by decide +kernel)]; exact ⟨rfl, rfl⟩))
    (fun os started H enc _ => lifted os started H enc)

theorem card : Rows.FnExactDiffViewCardSaid :=
  Claim7.holds_tied_plain_at .later [] _ _ _ _ said (fun _ h => by cases h) (by kernel_rfl) (fun _ h => by cases h) fnExactDiffView_row_tie rfl ⟨rfl, rfl⟩ (by kernel_rfl) rfl
    (fun f fn hf hfn => by
      obtain rfl : f = 3 := Option.some.inj ((show Tryd.prog.funcNamed Tryd.f3.name = some 3 by kernel_rfl).symm.trans hf) |>.symm
      obtain rfl : fn = Tryd.f3 := (Option.some.inj (Tryd.func3.symm.trans hfn)).symm
      exact ⟨by kernel_rfl, fun j t ht => by
        rw [Tryd.params3] at ht
        have hm : t ∈ [3, 3, 3, 3, 22, 22] := by simpa using Array.mem_of_getElem? ht
        have hall : ([3, 3, 3, 3, 22, 22].all fun u => !Tryd.prog.wantsStandIn u) = true := by kernel_rfl
        exact (show Tryd.prog.wantsStandIn t = false by simpa using List.all_eq_true.1 hall t hm)⟩)
    (by kernel_rfl)
#print axioms card
end Go.Proofs.YtnbifggochgagaaDoor
