/- At every argument that can be read, with the listed variables as the program text lays them, the law FnExactFullView returns true and leaves its arguments as they were: the tied card. -/
import Derived.Test.YtiacdkkcjdbjfaaDoorCards
import Derived.Test.YtiacdkkcjdbjfaaDoorTie
import Derived.Test.YtiacdkkcjdbjfaaDoorFvAll
import Derived.Test.YtiacdkkcjdbjfaaDoorStrO
import Derived.WalkKit
import Derived.ProofKit
import Derived.OpenShut
import Derived.ShutString
import Derived.ChangeOld
import Derived.Below
import Derived.OpenVars
import Derived.LaidMore
import Derived.Lay
import Derived.Stop.Joined
namespace Go.Proofs.YtiacdkkcjdbjfaaDoor
open Go.ChangeShapes Go.WideShapes Go.ChangeAt Go.RowKit
open Go.ChangeMaps (open_string shut_string)
set_option linter.unusedVariables false

set_option maxHeartbeats 4000000 in
set_option maxRecDepth 100000 in
theorem walk (w : World) (a0 : Int) (w0 : (Lit.int .i64 a0).wf = true) (a1 : Int) (w1 : (Lit.int .i64 a1).wf = true) (a2 : Int) (w2 : (Lit.int .i64 a2).wf = true) (b3 : Option Addr) (lenb3 capb3 : Nat) (m3 : List ByteArray) (em3 : m3.length = lenb3) (mm3 : lenb3 ≤ maxLen) (sm3 : ∀ k (h : k < m3.length), m3[k].size ≤ maxLen) (rm3 : RowV w b3 (cS m3)) (hT : TzTab w) :
    Calls Tryd.prog 3 #[.int .i64 a0, .int .i64 a1, .int .i64 a2, .slice b3 lenb3 capb3] w fun e w' => e = .returned (.bool true) ∧ Below w.heap.size w w' := by
  clear w0 w1 w2
  obtain ⟨nb2, fu2, vw2, vh2, L, c, his⟩ := fv_ex a0 a1 a2 m3
  have HIS := hide his
  have hL10 := fv_len his
  have nc : (c != c) = false := by simp
  obtain ⟨nL, hnL⟩ : ∃ nL, nL = L.length := ⟨_, rfl⟩
  have HNL : Hid (L.length = nL) := hnL.symm
  have hnL10 : nL ≤ 10 := by rw [hnL]; exact hL10
  obtain ⟨q, hq⟩ : ∃ q : Int, q = ((1 + nL * 2 : Nat) : Int) := ⟨_, rfl⟩
  have q1 : ¬ q < 0 := by omega
  have nq : (q != q) = false := by simp
  have HQ := hide hq
  have HN10 := hide hnL10
  have HTZ := hide hT
  clear his hq hnL hL10 hnL10 hT
  have HN3 := hide em3
  clear em3
  have HM3 := hide mm3
  clear mm3
  have HS3 := hide sm3
  clear sm3
  have HR3 := hide rm3
  clear rm3
  have B_1 := hide (Below.refl w.heap.size w)
  go_enter Tryd.func3, Tryd.ntmps3
  go_wp2_with fail
  refine (szStrN b3 capb3 lenb3 m3 HN3 1048576 (Nat.le_refl _) HM3 HS3 _ ((unhide HR3).below (unhide B_1))).mono ?_
  rintro e w1 ⟨x, rfl, hb1, hx⟩
  have B_2 := hide ((unhide B_1).trans (hb1.mono (unhide B_1).size))
  clear B_1
  clear hb1
  rcases hx with rfl | ⟨z3_, rfl, hz3, hl3, hs3⟩
  · go_wp2_with fail
    go_ret
    exact ⟨rfl, (unhide B_2)⟩
  have hzn3 : ¬ (z3_ : Int) < 0 := by omega
  have HSZ3 := hide hs3
  have HL3 := hide hl3
  have HY3 := hide hz3
  clear hs3 HM3 HS3 hl3 hz3
  obtain ⟨kx3, hkx3⟩ : ∃ kx : Nat, kx = 1 + lenb3 := ⟨_, rfl⟩
  have HK3 := hide hkx3
  clear hkx3
  have hk0 : ¬ (kx3 : Int) < 0 := by omega
  have zz : w.heap.size ≤ w1.heap.size := (unhide B_2).size
  go_wp2_with fail
  refine (copyStrN b3 capb3 lenb3 m3 HN3 (unhide HL3) _ ((unhide HR3).below (unhide B_2))).mono ?_
  rintro e w2 ⟨g2, rfl, o2, hb2⟩
  have z2 : w1.heap.size ≤ w2.heap.size := by have := hb2.size; (try simp at this); omega
  have B_3 := hide ((unhide B_2).trans (hb2.mono (unhide B_2).size))
  clear B_2
  clear hb2
  have S3_4 := hide (held_of o2)
  clear o2
  try simp only [World.size_alloc] at S3_4
  go_wp2_with fail
  refine (sfull11 a0 a1 a2 _ _ lenb3 m3 HN3 (unhide HL3) HSZ3 nb2 fu2 vw2 vh2 L c HIS _ (unhide S3_4).rowV).mono ?_
  rintro e w3 ⟨vW, rfl, hoW, hb3⟩
  have z3 : w2.heap.size ≤ w3.heap.size := by have := hb3.size; (try simp at this); omega
  have B_5 := hide ((unhide B_3).trans (hb3.mono (unhide B_3).size))
  clear B_3
  have S3_6 := hide ((unhide S3_4).below hb3 (unhide S3_4).le)
  clear S3_4
  clear hb3
  obtain ⟨aW, cW, rfl, -⟩ := ownZ_rowV hoW
  rw [unhide HNL] at hoW
  have W_7 := hide (heldZ_of hoW)
  clear hoW
  try simp only [World.size_alloc] at W_7
  rw [unhide HNL]
  have B_8 := hide ((unhide B_5).alloc (unhide B_5).size (.cells #[.int .i64 nb2, .int .i64 0, .bool fu2, .int .i64 vw2, .int .i64 vh2, .slice aW nL cW] 26))
  clear B_5
  have S3_9 := hide ((unhide S3_6).below (Go.Joins.below_alloc1 _ (.cells #[.int .i64 nb2, .int .i64 0, .bool fu2, .int .i64 vw2, .int .i64 vh2, .slice aW nL cW] 26)) (unhide S3_6).le)
  clear S3_6
  have W_10 := hide ((unhide W_7).below (Go.Joins.below_alloc1 _ (.cells #[.int .i64 nb2, .int .i64 0, .bool fu2, .int .i64 vw2, .int .i64 vh2, .slice aW nL cW] 26)) (unhide W_7).le)
  clear W_7
  have bW_11 := hide (BF.new w3 #[.int .i64 nb2, .int .i64 0, .bool fu2, .int .i64 vw2, .int .i64 vh2, .slice aW nL cW] 26)
  clear S3_9
  go_wp2_with fail
  refine (copyStrN b3 capb3 lenb3 m3 HN3 (unhide HL3) _ ((unhide HR3).below (unhide B_8))).mono ?_
  rintro e w4 ⟨g4, rfl, o4, hb4⟩
  have z4 : w3.heap.size + 1 ≤ w4.heap.size := by have := hb4.size; (try simp at this); omega
  have B_12 := hide ((unhide B_8).trans (hb4.mono (unhide B_8).size))
  clear B_8
  have W_13 := hide ((unhide W_10).below hb4 (unhide W_10).le)
  clear W_10
  have bW_14 := hide ((unhide bW_11).below hb4)
  clear bW_11
  clear hb4
  have X3_15 := hide (held_of o4)
  clear o4
  try simp only [World.size_alloc] at X3_15
  go_wp2_with fail
  refine (ifull11 a0 a1 a2 _ _ lenb3 m3 HN3 (unhide HL3) HSZ3 nb2 fu2 vw2 vh2 L c HIS _ (unhide X3_15).rowV ((unhide HTZ).below (unhide B_12) (unhide HTZ).pos)).mono ?_
  rintro e w5 ⟨vG, rfl, hoG, hb5⟩
  have z5 : w4.heap.size ≤ w5.heap.size := by have := hb5.size; (try simp at this); omega
  have B_16 := hide ((unhide B_12).trans (hb5.mono (unhide B_12).size))
  clear B_12
  have W_17 := hide ((unhide W_13).below hb5 (unhide W_13).le)
  clear W_13
  have bW_18 := hide ((unhide bW_14).below hb5)
  clear bW_14
  have X3_19 := hide ((unhide X3_15).below hb5 (unhide X3_15).le)
  clear X3_15
  clear hb5
  obtain ⟨aG, cG, rfl, -⟩ := ownZ_rowV hoG
  rw [unhide HNL] at hoG
  have G_20 := hide (heldZ_of hoG)
  clear hoG
  try simp only [World.size_alloc] at G_20
  rw [unhide HNL]
  have B_21 := hide ((unhide B_16).alloc (unhide B_16).size (.cells #[.int .i64 nb2, .int .i64 0, .bool fu2, .int .i64 vw2, .int .i64 vh2, .slice aG nL cG] 26))
  clear B_16
  have W_22 := hide ((unhide W_17).below (Go.Joins.below_alloc1 _ (.cells #[.int .i64 nb2, .int .i64 0, .bool fu2, .int .i64 vw2, .int .i64 vh2, .slice aG nL cG] 26)) (unhide W_17).le)
  clear W_17
  have bW_23 := hide ((unhide bW_18).alloc (.cells #[.int .i64 nb2, .int .i64 0, .bool fu2, .int .i64 vw2, .int .i64 vh2, .slice aG nL cG] 26))
  clear bW_18
  have X3_24 := hide ((unhide X3_19).below (Go.Joins.below_alloc1 _ (.cells #[.int .i64 nb2, .int .i64 0, .bool fu2, .int .i64 vw2, .int .i64 vh2, .slice aG nL cG] 26)) (unhide X3_19).le)
  clear X3_19
  have G_25 := hide ((unhide G_20).below (Go.Joins.below_alloc1 _ (.cells #[.int .i64 nb2, .int .i64 0, .bool fu2, .int .i64 vw2, .int .i64 vh2, .slice aG nL cG] 26)) (unhide G_20).le)
  clear G_20
  have bG_26 := hide (BF.new w5 #[.int .i64 nb2, .int .i64 0, .bool fu2, .int .i64 vw2, .int .i64 vh2, .slice aG nL cG] 26)
  have kbG := (unhide bG_26).S
  have kbW := (unhide bW_23).S
  go_wp2_with fail
  refine (eqVw nb2 0 vw2 vh2 fu2 aG aW cG cW nL L HNL (Nat.le_trans (unhide HN10) (by decide)) _ (unhide G_25).rowV (unhide W_22).rowV).mono ?_
  rintro e w6 ⟨rfl, hb6⟩
  clear kbG kbW
  have B_27 := hide ((unhide B_21).trans (hb6.mono (unhide B_21).size))
  clear B_21
  have W_28 := hide ((unhide W_22).below hb6 (unhide W_22).le)
  clear W_22
  have bW_29 := hide ((unhide bW_23).below hb6)
  clear bW_23
  have X3_30 := hide ((unhide X3_24).below hb6 (unhide X3_24).le)
  clear X3_24
  have G_31 := hide ((unhide G_25).below hb6 (unhide G_25).le)
  clear G_25
  have bG_32 := hide ((unhide bG_26).below hb6)
  clear bG_26
  clear hb6
  go_wp2_with fail
  refine (copyStrN b3 capb3 lenb3 m3 HN3 (unhide HL3) _ ((unhide HR3).below (unhide B_27))).mono ?_
  rintro e w7 ⟨g7, rfl, o7, hb7⟩
  have z7 : 0 ≤ w7.heap.size := by have := hb7.size; (try simp at this); omega
  have B_33 := hide ((unhide B_27).trans (hb7.mono (unhide B_27).size))
  clear B_27
  have W_34 := hide ((unhide W_28).below hb7 (unhide W_28).le)
  clear W_28
  have bW_35 := hide ((unhide bW_29).below hb7)
  clear bW_29
  have X3_36 := hide ((unhide X3_30).below hb7 (unhide X3_30).le)
  clear X3_30
  have G_37 := hide ((unhide G_31).below hb7 (unhide G_31).le)
  clear G_31
  have bG_38 := hide ((unhide bG_32).below hb7)
  clear bG_32
  clear hb7
  have T_39 := hide (held_of o7)
  clear o7
  try simp only [World.size_alloc] at T_39
  go_wp2_with fail
  refine (sameStrN _ _ _ _ lenb3 m3 HN3 (unhide HL3) _ (unhide X3_36).rowV (unhide T_39).rowV).mono ?_
  rintro e w8 ⟨rfl, hb8⟩
  have B_40 := hide ((unhide B_33).trans (hb8.mono (unhide B_33).size))
  clear B_33
  have W_41 := hide ((unhide W_34).below hb8 (unhide W_34).le)
  clear W_34
  have bW_42 := hide ((unhide bW_35).below hb8)
  clear bW_35
  have X3_43 := hide ((unhide X3_36).below hb8 (unhide X3_36).le)
  clear X3_36
  have G_44 := hide ((unhide G_37).below hb8 (unhide G_37).le)
  clear G_37
  have bG_45 := hide ((unhide bG_38).below hb8)
  clear bG_38
  have T_46 := hide ((unhide T_39).below hb8 (unhide T_39).le)
  clear T_39
  clear hb8
  clear T_46
  go_wp2_with fail
  refine (markStr1N _ lenb3 _ _ kx3 HK3 _ (by have := unhide HL3; omega) _ (unhide X3_43)).mono ?_
  rintro e w9 ⟨rfl, h9, hg9⟩
  have B_47 := hide (Below.marked (unhide B_40) (unhide B_40).size (unhide X3_43) (by omega) hg9)
  clear B_40
  have W_48 := hide ((unhide W_41).grown hg9 (fun k hk => by have := (unhide X3_43).blk k hk; omega))
  clear W_41
  have bW_49 := hide ((unhide bW_42).grown hg9 (fun hk => by have := (unhide X3_43).blk _ hk; omega))
  clear bW_42
  have G_50 := hide ((unhide G_44).grown hg9 (fun k hk => by have := (unhide X3_43).blk k hk; omega))
  clear G_44
  have bG_51 := hide ((unhide bG_45).grown hg9 (fun hk => by have := (unhide X3_43).blk _ hk; omega))
  clear bG_45
  have X3_m9 := hide h9
  clear h9 hg9 X3_43
  clear X3_m9
  have kbG := (unhide bG_51).S
  have kbW := (unhide bW_49).S
  go_wp2_with fail
  refine (eqVw nb2 0 vw2 vh2 fu2 aG aW cG cW nL L HNL (Nat.le_trans (unhide HN10) (by decide)) _ (unhide G_50).rowV (unhide W_48).rowV).mono ?_
  rintro e w10 ⟨rfl, hb10⟩
  clear kbG kbW
  have B_52 := hide ((unhide B_47).trans (hb10.mono (unhide B_47).size))
  clear B_47
  have W_53 := hide ((unhide W_48).below hb10 (unhide W_48).le)
  clear W_48
  have bW_54 := hide ((unhide bW_49).below hb10)
  clear bW_49
  have G_55 := hide ((unhide G_50).below hb10 (unhide G_50).le)
  clear G_50
  have bG_56 := hide ((unhide bG_51).below hb10)
  clear bG_51
  clear hb10
  have kbG := (unhide bG_56).S
  go_wp2_with fail
  refine (markVw nb2 0 vw2 vh2 fu2 _ nL _ _ _ 1 q HQ _ (by decide) (by have := unhide HN10; omega) _ (unhide G_55)).mono ?_
  rintro e w11 ⟨rfl, h11, hg11⟩
  clear kbG
  have B_57 := hide (Below.markedZ (unhide B_52) (unhide B_52).size (unhide G_55) (by omega) hg11)
  clear B_52
  have W_58 := hide ((unhide W_53).grown hg11 (fun k hk => by have := (unhide G_55).blk k hk; omega))
  clear W_53
  have bW_59 := hide ((unhide bW_54).grown hg11 (fun hk => by have := (unhide G_55).blk _ hk; omega))
  clear bW_54
  have bG_60 := hide ((unhide bG_56).grown hg11 (fun hk => by have := (unhide G_55).blk _ hk; omega))
  clear bG_56
  have G_m11 := hide h11
  clear h11 hg11 G_55
  have kbG := (unhide bG_60).S
  go_wp2_with fail
  refine (heldVw nb2 0 vw2 vh2 fu2 _ nL _ _ _ 1 q HQ (by decide) (by have := unhide HN10; omega) _ (unhide G_m11)).mono ?_
  rintro e w12 ⟨rfl, hb12⟩
  clear kbG
  have B_61 := hide ((unhide B_57).trans (hb12.mono (unhide B_57).size))
  clear B_57
  have W_62 := hide ((unhide W_58).below hb12 (unhide W_58).le)
  clear W_58
  have bW_63 := hide ((unhide bW_59).below hb12)
  clear bW_59
  have bG_64 := hide ((unhide bG_60).below hb12)
  clear bG_60
  have G_65 := hide ((unhide G_m11).below hb12 (unhide G_m11).le)
  clear G_m11
  clear hb12
  go_wp2_with fail
  refine (copyStrN b3 capb3 lenb3 m3 HN3 (unhide HL3) _ ((unhide HR3).below (unhide B_61))).mono ?_
  rintro e w13 ⟨g13, rfl, o13, hb13⟩
  have z13 : 0 ≤ w13.heap.size := by have := hb13.size; (try simp at this); omega
  have B_66 := hide ((unhide B_61).trans (hb13.mono (unhide B_61).size))
  clear B_61
  have W_67 := hide ((unhide W_62).below hb13 (unhide W_62).le)
  clear W_62
  have bW_68 := hide ((unhide bW_63).below hb13)
  clear bW_63
  have bG_69 := hide ((unhide bG_64).below hb13)
  clear bG_64
  have G_70 := hide ((unhide G_65).below hb13 (unhide G_65).le)
  clear G_65
  clear hb13
  have Y3_71 := hide (held_of o13)
  clear o13
  try simp only [World.size_alloc] at Y3_71
  go_wp2_with fail
  refine (ifull11 a0 a1 a2 _ _ lenb3 m3 HN3 (unhide HL3) HSZ3 nb2 fu2 vw2 vh2 L c HIS _ (unhide Y3_71).rowV ((unhide HTZ).below (unhide B_66) (unhide HTZ).pos)).mono ?_
  rintro e w14 ⟨vH, rfl, hoH, hb14⟩
  have B_72 := hide ((unhide B_66).trans (hb14.mono (unhide B_66).size))
  clear B_66
  have W_73 := hide ((unhide W_67).below hb14 (unhide W_67).le)
  clear W_67
  have bW_74 := hide ((unhide bW_68).below hb14)
  clear bW_68
  have bG_75 := hide ((unhide bG_69).below hb14)
  clear bG_69
  have G_76 := hide ((unhide G_70).below hb14 (unhide G_70).le)
  clear G_70
  have Y3_77 := hide ((unhide Y3_71).below hb14 (unhide Y3_71).le)
  clear Y3_71
  clear hb14
  obtain ⟨aH, cH, rfl, -⟩ := ownZ_rowV hoH
  rw [unhide HNL] at hoH
  have H_78 := hide (heldZ_of hoH)
  clear hoH
  try simp only [World.size_alloc] at H_78
  rw [unhide HNL]
  have B_79 := hide ((unhide B_72).alloc (unhide B_72).size (.cells #[.int .i64 nb2, .int .i64 0, .bool fu2, .int .i64 vw2, .int .i64 vh2, .slice aH nL cH] 26))
  clear B_72
  have W_80 := hide ((unhide W_73).below (Go.Joins.below_alloc1 _ (.cells #[.int .i64 nb2, .int .i64 0, .bool fu2, .int .i64 vw2, .int .i64 vh2, .slice aH nL cH] 26)) (unhide W_73).le)
  clear W_73
  have bW_81 := hide ((unhide bW_74).alloc (.cells #[.int .i64 nb2, .int .i64 0, .bool fu2, .int .i64 vw2, .int .i64 vh2, .slice aH nL cH] 26))
  clear bW_74
  have bG_82 := hide ((unhide bG_75).alloc (.cells #[.int .i64 nb2, .int .i64 0, .bool fu2, .int .i64 vw2, .int .i64 vh2, .slice aH nL cH] 26))
  clear bG_75
  have G_83 := hide ((unhide G_76).below (Go.Joins.below_alloc1 _ (.cells #[.int .i64 nb2, .int .i64 0, .bool fu2, .int .i64 vw2, .int .i64 vh2, .slice aH nL cH] 26)) (unhide G_76).le)
  clear G_76
  have Y3_84 := hide ((unhide Y3_77).below (Go.Joins.below_alloc1 _ (.cells #[.int .i64 nb2, .int .i64 0, .bool fu2, .int .i64 vw2, .int .i64 vh2, .slice aH nL cH] 26)) (unhide Y3_77).le)
  clear Y3_77
  have H_85 := hide ((unhide H_78).below (Go.Joins.below_alloc1 _ (.cells #[.int .i64 nb2, .int .i64 0, .bool fu2, .int .i64 vw2, .int .i64 vh2, .slice aH nL cH] 26)) (unhide H_78).le)
  clear H_78
  have bH_86 := hide (BF.new w14 #[.int .i64 nb2, .int .i64 0, .bool fu2, .int .i64 vw2, .int .i64 vh2, .slice aH nL cH] 26)
  have kbH := (unhide bH_86).S
  have kbW := (unhide bW_81).S
  go_wp2_with fail
  refine (eqVw nb2 0 vw2 vh2 fu2 aH aW cH cW nL L HNL (Nat.le_trans (unhide HN10) (by decide)) _ (unhide H_85).rowV (unhide W_80).rowV).mono ?_
  rintro e w15 ⟨rfl, hb15⟩
  clear kbH kbW
  have B_87 := hide ((unhide B_79).trans (hb15.mono (unhide B_79).size))
  clear B_79
  have W_88 := hide ((unhide W_80).below hb15 (unhide W_80).le)
  clear W_80
  have bW_89 := hide ((unhide bW_81).below hb15)
  clear bW_81
  have bG_90 := hide ((unhide bG_82).below hb15)
  clear bG_82
  have G_91 := hide ((unhide G_83).below hb15 (unhide G_83).le)
  clear G_83
  have Y3_92 := hide ((unhide Y3_84).below hb15 (unhide Y3_84).le)
  clear Y3_84
  have H_93 := hide ((unhide H_85).below hb15 (unhide H_85).le)
  clear H_85
  have bH_94 := hide ((unhide bH_86).below hb15)
  clear bH_86
  clear hb15
  have kbG := (unhide bG_90).S
  go_wp2_with fail
  refine (heldVw nb2 0 vw2 vh2 fu2 _ nL _ _ _ 1 q HQ (by decide) (by have := unhide HN10; omega) _ (unhide G_91)).mono ?_
  rintro e w16 ⟨rfl, hb16⟩
  clear kbG
  have B_95 := hide ((unhide B_87).trans (hb16.mono (unhide B_87).size))
  clear B_87
  have W_96 := hide ((unhide W_88).below hb16 (unhide W_88).le)
  clear W_88
  have bW_97 := hide ((unhide bW_89).below hb16)
  clear bW_89
  have bG_98 := hide ((unhide bG_90).below hb16)
  clear bG_90
  have G_99 := hide ((unhide G_91).below hb16 (unhide G_91).le)
  clear G_91
  have Y3_100 := hide ((unhide Y3_92).below hb16 (unhide Y3_92).le)
  clear Y3_92
  have H_101 := hide ((unhide H_93).below hb16 (unhide H_93).le)
  clear H_93
  have bH_102 := hide ((unhide bH_94).below hb16)
  clear bH_94
  clear hb16
  go_wp2_with fail
  go_ret
  exact ⟨rfl, (unhide B_95)⟩

theorem own : ownKnob Tryd.prog.godebug = none := by kernel_rfl
theorem laidOut : laidOutB Tryd.prog = true := by kernel_rfl
set_option maxRecDepth 100000 in
theorem lifted (os : Os) (started : os.Started) (H : Type) (enc : TypeId × Value → H) :
    ReturnsInHanded {} Tryd.checked os 3 .any (fun w args => (Rows.fnExactFullViewSpec.pre enc Tryd.prog Tryd.f3 [] false w args ∧ laidMetH Tryd.prog Rows.fnExactFullViewRow.laid w) ∧ sizedMet enc Tryd.prog Tryd.f3 (OpenSpec.ofChange Rows.fnExactFullViewSpec) false w args)
      (Rows.fnExactFullViewSpec.post enc Tryd.prog Tryd.f3 false true false false) := by
  refine returnsInHanded_of_change_and (C := Tryd.checked) (X := fun w _ => laidMetH Tryd.prog Rows.fnExactFullViewRow.laid w) (fun _ _ _ hh h => h.of_heap hh) own started (by kernel_rfl) Tryd.func3
    (ChangeSpec.witness_shaped (enc := enc) (C := Tryd.checked) (os := os) (X := fun w _ => laidMetH Tryd.prog Rows.fnExactFullViewRow.laid w) false (World.laidAll Tryd.prog os Rows.fnExactFullViewRow.laid) #[.int .i64 0, .int .i64 0, .int .i64 0, .slice none 0 0] 8 (World.laidAll_os _ _ _) (World.shaped_of_ZipB (by kernel_rfl) (by kernel_rfl)) (by kernel_rfl) (by kernel_rfl) (by kernel_rfl) (by rw [MakeChecks.laidMetH_plain _ _ _ (by kernel_rfl)]; exact laidMet_laidAll _ (by kernel_rfl) (by kernel_rfl))) ?_
  intro W base args ds gs before hval0 hW _ _ hL _
  have hval : ∀ (j : Nat) t v, Tryd.f3.params[j]? = some t → args[j]? = some v → Value.okWide Tryd.prog W .any base t v := hval0
  have hW' := hW
  obtain ⟨p, q, hA0, hV, rfl, hfz, hnd⟩ := hW
  have hA : DataW.TrodAll enc Tryd.prog W 0 (fun _ => true) true Tryd.f3.params.toList args.toList ds p := hA0
  rw [Tryd.params3] at hA hval
  obtain ⟨v0, vs0, d0, ds0, p0, q0, hargs, rfl, rfl, h0, r0⟩ := trodAll_cons hA
  obtain ⟨v1, vs1, d1, ds1, p1, q1, rfl, rfl, rfl, h1, r1⟩ := trodAll_cons r0
  obtain ⟨v2, vs2, d2, ds2, p2, q2, rfl, rfl, rfl, h2, r2⟩ := trodAll_cons r1
  obtain ⟨v3, vs3, d3, ds3, p3, q3, rfl, rfl, rfl, h3, r3⟩ := trodAll_cons r2
  obtain ⟨rfl, rfl, rfl⟩ := trodAll_nil r3
  obtain rfl : args = #[v0, v1, v2, v3] := by cases args; simp_all
  obtain ⟨rfl, rfl⟩ := trodVars_none hV
  have k0 := h0
  have lt0 : ∀ x ∈ p0, x.block < W.heap.size := by obtain ⟨m, hm⟩ := k0; exact DataW.trod_lt m _ _ _ hm
  have k1 := h1
  have lt1 : ∀ x ∈ p1, x.block < W.heap.size := by obtain ⟨m, hm⟩ := k1; exact DataW.trod_lt m _ _ _ hm
  have k2 := h2
  have lt2 : ∀ x ∈ p2, x.block < W.heap.size := by obtain ⟨m, hm⟩ := k2; exact DataW.trod_lt m _ _ _ hm
  have k3 := h3
  have lt3 : ∀ x ∈ p3, x.block < W.heap.size := by obtain ⟨m, hm⟩ := k3; exact DataW.trod_lt m _ _ _ hm
  obtain ⟨a0, rfl, rfl, rfl, w0⟩ := open_int Tryd.underlying3 (hval 0 3 v0 rfl rfl) h0
  obtain ⟨a1, rfl, rfl, rfl, w1⟩ := open_int Tryd.underlying3 (hval 1 3 v1 rfl rfl) h1
  obtain ⟨a2, rfl, rfl, rfl, w2⟩ := open_int Tryd.underlying3 (hval 2 3 v2 rfl rfl) h2
  obtain ⟨b3, lenb3, capb3, rfl⟩ := okWide_slice Tryd.underlying22 (hval 3 22 v3 rfl rfl)
  obtain ⟨m3, em3, mm3, sm3, rm3⟩ : ∃ m : List ByteArray, m.length = lenb3 ∧ lenb3 ≤ maxLen ∧ (∀ k (h : k < m.length), m[k].size ≤ maxLen) ∧ RowV W b3 (cS m) := by
    obtain ⟨fuel, hf⟩ := h3
    obtain ⟨a2, l2, c2, m, e, h1, h2, h3, h4⟩ := strs_fieldO Tryd.underlying22 Tryd.underlying9 (by kernel_rfl) (show DataW.trod _ _ _ _ _ _ fuel _ [_] = _ from hf)
    injection e with e1 e2 e3
    subst e1 e2 e3
    exact ⟨m, h1, h2, h3, h4⟩
  have hT := fv_laid hL
  clear hA0 hval0
  refine (walk W a0 w0 a1 w1 a2 w2 b3 lenb3 capb3 m3 em3 mm3 sm3 rm3 hT).mono fun e W' ⟨he, bel⟩ => ?_
  subst he
  exact ⟨_, rfl, _, _, _, [], _, [], hW', trodAll_mk1 (shut_bool Tryd.underlying4 _), (trodAll_cons_mk (Below.trod laidOut (by kernel_rfl) (of_decide_eq_true (by kernel_rfl)) k0 bel lt0) (trodAll_cons_mk (Below.trod laidOut (by kernel_rfl) (of_decide_eq_true (by kernel_rfl)) k1 bel lt1) (trodAll_cons_mk (Below.trod laidOut (by kernel_rfl) (of_decide_eq_true (by kernel_rfl)) k2 bel lt2) (trodAll_cons_mk (Below.trod laidOut (by kernel_rfl) (of_decide_eq_true (by kernel_rfl)) k3 bel lt3) trodAll_mk0)))), rfl, bel.frame _, fun h => by cases h⟩

theorem said : Rows.FnExactFullViewSaid :=
  OpenClaim.holds_of_wide 3 Tryd.f3 rfl rfl rfl rfl rfl rfl rfl ⟨rfl, rfl, rfl, rfl, rfl⟩ rfl rfl rfl rfl rfl (by kernel_rfl) Tryd.func3 (by kernel_rfl)
    (of_decide_eq_true (by kernel_rfl)) (by unfold Func.isWrapper; first | (rw [if_pos (by decide +kernel)]; kernel_rfl) | (rw [if_neg (by decide +kernel)]; exact ⟨rfl, rfl⟩))
    (fun os started H enc _ => lifted os started H enc)

theorem card : Rows.FnExactFullViewCardSaid :=
  Claim7.holds_tied_plain_at .later [] _ _ _ _ said (fun _ h => by cases h) (by kernel_rfl) (fun _ h => by cases h) fnExactFullView_row_tie rfl ⟨rfl, rfl⟩ (by kernel_rfl) rfl
    (fun f fn hf hfn => by
      obtain rfl : f = 3 := Option.some.inj ((show Tryd.prog.funcNamed Tryd.f3.name = some 3 by kernel_rfl).symm.trans hf) |>.symm
      obtain rfl : fn = Tryd.f3 := (Option.some.inj (Tryd.func3.symm.trans hfn)).symm
      exact ⟨by kernel_rfl, fun j t ht => by
        rw [Tryd.params3] at ht
        have hm : t ∈ [3, 3, 3, 22] := by simpa using Array.mem_of_getElem? ht
        have hall : ([3, 3, 3, 22].all fun u => !Tryd.prog.wantsStandIn u) = true := by kernel_rfl
        exact (show Tryd.prog.wantsStandIn t = false by simpa using List.all_eq_true.1 hall t hm)⟩)
    (by kernel_rfl)
#print axioms card
end Go.Proofs.YtiacdkkcjdbjfaaDoor
