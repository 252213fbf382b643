/- At every argument that can be read, the law FnExactNewNode returns true and leaves its arguments as they were: no condition. -/
import Derived.Test.YtkcjldhaeehbcaaNnAll
import Derived.WalkKit
import Derived.ProofKit
import Derived.OpenShut
import Derived.ShutString
import Derived.ChangeOld
import Derived.Below
import Derived.Deep.Strs
namespace Go.Proofs.Ytkcjldhaeehbcaa
open Go.ChangeShapes Go.WideShapes Go.ChangeAt Go.RowKit
set_option linter.unusedVariables false

theorem own : ownKnob Try.prog.godebug = none := by kernel_rfl
theorem laidOut : laidOutB Try.prog = true := by kernel_rfl
set_option maxHeartbeats 4000000 in
set_option maxRecDepth 100000 in
theorem walk (w : World) (x0 : Int) (y0 : (Lit.int .i64 x0).wf = true) (x1 : Int) (y1 : (Lit.int .i64 x1).wf = true) :
    Calls Try.prog 3 #[.int .i64 x0, .int .i64 x1] w fun e w' => e = .returned (.bool true) ∧ Below w.heap.size w w' := by
  obtain ⟨i0, i1, i3, i9, u, lx, lg, c, his, hlx, hlg⟩ := new_ex x0 x1
  have HIS := hide his
  obtain ⟨nx, hnx⟩ : ∃ nx, lx.length = nx := ⟨_, rfl⟩
  obtain ⟨ng, hng⟩ : ∃ ng, lg.length = ng := ⟨_, rfl⟩
  have HX := hide hnx
  have HG := hide hng
  have hbx : nx ≤ 5 := by omega
  have hbg : ng ≤ 5 := by omega
  have HBX := hide hbx
  have HBG := hide hbg
  obtain ⟨k1, k2, k3, kq, hkk⟩ : ∃ (k1 k2 k3 : Nat) (kq : Int), k1 = 1 + 0 * 2 ∧ k2 = k1 + 0 ∧ k3 = k2 + nx ∧ kq = ((k3 + ng : Nat) : Int) := ⟨_, _, _, _, rfl, rfl, rfl, rfl⟩
  have hk0 : ¬ kq < 0 := by omega
  have nk : (kq != kq) = false := by simp
  have nc : (c != c) = false := by simp
  have HKK := hide hkk
  have HN0 : Hid (([] : List (Int × ByteArray)).length = 0) := rfl
  have HNv : Hid (([] : List Int).length = 0) := rfl
  clear his hlx hlg hnx hng hbx hbg hkk
  have B_1 := hide (Below.refl w.heap.size w)
  go_enter Try.func3, Try.ntmps3
  go_wp2_with fail
  refine (snewnode x0 x1 i0 i1 i3 i9 u lx lg nx ng c HIS HX HG _).mono ?_
  rintro e w1 ⟨⟨aW, cW, avW, cvW, axW, cxW, agW, cgW, l0W, h0W, l1W, h1W, l2W, h2W, l3W, h3W, rfl, ⟨oW0, oW1, oW2, oW3⟩, apW⟩, hb1⟩
  have zzW := hb1.size
  have SZW := hide zzW
  clear zzW
  have B_2 := hide ((unhide B_1).trans (hb1.mono (unhide B_1).size))
  clear B_1
  clear hb1
  have WE_3 := hide (oW0)
  have WV_4 := hide (oW1)
  have WX_5 := hide (oW2)
  have WG_6 := hide (oW3)
  clear oW0 oW1 oW2 oW3
  have APW := hide apW
  clear apW
  try simp only [World.size_alloc] at SZW APW
  have B_7 := hide ((unhide B_2).alloc (unhide B_2).size (.cells #[.int .i64 i0, .int .i64 i1, .int .i64 0, .int .i64 i3, .int .i64 0, .bool u, .slice aW 0 cW, .int .i64 0, .int .i64 0, .int .i64 i9, .slice avW 0 cvW, .slice axW nx cxW, .slice agW ng cgW] 25))
  clear B_2
  have WE_8 := hide ((unhide WE_3).below (Go.Joins.below_alloc1 _ (.cells #[.int .i64 i0, .int .i64 i1, .int .i64 0, .int .i64 i3, .int .i64 0, .bool u, .slice aW 0 cW, .int .i64 0, .int .i64 0, .int .i64 i9, .slice avW 0 cvW, .slice axW nx cxW, .slice agW ng cgW] 25)) (unhide WE_3).le)
  clear WE_3
  have WV_9 := hide ((unhide WV_4).below (Go.Joins.below_alloc1 _ (.cells #[.int .i64 i0, .int .i64 i1, .int .i64 0, .int .i64 i3, .int .i64 0, .bool u, .slice aW 0 cW, .int .i64 0, .int .i64 0, .int .i64 i9, .slice avW 0 cvW, .slice axW nx cxW, .slice agW ng cgW] 25)) (unhide WV_4).le)
  clear WV_4
  have WX_10 := hide ((unhide WX_5).below (Go.Joins.below_alloc1 _ (.cells #[.int .i64 i0, .int .i64 i1, .int .i64 0, .int .i64 i3, .int .i64 0, .bool u, .slice aW 0 cW, .int .i64 0, .int .i64 0, .int .i64 i9, .slice avW 0 cvW, .slice axW nx cxW, .slice agW ng cgW] 25)) (unhide WX_5).le)
  clear WX_5
  have WG_11 := hide ((unhide WG_6).below (Go.Joins.below_alloc1 _ (.cells #[.int .i64 i0, .int .i64 i1, .int .i64 0, .int .i64 i3, .int .i64 0, .bool u, .slice aW 0 cW, .int .i64 0, .int .i64 0, .int .i64 i9, .slice avW 0 cvW, .slice axW nx cxW, .slice agW ng cgW] 25)) (unhide WG_6).le)
  clear WG_6
  have QW_12 := hide (BF.new w1 #[.int .i64 i0, .int .i64 i1, .int .i64 0, .int .i64 i3, .int .i64 0, .bool u, .slice aW 0 cW, .int .i64 0, .int .i64 0, .int .i64 i9, .slice avW 0 cvW, .slice axW nx cxW, .slice agW ng cgW] 25)
  go_wp2_with fail
  refine (inewnode x0 x1 i0 i1 i3 i9 u lx lg nx ng c HIS HX HG _).mono ?_
  rintro e w2 ⟨⟨aG, cG, avG, cvG, axG, cxG, agG, cgG, l0G, h0G, l1G, h1G, l2G, h2G, l3G, h3G, rfl, ⟨oG0, oG1, oG2, oG3⟩, apG⟩, hb2⟩
  have zzG := hb2.size
  have SZG := hide zzG
  clear zzG
  have B_13 := hide ((unhide B_7).trans (hb2.mono (unhide B_7).size))
  clear B_7
  have WE_14 := hide ((unhide WE_8).below hb2 (unhide WE_8).le)
  clear WE_8
  have WV_15 := hide ((unhide WV_9).below hb2 (unhide WV_9).le)
  clear WV_9
  have WX_16 := hide ((unhide WX_10).below hb2 (unhide WX_10).le)
  clear WX_10
  have WG_17 := hide ((unhide WG_11).below hb2 (unhide WG_11).le)
  clear WG_11
  have QW_18 := hide ((unhide QW_12).below hb2)
  clear QW_12
  clear hb2
  have GE_19 := hide (oG0)
  have GV_20 := hide (oG1)
  have GX_21 := hide (oG2)
  have GG_22 := hide (oG3)
  clear oG0 oG1 oG2 oG3
  have APG := hide apG
  clear apG
  try simp only [World.size_alloc] at SZG APG
  have B_23 := hide ((unhide B_13).alloc (unhide B_13).size (.cells #[.int .i64 i0, .int .i64 i1, .int .i64 0, .int .i64 i3, .int .i64 0, .bool u, .slice aG 0 cG, .int .i64 0, .int .i64 0, .int .i64 i9, .slice avG 0 cvG, .slice axG nx cxG, .slice agG ng cgG] 25))
  clear B_13
  have WE_24 := hide ((unhide WE_14).below (Go.Joins.below_alloc1 _ (.cells #[.int .i64 i0, .int .i64 i1, .int .i64 0, .int .i64 i3, .int .i64 0, .bool u, .slice aG 0 cG, .int .i64 0, .int .i64 0, .int .i64 i9, .slice avG 0 cvG, .slice axG nx cxG, .slice agG ng cgG] 25)) (unhide WE_14).le)
  clear WE_14
  have WV_25 := hide ((unhide WV_15).below (Go.Joins.below_alloc1 _ (.cells #[.int .i64 i0, .int .i64 i1, .int .i64 0, .int .i64 i3, .int .i64 0, .bool u, .slice aG 0 cG, .int .i64 0, .int .i64 0, .int .i64 i9, .slice avG 0 cvG, .slice axG nx cxG, .slice agG ng cgG] 25)) (unhide WV_15).le)
  clear WV_15
  have WX_26 := hide ((unhide WX_16).below (Go.Joins.below_alloc1 _ (.cells #[.int .i64 i0, .int .i64 i1, .int .i64 0, .int .i64 i3, .int .i64 0, .bool u, .slice aG 0 cG, .int .i64 0, .int .i64 0, .int .i64 i9, .slice avG 0 cvG, .slice axG nx cxG, .slice agG ng cgG] 25)) (unhide WX_16).le)
  clear WX_16
  have WG_27 := hide ((unhide WG_17).below (Go.Joins.below_alloc1 _ (.cells #[.int .i64 i0, .int .i64 i1, .int .i64 0, .int .i64 i3, .int .i64 0, .bool u, .slice aG 0 cG, .int .i64 0, .int .i64 0, .int .i64 i9, .slice avG 0 cvG, .slice axG nx cxG, .slice agG ng cgG] 25)) (unhide WG_17).le)
  clear WG_17
  have QW_28 := hide ((unhide QW_18).alloc (.cells #[.int .i64 i0, .int .i64 i1, .int .i64 0, .int .i64 i3, .int .i64 0, .bool u, .slice aG 0 cG, .int .i64 0, .int .i64 0, .int .i64 i9, .slice avG 0 cvG, .slice axG nx cxG, .slice agG ng cgG] 25))
  clear QW_18
  have GE_29 := hide ((unhide GE_19).below (Go.Joins.below_alloc1 _ (.cells #[.int .i64 i0, .int .i64 i1, .int .i64 0, .int .i64 i3, .int .i64 0, .bool u, .slice aG 0 cG, .int .i64 0, .int .i64 0, .int .i64 i9, .slice avG 0 cvG, .slice axG nx cxG, .slice agG ng cgG] 25)) (unhide GE_19).le)
  clear GE_19
  have GV_30 := hide ((unhide GV_20).below (Go.Joins.below_alloc1 _ (.cells #[.int .i64 i0, .int .i64 i1, .int .i64 0, .int .i64 i3, .int .i64 0, .bool u, .slice aG 0 cG, .int .i64 0, .int .i64 0, .int .i64 i9, .slice avG 0 cvG, .slice axG nx cxG, .slice agG ng cgG] 25)) (unhide GV_20).le)
  clear GV_20
  have GX_31 := hide ((unhide GX_21).below (Go.Joins.below_alloc1 _ (.cells #[.int .i64 i0, .int .i64 i1, .int .i64 0, .int .i64 i3, .int .i64 0, .bool u, .slice aG 0 cG, .int .i64 0, .int .i64 0, .int .i64 i9, .slice avG 0 cvG, .slice axG nx cxG, .slice agG ng cgG] 25)) (unhide GX_21).le)
  clear GX_21
  have GG_32 := hide ((unhide GG_22).below (Go.Joins.below_alloc1 _ (.cells #[.int .i64 i0, .int .i64 i1, .int .i64 0, .int .i64 i3, .int .i64 0, .bool u, .slice aG 0 cG, .int .i64 0, .int .i64 0, .int .i64 i9, .slice avG 0 cvG, .slice axG nx cxG, .slice agG ng cgG] 25)) (unhide GG_22).le)
  clear GG_22
  have QG_33 := hide (BF.new w2 #[.int .i64 i0, .int .i64 i1, .int .i64 0, .int .i64 i3, .int .i64 0, .bool u, .slice aG 0 cG, .int .i64 0, .int .i64 0, .int .i64 i9, .slice avG 0 cvG, .slice axG nx cxG, .slice agG ng cgG] 25)
  have kQG := (unhide QG_33).S
  have kQW := (unhide QW_28).S
  go_wp2_with fail
  refine (eqNd i0 i1 0 i3 0 0 0 i9 u _ _ _ _ 0 [] HN0 _ _ _ _ 0 [] HNv _ _ _ _ nx lx HX _ _ _ _ ng lg HG (by decide) (by decide) (by have := unhide HBX; omega) (by have := unhide HBG; omega) _ (unhide GE_29).rowV (unhide GV_30).rowV (unhide GX_31).rowV (unhide GG_32).rowV (unhide WE_24).rowV (unhide WV_25).rowV (unhide WX_26).rowV (unhide WG_27).rowV).mono ?_
  rintro e w3 ⟨rfl, hb3⟩
  clear kQG kQW
  have B_34 := hide ((unhide B_23).trans (hb3.mono (unhide B_23).size))
  clear B_23
  have WE_35 := hide ((unhide WE_24).below hb3 (unhide WE_24).le)
  clear WE_24
  have WV_36 := hide ((unhide WV_25).below hb3 (unhide WV_25).le)
  clear WV_25
  have WX_37 := hide ((unhide WX_26).below hb3 (unhide WX_26).le)
  clear WX_26
  have WG_38 := hide ((unhide WG_27).below hb3 (unhide WG_27).le)
  clear WG_27
  have QW_39 := hide ((unhide QW_28).below hb3)
  clear QW_28
  have GE_40 := hide ((unhide GE_29).below hb3 (unhide GE_29).le)
  clear GE_29
  have GV_41 := hide ((unhide GV_30).below hb3 (unhide GV_30).le)
  clear GV_30
  have GX_42 := hide ((unhide GX_31).below hb3 (unhide GX_31).le)
  clear GX_31
  have GG_43 := hide ((unhide GG_32).below hb3 (unhide GG_32).le)
  clear GG_32
  have QG_44 := hide ((unhide QG_33).below hb3)
  clear QG_33
  clear hb3
  have kQG := (unhide QG_44).S
  go_wp2_with fail
  refine (markNq i0 i1 0 i3 0 0 0 i9 u aG cG 0 avG cvG 0 axG cxG nx agG cgG ng (w1.heap.size + 1) w2.heap.size l0G h0G l1G h1G l2G h2G l3G h3G (unhide APG) 1 k1 k2 k3 kq HKK (hide (by decide)) (hide (by have := unhide HBX; have := unhide HBG; omega)) _ _ _ _ _ (by have := (unhide QG_44).lt; omega) ⟨(unhide GE_40), (unhide GV_41), (unhide GX_42), (unhide GG_43)⟩).mono ?_
  rintro e w4 ⟨rfl, m0, m1, m2, m3, ho4⟩
  clear kQG
  have B_45 := hide (Below.outs (unhide B_34) (unhide B_34).size ho4 (by have := unhide SZW; have := unhide SZG; have := unhide APW; have := unhide APG; unfold Apart at *; omega))
  clear B_34
  have WE_46 := hide ((unhide WE_35).outs ho4 (by have := unhide SZW; have := unhide SZG; have := unhide APW; have := unhide APG; unfold Apart at *; omega))
  clear WE_35
  have WV_47 := hide ((unhide WV_36).outs ho4 (by have := unhide SZW; have := unhide SZG; have := unhide APW; have := unhide APG; unfold Apart at *; omega))
  clear WV_36
  have WX_48 := hide ((unhide WX_37).outs ho4 (by have := unhide SZW; have := unhide SZG; have := unhide APW; have := unhide APG; unfold Apart at *; omega))
  clear WX_37
  have WG_49 := hide ((unhide WG_38).outs ho4 (by have := unhide SZW; have := unhide SZG; have := unhide APW; have := unhide APG; unfold Apart at *; omega))
  clear WG_38
  have QW_50 := hide ((unhide QW_39).outs ho4 (by have := unhide SZW; have := unhide SZG; have := unhide APW; have := unhide APG; unfold Apart at *; omega))
  clear QW_39
  have QG_51 := hide ((unhide QG_44).outs ho4 (by have := unhide SZW; have := unhide SZG; have := unhide APW; have := unhide APG; unfold Apart at *; omega))
  clear QG_44
  have GE_52 := hide (m0)
  have GV_53 := hide (m1)
  have GX_54 := hide (m2)
  have GG_55 := hide (m3)
  clear m0 m1 m2 m3 ho4
  have kQG := (unhide QG_51).S
  go_wp2_with fail
  refine (heldNq i0 i1 0 i3 0 0 0 i9 u aG cG 0 avG cvG 0 axG cxG nx agG cgG ng (w1.heap.size + 1) w2.heap.size l0G h0G l1G h1G l2G h2G l3G h3G (unhide APG) 1 k1 k2 k3 kq HKK (hide (by decide)) (hide (by have := unhide HBX; have := unhide HBG; omega)) _ (by have := (unhide QG_51).lt; omega) ⟨(unhide GE_52), (unhide GV_53), (unhide GX_54), (unhide GG_55)⟩).mono ?_
  rintro e w5 ⟨rfl, hb5⟩
  clear kQG
  have B_56 := hide ((unhide B_45).trans (hb5.mono (unhide B_45).size))
  clear B_45
  have WE_57 := hide ((unhide WE_46).below hb5 (unhide WE_46).le)
  clear WE_46
  have WV_58 := hide ((unhide WV_47).below hb5 (unhide WV_47).le)
  clear WV_47
  have WX_59 := hide ((unhide WX_48).below hb5 (unhide WX_48).le)
  clear WX_48
  have WG_60 := hide ((unhide WG_49).below hb5 (unhide WG_49).le)
  clear WG_49
  have QW_61 := hide ((unhide QW_50).below hb5)
  clear QW_50
  have QG_62 := hide ((unhide QG_51).below hb5)
  clear QG_51
  have GE_63 := hide ((unhide GE_52).below hb5 (unhide GE_52).le)
  clear GE_52
  have GV_64 := hide ((unhide GV_53).below hb5 (unhide GV_53).le)
  clear GV_53
  have GX_65 := hide ((unhide GX_54).below hb5 (unhide GX_54).le)
  clear GX_54
  have GG_66 := hide ((unhide GG_55).below hb5 (unhide GG_55).le)
  clear GG_55
  clear hb5
  go_wp2_with fail
  refine (inewnode x0 x1 i0 i1 i3 i9 u lx lg nx ng c HIS HX HG _).mono ?_
  rintro e w6 ⟨⟨aH, cH, avH, cvH, axH, cxH, agH, cgH, l0H, h0H, l1H, h1H, l2H, h2H, l3H, h3H, rfl, ⟨oH0, oH1, oH2, oH3⟩, apH⟩, hb6⟩
  have zzH := hb6.size
  have SZH := hide zzH
  clear zzH
  have B_67 := hide ((unhide B_56).trans (hb6.mono (unhide B_56).size))
  clear B_56
  have WE_68 := hide ((unhide WE_57).below hb6 (unhide WE_57).le)
  clear WE_57
  have WV_69 := hide ((unhide WV_58).below hb6 (unhide WV_58).le)
  clear WV_58
  have WX_70 := hide ((unhide WX_59).below hb6 (unhide WX_59).le)
  clear WX_59
  have WG_71 := hide ((unhide WG_60).below hb6 (unhide WG_60).le)
  clear WG_60
  have QW_72 := hide ((unhide QW_61).below hb6)
  clear QW_61
  have QG_73 := hide ((unhide QG_62).below hb6)
  clear QG_62
  have GE_74 := hide ((unhide GE_63).below hb6 (unhide GE_63).le)
  clear GE_63
  have GV_75 := hide ((unhide GV_64).below hb6 (unhide GV_64).le)
  clear GV_64
  have GX_76 := hide ((unhide GX_65).below hb6 (unhide GX_65).le)
  clear GX_65
  have GG_77 := hide ((unhide GG_66).below hb6 (unhide GG_66).le)
  clear GG_66
  clear hb6
  have HE_78 := hide (oH0)
  have HV_79 := hide (oH1)
  have HX_80 := hide (oH2)
  have HG_81 := hide (oH3)
  clear oH0 oH1 oH2 oH3
  have APH := hide apH
  clear apH
  try simp only [World.size_alloc] at SZH APH
  have B_82 := hide ((unhide B_67).alloc (unhide B_67).size (.cells #[.int .i64 i0, .int .i64 i1, .int .i64 0, .int .i64 i3, .int .i64 0, .bool u, .slice aH 0 cH, .int .i64 0, .int .i64 0, .int .i64 i9, .slice avH 0 cvH, .slice axH nx cxH, .slice agH ng cgH] 25))
  clear B_67
  have WE_83 := hide ((unhide WE_68).below (Go.Joins.below_alloc1 _ (.cells #[.int .i64 i0, .int .i64 i1, .int .i64 0, .int .i64 i3, .int .i64 0, .bool u, .slice aH 0 cH, .int .i64 0, .int .i64 0, .int .i64 i9, .slice avH 0 cvH, .slice axH nx cxH, .slice agH ng cgH] 25)) (unhide WE_68).le)
  clear WE_68
  have WV_84 := hide ((unhide WV_69).below (Go.Joins.below_alloc1 _ (.cells #[.int .i64 i0, .int .i64 i1, .int .i64 0, .int .i64 i3, .int .i64 0, .bool u, .slice aH 0 cH, .int .i64 0, .int .i64 0, .int .i64 i9, .slice avH 0 cvH, .slice axH nx cxH, .slice agH ng cgH] 25)) (unhide WV_69).le)
  clear WV_69
  have WX_85 := hide ((unhide WX_70).below (Go.Joins.below_alloc1 _ (.cells #[.int .i64 i0, .int .i64 i1, .int .i64 0, .int .i64 i3, .int .i64 0, .bool u, .slice aH 0 cH, .int .i64 0, .int .i64 0, .int .i64 i9, .slice avH 0 cvH, .slice axH nx cxH, .slice agH ng cgH] 25)) (unhide WX_70).le)
  clear WX_70
  have WG_86 := hide ((unhide WG_71).below (Go.Joins.below_alloc1 _ (.cells #[.int .i64 i0, .int .i64 i1, .int .i64 0, .int .i64 i3, .int .i64 0, .bool u, .slice aH 0 cH, .int .i64 0, .int .i64 0, .int .i64 i9, .slice avH 0 cvH, .slice axH nx cxH, .slice agH ng cgH] 25)) (unhide WG_71).le)
  clear WG_71
  have QW_87 := hide ((unhide QW_72).alloc (.cells #[.int .i64 i0, .int .i64 i1, .int .i64 0, .int .i64 i3, .int .i64 0, .bool u, .slice aH 0 cH, .int .i64 0, .int .i64 0, .int .i64 i9, .slice avH 0 cvH, .slice axH nx cxH, .slice agH ng cgH] 25))
  clear QW_72
  have QG_88 := hide ((unhide QG_73).alloc (.cells #[.int .i64 i0, .int .i64 i1, .int .i64 0, .int .i64 i3, .int .i64 0, .bool u, .slice aH 0 cH, .int .i64 0, .int .i64 0, .int .i64 i9, .slice avH 0 cvH, .slice axH nx cxH, .slice agH ng cgH] 25))
  clear QG_73
  have GE_89 := hide ((unhide GE_74).below (Go.Joins.below_alloc1 _ (.cells #[.int .i64 i0, .int .i64 i1, .int .i64 0, .int .i64 i3, .int .i64 0, .bool u, .slice aH 0 cH, .int .i64 0, .int .i64 0, .int .i64 i9, .slice avH 0 cvH, .slice axH nx cxH, .slice agH ng cgH] 25)) (unhide GE_74).le)
  clear GE_74
  have GV_90 := hide ((unhide GV_75).below (Go.Joins.below_alloc1 _ (.cells #[.int .i64 i0, .int .i64 i1, .int .i64 0, .int .i64 i3, .int .i64 0, .bool u, .slice aH 0 cH, .int .i64 0, .int .i64 0, .int .i64 i9, .slice avH 0 cvH, .slice axH nx cxH, .slice agH ng cgH] 25)) (unhide GV_75).le)
  clear GV_75
  have GX_91 := hide ((unhide GX_76).below (Go.Joins.below_alloc1 _ (.cells #[.int .i64 i0, .int .i64 i1, .int .i64 0, .int .i64 i3, .int .i64 0, .bool u, .slice aH 0 cH, .int .i64 0, .int .i64 0, .int .i64 i9, .slice avH 0 cvH, .slice axH nx cxH, .slice agH ng cgH] 25)) (unhide GX_76).le)
  clear GX_76
  have GG_92 := hide ((unhide GG_77).below (Go.Joins.below_alloc1 _ (.cells #[.int .i64 i0, .int .i64 i1, .int .i64 0, .int .i64 i3, .int .i64 0, .bool u, .slice aH 0 cH, .int .i64 0, .int .i64 0, .int .i64 i9, .slice avH 0 cvH, .slice axH nx cxH, .slice agH ng cgH] 25)) (unhide GG_77).le)
  clear GG_77
  have HE_93 := hide ((unhide HE_78).below (Go.Joins.below_alloc1 _ (.cells #[.int .i64 i0, .int .i64 i1, .int .i64 0, .int .i64 i3, .int .i64 0, .bool u, .slice aH 0 cH, .int .i64 0, .int .i64 0, .int .i64 i9, .slice avH 0 cvH, .slice axH nx cxH, .slice agH ng cgH] 25)) (unhide HE_78).le)
  clear HE_78
  have HV_94 := hide ((unhide HV_79).below (Go.Joins.below_alloc1 _ (.cells #[.int .i64 i0, .int .i64 i1, .int .i64 0, .int .i64 i3, .int .i64 0, .bool u, .slice aH 0 cH, .int .i64 0, .int .i64 0, .int .i64 i9, .slice avH 0 cvH, .slice axH nx cxH, .slice agH ng cgH] 25)) (unhide HV_79).le)
  clear HV_79
  have HX_95 := hide ((unhide HX_80).below (Go.Joins.below_alloc1 _ (.cells #[.int .i64 i0, .int .i64 i1, .int .i64 0, .int .i64 i3, .int .i64 0, .bool u, .slice aH 0 cH, .int .i64 0, .int .i64 0, .int .i64 i9, .slice avH 0 cvH, .slice axH nx cxH, .slice agH ng cgH] 25)) (unhide HX_80).le)
  clear HX_80
  have HG_96 := hide ((unhide HG_81).below (Go.Joins.below_alloc1 _ (.cells #[.int .i64 i0, .int .i64 i1, .int .i64 0, .int .i64 i3, .int .i64 0, .bool u, .slice aH 0 cH, .int .i64 0, .int .i64 0, .int .i64 i9, .slice avH 0 cvH, .slice axH nx cxH, .slice agH ng cgH] 25)) (unhide HG_81).le)
  clear HG_81
  have QH_97 := hide (BF.new w6 #[.int .i64 i0, .int .i64 i1, .int .i64 0, .int .i64 i3, .int .i64 0, .bool u, .slice aH 0 cH, .int .i64 0, .int .i64 0, .int .i64 i9, .slice avH 0 cvH, .slice axH nx cxH, .slice agH ng cgH] 25)
  have kQH := (unhide QH_97).S
  have kQW := (unhide QW_87).S
  go_wp2_with fail
  refine (eqNd i0 i1 0 i3 0 0 0 i9 u _ _ _ _ 0 [] HN0 _ _ _ _ 0 [] HNv _ _ _ _ nx lx HX _ _ _ _ ng lg HG (by decide) (by decide) (by have := unhide HBX; omega) (by have := unhide HBG; omega) _ (unhide HE_93).rowV (unhide HV_94).rowV (unhide HX_95).rowV (unhide HG_96).rowV (unhide WE_83).rowV (unhide WV_84).rowV (unhide WX_85).rowV (unhide WG_86).rowV).mono ?_
  rintro e w7 ⟨rfl, hb7⟩
  clear kQH kQW
  have B_98 := hide ((unhide B_82).trans (hb7.mono (unhide B_82).size))
  clear B_82
  have WE_99 := hide ((unhide WE_83).below hb7 (unhide WE_83).le)
  clear WE_83
  have WV_100 := hide ((unhide WV_84).below hb7 (unhide WV_84).le)
  clear WV_84
  have WX_101 := hide ((unhide WX_85).below hb7 (unhide WX_85).le)
  clear WX_85
  have WG_102 := hide ((unhide WG_86).below hb7 (unhide WG_86).le)
  clear WG_86
  have QW_103 := hide ((unhide QW_87).below hb7)
  clear QW_87
  have QG_104 := hide ((unhide QG_88).below hb7)
  clear QG_88
  have GE_105 := hide ((unhide GE_89).below hb7 (unhide GE_89).le)
  clear GE_89
  have GV_106 := hide ((unhide GV_90).below hb7 (unhide GV_90).le)
  clear GV_90
  have GX_107 := hide ((unhide GX_91).below hb7 (unhide GX_91).le)
  clear GX_91
  have GG_108 := hide ((unhide GG_92).below hb7 (unhide GG_92).le)
  clear GG_92
  have HE_109 := hide ((unhide HE_93).below hb7 (unhide HE_93).le)
  clear HE_93
  have HV_110 := hide ((unhide HV_94).below hb7 (unhide HV_94).le)
  clear HV_94
  have HX_111 := hide ((unhide HX_95).below hb7 (unhide HX_95).le)
  clear HX_95
  have HG_112 := hide ((unhide HG_96).below hb7 (unhide HG_96).le)
  clear HG_96
  have QH_113 := hide ((unhide QH_97).below hb7)
  clear QH_97
  clear hb7
  have kQG := (unhide QG_104).S
  go_wp2_with fail
  refine (heldNq i0 i1 0 i3 0 0 0 i9 u aG cG 0 avG cvG 0 axG cxG nx agG cgG ng (w1.heap.size + 1) w2.heap.size l0G h0G l1G h1G l2G h2G l3G h3G (unhide APG) 1 k1 k2 k3 kq HKK (hide (by decide)) (hide (by have := unhide HBX; have := unhide HBG; omega)) _ (by have := (unhide QG_104).lt; omega) ⟨(unhide GE_105), (unhide GV_106), (unhide GX_107), (unhide GG_108)⟩).mono ?_
  rintro e w8 ⟨rfl, hb8⟩
  clear kQG
  have B_114 := hide ((unhide B_98).trans (hb8.mono (unhide B_98).size))
  clear B_98
  have WE_115 := hide ((unhide WE_99).below hb8 (unhide WE_99).le)
  clear WE_99
  have WV_116 := hide ((unhide WV_100).below hb8 (unhide WV_100).le)
  clear WV_100
  have WX_117 := hide ((unhide WX_101).below hb8 (unhide WX_101).le)
  clear WX_101
  have WG_118 := hide ((unhide WG_102).below hb8 (unhide WG_102).le)
  clear WG_102
  have QW_119 := hide ((unhide QW_103).below hb8)
  clear QW_103
  have QG_120 := hide ((unhide QG_104).below hb8)
  clear QG_104
  have GE_121 := hide ((unhide GE_105).below hb8 (unhide GE_105).le)
  clear GE_105
  have GV_122 := hide ((unhide GV_106).below hb8 (unhide GV_106).le)
  clear GV_106
  have GX_123 := hide ((unhide GX_107).below hb8 (unhide GX_107).le)
  clear GX_107
  have GG_124 := hide ((unhide GG_108).below hb8 (unhide GG_108).le)
  clear GG_108
  have HE_125 := hide ((unhide HE_109).below hb8 (unhide HE_109).le)
  clear HE_109
  have HV_126 := hide ((unhide HV_110).below hb8 (unhide HV_110).le)
  clear HV_110
  have HX_127 := hide ((unhide HX_111).below hb8 (unhide HX_111).le)
  clear HX_111
  have HG_128 := hide ((unhide HG_112).below hb8 (unhide HG_112).le)
  clear HG_112
  have QH_129 := hide ((unhide QH_113).below hb8)
  clear QH_113
  clear hb8
  go_wp2_with fail
  go_ret
  exact ⟨rfl, (unhide B_114)⟩

set_option maxRecDepth 100000 in
theorem lifted (os : Os) (started : os.Started) (H : Type) (enc : TypeId × Value → H) :
    ReturnsInHanded {} Try.checked os 3 .any (Rows.fnExactNewNodeSpec.pre6 enc Try.prog Try.f3 Rows.fnExactNewNodeRow.domain false) (Rows.fnExactNewNodeSpec.post enc Try.prog Try.f3 false true false false) := by
  refine returnsInHanded_of_change (C := Try.checked) own started (by kernel_rfl) Try.func3
    (ChangeSpec.witness6 (enc := enc) (C := Try.checked) false ⟨#[], #[.int .i64 0, .int .i64 0], []⟩ 8 (by kernel_rfl) (by kernel_rfl) (by kernel_rfl) (by kernel_rfl)) ?_
  intro W base args ds gs before hval0 hW hcnd _
  have hval : ∀ (j : Nat) t v, Try.f3.params[j]? = some t → args[j]? = some v → Value.okWide Try.prog W .any base t v := hval0
  have hW' := hW
  obtain ⟨p, q, hA0, hV, rfl, hfz, hnd⟩ := hW
  have hA : DataW.TrodAll enc Try.prog W 0 (fun _ => true) true Try.f3.params.toList args.toList ds p := hA0
  rw [Try.params3] at hA hval
  obtain ⟨v0, vs0, d_0, ds0, p0, q0, hargs, rfl, rfl, h0, r0⟩ := trodAll_cons hA
  obtain ⟨v1, vs1, d_1, ds1, p1, q1, rfl, rfl, rfl, h1, r1⟩ := trodAll_cons r0
  obtain ⟨rfl, rfl, rfl⟩ := trodAll_nil r1
  obtain rfl : args = #[v0, v1] := by cases args; simp_all
  obtain ⟨rfl, rfl⟩ := trodVars_none hV
  have k0 := h0
  have lt0 : ∀ x ∈ p0, x.block < W.heap.size := by obtain ⟨m, hm⟩ := k0; exact DataW.trod_lt m _ _ _ hm
  have k1 := h1
  have lt1 : ∀ x ∈ p1, x.block < W.heap.size := by obtain ⟨m, hm⟩ := k1; exact DataW.trod_lt m _ _ _ hm
  obtain ⟨x0, rfl, rfl, rfl, y0⟩ := open_int Try.underlying3 (hval 0 3 v0 rfl rfl) h0
  obtain ⟨x1, rfl, rfl, rfl, y1⟩ := open_int Try.underlying3 (hval 1 3 v1 rfl rfl) h1
  clear hA0 hval0
  refine (walk W x0 y0 x1 y1).mono fun e W' ⟨he, bel⟩ => ?_
  subst he
  exact ⟨_, rfl, _, _, _, [], _, [], hW', trodAll_mk1 (shut_bool Try.underlying4 _), (trodAll_cons_mk (Below.trod laidOut (by kernel_rfl) (of_decide_eq_true (by kernel_rfl)) k0 bel lt0) (trodAll_cons_mk (Below.trod laidOut (by kernel_rfl) (of_decide_eq_true (by kernel_rfl)) k1 bel lt1) trodAll_mk0)), rfl, bel.frame _, fun h => by cases h⟩

theorem over : Rows.fnExactNewNodeRow.holds Try.pinned (OpenSpec.ofChange Rows.fnExactNewNodeSpec) :=
  OpenClaim.holds_of_wide 3 Try.f3 rfl rfl rfl rfl rfl rfl rfl ⟨rfl, rfl, rfl, rfl, rfl⟩ rfl rfl rfl rfl rfl (by kernel_rfl) Try.func3 (by kernel_rfl)
    (of_decide_eq_true (by kernel_rfl)) (by unfold Func.isWrapper; first | (rw [if_pos (by decide +kernel)]; kernel_rfl) | (rw [if_neg (by decide +kernel)]; exact ⟨rfl, rfl⟩))
    (fun os started H enc _ => lifted os started H enc)

theorem proved : Rows.FnExactNewNodeSaid := over
#print axioms proved
end Go.Proofs.Ytkcjldhaeehbcaa
