/- At every argument that can be read, with the listed variables as the program text lays them, the law FnExactReadView returns true and leaves its arguments as they were: the tied card. -/
import Derived.Test.YtblhediekdeffaaDoorCards
import Derived.Test.YtblhediekdeffaaDoorTie
import Derived.Test.YtblhediekdeffaaDoorZG48
import Derived.WalkKit
import Derived.ProofKit
import Derived.OpenShut
import Derived.ShutString
import Derived.ChangeOld
import Derived.Below
import Derived.OpenVars
import Derived.LaidMore
import Derived.Lay
import Derived.Stop.Joined
namespace Go.Proofs.YtblhediekdeffaaDoor
open Go.ChangeShapes Go.WideShapes Go.ChangeAt Go.RowKit
open Go.ChangeMaps (open_string shut_string)
set_option linter.unusedVariables false

set_option maxHeartbeats 4000000 in
set_option maxRecDepth 100000 in
theorem walk (w : World) (a0 : Option Addr) (len0 cap0 : Nat) (l0 : List UInt8) (e0 : l0.length = len0) (w0 : Row8 w a0 l0) (hT : ErrsIn w) :
    Calls Tryd.prog 3 #[.slice a0 len0 cap0] w fun e w' => e = .returned (.bool true) ∧ Below w.heap.size w w' := by
  subst e0
  have hr := row8_V w0
  clear w0
  rename List UInt8 => l
  have HE := hide hT
  clear hT
  by_cases big : 1048576 < l.length
  · clear hr
    go_enter Tryd.func3, Tryd.ntmps3
    go_wp2_with fail
    go_ret
    exact ⟨rfl, Below.refl _ _⟩
  have hs : l.length ≤ 1048576 := by omega
  have HS := hide hs
  have HR := hide hr
  clear hr
  obtain ⟨nb, fr, fu, vw, vh, L, c, his⟩ := rv_ex l
  have hL := rv_len his
  have nc : (c != c) = false := by simp
  obtain ⟨nL, hnL⟩ : ∃ nL, L.length = nL := ⟨_, rfl⟩
  have HNL := hide hnL
  have HN10 : Hid (nL ≤ 10) := by show _ ≤ _; rw [← hnL]; exact hL.1
  obtain ⟨q, hq⟩ : ∃ q : Int, q = ((1 + nL * 2 : Nat) : Int) := ⟨_, rfl⟩
  have q1 : ¬ q < 0 := by omega
  have nq : (q != q) = false := by simp
  have HQ := hide hq
  obtain ⟨kx, hkx⟩ : ∃ kx : Int, kx = ((1 + l.length : Nat) : Int) := ⟨_, rfl⟩
  have HKX := hide hkx
  have hk0 : ¬ kx < 0 := by omega
  have TS := hide (fun a cap w1 hr => sreadview a cap l nb fr fu vw vh L c his w1 hr)
  have TI := hide (fun a w1 hr hE => ireadview a l.length l hs (Nat.le_refl _) nb fr fu vw vh L c his w1 hr hE)
  rw [hnL] at TS TI
  clear his hq hkx hnL hL
  have B_1 := hide (Below.refl w.heap.size w)
  go_enter Tryd.func3, Tryd.ntmps3
  go_wp2_with fail
  refine (copyByte a0 cap0 l (unhide HS) _ ((unhide HR).below (unhide B_1))).mono ?_
  rintro e w1 ⟨rfl, o1, hb1⟩
  have zz1 := hb1.size
  have B_2 := hide ((unhide B_1).trans (hb1.mono (unhide B_1).size))
  clear B_1
  clear hb1
  have S_3 := hide (held_of o1)
  clear o1
  try simp only [World.size_alloc] at S_3 zz1
  go_wp2_with fail
  refine (unhide TS _ _ _ (unhide S_3).rowV).mono ?_
  rintro e w2 ⟨vW, rfl, hoW, hb2⟩
  have z2 : w1.heap.size ≤ w2.heap.size := by have := hb2.size; (try simp at this); omega
  have B_4 := hide ((unhide B_2).trans (hb2.mono (unhide B_2).size))
  clear B_2
  have S_5 := hide ((unhide S_3).below hb2 (unhide S_3).le)
  clear S_3
  clear hb2
  clear S_5
  obtain ⟨aW, cW, rfl, -⟩ := ownZ_rowV hoW
  have W_6 := hide (heldZ_of hoW)
  clear hoW
  try simp only [World.size_alloc] at W_6
  have B_7 := hide ((unhide B_4).alloc (unhide B_4).size (.cells #[.int .i64 nb, .int .i64 fr, .bool fu, .int .i64 vw, .int .i64 vh, .slice aW nL cW] 25))
  clear B_4
  have W_8 := hide ((unhide W_6).below (Go.Joins.below_alloc1 _ (.cells #[.int .i64 nb, .int .i64 fr, .bool fu, .int .i64 vw, .int .i64 vh, .slice aW nL cW] 25)) (unhide W_6).le)
  clear W_6
  have bW_9 := hide (BF.new w2 #[.int .i64 nb, .int .i64 fr, .bool fu, .int .i64 vw, .int .i64 vh, .slice aW nL cW] 25)
  go_wp2_with fail
  refine (copyByte a0 cap0 l (unhide HS) _ ((unhide HR).below (unhide B_7))).mono ?_
  rintro e w3 ⟨rfl, o3, hb3⟩
  have zz3 := hb3.size
  have B_10 := hide ((unhide B_7).trans (hb3.mono (unhide B_7).size))
  clear B_7
  have W_11 := hide ((unhide W_8).below hb3 (unhide W_8).le)
  clear W_8
  have bW_12 := hide ((unhide bW_9).below hb3)
  clear bW_9
  clear hb3
  have X_13 := hide (held_of o3)
  clear o3
  try simp only [World.size_alloc] at X_13 zz3
  go_wp2_with fail
  refine (unhide TI _ _ (unhide X_13).rowV ((unhide HE).below (unhide B_10))).mono ?_
  rintro e w4 ⟨vG, rfl, hoG, hb4⟩
  have z4 : w3.heap.size ≤ w4.heap.size := by have := hb4.size; (try simp at this); omega
  have B_14 := hide ((unhide B_10).trans (hb4.mono (unhide B_10).size))
  clear B_10
  have W_15 := hide ((unhide W_11).below hb4 (unhide W_11).le)
  clear W_11
  have bW_16 := hide ((unhide bW_12).below hb4)
  clear bW_12
  have X_17 := hide ((unhide X_13).below hb4 (unhide X_13).le)
  clear X_13
  clear hb4
  obtain ⟨aG, cG, rfl, -⟩ := ownZ_rowV hoG
  have G_18 := hide (heldZ_of hoG)
  clear hoG
  try simp only [World.size_alloc] at G_18
  have B_19 := hide ((unhide B_14).alloc (unhide B_14).size (.cells #[.int .i64 nb, .int .i64 fr, .bool fu, .int .i64 vw, .int .i64 vh, .slice aG nL cG] 25))
  clear B_14
  have W_20 := hide ((unhide W_15).below (Go.Joins.below_alloc1 _ (.cells #[.int .i64 nb, .int .i64 fr, .bool fu, .int .i64 vw, .int .i64 vh, .slice aG nL cG] 25)) (unhide W_15).le)
  clear W_15
  have bW_21 := hide ((unhide bW_16).alloc (.cells #[.int .i64 nb, .int .i64 fr, .bool fu, .int .i64 vw, .int .i64 vh, .slice aG nL cG] 25))
  clear bW_16
  have X_22 := hide ((unhide X_17).below (Go.Joins.below_alloc1 _ (.cells #[.int .i64 nb, .int .i64 fr, .bool fu, .int .i64 vw, .int .i64 vh, .slice aG nL cG] 25)) (unhide X_17).le)
  clear X_17
  have G_23 := hide ((unhide G_18).below (Go.Joins.below_alloc1 _ (.cells #[.int .i64 nb, .int .i64 fr, .bool fu, .int .i64 vw, .int .i64 vh, .slice aG nL cG] 25)) (unhide G_18).le)
  clear G_18
  have bG_24 := hide (BF.new w4 #[.int .i64 nb, .int .i64 fr, .bool fu, .int .i64 vw, .int .i64 vh, .slice aG nL cG] 25)
  have kbG := (unhide bG_24).S
  have kbW := (unhide bW_21).S
  go_wp2_with fail
  refine (eqVw nb fr vw vh fu aG aW cG cW nL L HNL (Nat.le_trans (unhide HN10) (by decide)) _ (unhide G_23).rowV (unhide W_20).rowV).mono ?_
  rintro e w5 ⟨rfl, hb5⟩
  clear kbG kbW
  have B_25 := hide ((unhide B_19).trans (hb5.mono (unhide B_19).size))
  clear B_19
  have W_26 := hide ((unhide W_20).below hb5 (unhide W_20).le)
  clear W_20
  have bW_27 := hide ((unhide bW_21).below hb5)
  clear bW_21
  have X_28 := hide ((unhide X_22).below hb5 (unhide X_22).le)
  clear X_22
  have G_29 := hide ((unhide G_23).below hb5 (unhide G_23).le)
  clear G_23
  have bG_30 := hide ((unhide bG_24).below hb5)
  clear bG_24
  clear hb5
  go_wp2_with fail
  refine (copyByte a0 cap0 l (unhide HS) _ ((unhide HR).below (unhide B_25))).mono ?_
  rintro e w6 ⟨rfl, o6, hb6⟩
  have zz6 := hb6.size
  have B_31 := hide ((unhide B_25).trans (hb6.mono (unhide B_25).size))
  clear B_25
  have W_32 := hide ((unhide W_26).below hb6 (unhide W_26).le)
  clear W_26
  have bW_33 := hide ((unhide bW_27).below hb6)
  clear bW_27
  have X_34 := hide ((unhide X_28).below hb6 (unhide X_28).le)
  clear X_28
  have G_35 := hide ((unhide G_29).below hb6 (unhide G_29).le)
  clear G_29
  have bG_36 := hide ((unhide bG_30).below hb6)
  clear bG_30
  clear hb6
  have T_37 := hide (held_of o6)
  clear o6
  try simp only [World.size_alloc] at T_37 zz6
  go_wp2_with fail
  refine (sameByte _ _ _ _ l (unhide HS) _ (unhide X_34).rowV (unhide T_37).rowV).mono ?_
  rintro e w7 ⟨rfl, hb7⟩
  have B_38 := hide ((unhide B_31).trans (hb7.mono (unhide B_31).size))
  clear B_31
  have W_39 := hide ((unhide W_32).below hb7 (unhide W_32).le)
  clear W_32
  have bW_40 := hide ((unhide bW_33).below hb7)
  clear bW_33
  have X_41 := hide ((unhide X_34).below hb7 (unhide X_34).le)
  clear X_34
  have G_42 := hide ((unhide G_35).below hb7 (unhide G_35).le)
  clear G_35
  have bG_43 := hide ((unhide bG_36).below hb7)
  clear bG_36
  have T_44 := hide ((unhide T_37).below hb7 (unhide T_37).le)
  clear T_37
  clear hb7
  clear T_44
  go_wp2_with fail
  refine (markByte1 _ l.length _ _ kx _ (unhide HKX) (Nat.le_trans (unhide HS) (by decide)) _ (unhide X_41)).mono ?_
  rintro e w8 ⟨rfl, h8, hg8⟩
  have B_45 := hide (Below.marked (unhide B_38) (unhide B_38).size (unhide X_41) (by omega) hg8)
  clear B_38
  have W_46 := hide ((unhide W_39).grown hg8 (fun k hk => by have := (unhide X_41).blk k hk; omega))
  clear W_39
  have bW_47 := hide ((unhide bW_40).grown hg8 (fun hk => by have := (unhide X_41).blk _ hk; omega))
  clear bW_40
  have G_48 := hide ((unhide G_42).grown hg8 (fun k hk => by have := (unhide X_41).blk k hk; omega))
  clear G_42
  have bG_49 := hide ((unhide bG_43).grown hg8 (fun hk => by have := (unhide X_41).blk _ hk; omega))
  clear bG_43
  have X_m8 := hide h8
  clear h8 hg8 X_41
  clear X_m8
  have kbG := (unhide bG_49).S
  have kbW := (unhide bW_47).S
  go_wp2_with fail
  refine (eqVw nb fr vw vh fu aG aW cG cW nL L HNL (Nat.le_trans (unhide HN10) (by decide)) _ (unhide G_48).rowV (unhide W_46).rowV).mono ?_
  rintro e w9 ⟨rfl, hb9⟩
  clear kbG kbW
  have B_50 := hide ((unhide B_45).trans (hb9.mono (unhide B_45).size))
  clear B_45
  have W_51 := hide ((unhide W_46).below hb9 (unhide W_46).le)
  clear W_46
  have bW_52 := hide ((unhide bW_47).below hb9)
  clear bW_47
  have G_53 := hide ((unhide G_48).below hb9 (unhide G_48).le)
  clear G_48
  have bG_54 := hide ((unhide bG_49).below hb9)
  clear bG_49
  clear hb9
  have kbG := (unhide bG_54).S
  go_wp2_with fail
  refine (markVw nb fr vw vh fu _ nL _ _ _ 1 q HQ _ (by decide) (by have := unhide HN10; omega) _ (unhide G_53)).mono ?_
  rintro e w10 ⟨rfl, h10, hg10⟩
  clear kbG
  have B_55 := hide (Below.markedZ (unhide B_50) (unhide B_50).size (unhide G_53) (by omega) hg10)
  clear B_50
  have W_56 := hide ((unhide W_51).grown hg10 (fun k hk => by have := (unhide G_53).blk k hk; omega))
  clear W_51
  have bW_57 := hide ((unhide bW_52).grown hg10 (fun hk => by have := (unhide G_53).blk _ hk; omega))
  clear bW_52
  have bG_58 := hide ((unhide bG_54).grown hg10 (fun hk => by have := (unhide G_53).blk _ hk; omega))
  clear bG_54
  have G_m10 := hide h10
  clear h10 hg10 G_53
  have kbG := (unhide bG_58).S
  go_wp2_with fail
  refine (heldVw nb fr vw vh fu _ nL _ _ _ 1 q HQ (by decide) (by have := unhide HN10; omega) _ (unhide G_m10)).mono ?_
  rintro e w11 ⟨rfl, hb11⟩
  clear kbG
  have B_59 := hide ((unhide B_55).trans (hb11.mono (unhide B_55).size))
  clear B_55
  have W_60 := hide ((unhide W_56).below hb11 (unhide W_56).le)
  clear W_56
  have bW_61 := hide ((unhide bW_57).below hb11)
  clear bW_57
  have bG_62 := hide ((unhide bG_58).below hb11)
  clear bG_58
  have G_63 := hide ((unhide G_m10).below hb11 (unhide G_m10).le)
  clear G_m10
  clear hb11
  go_wp2_with fail
  refine (copyByte a0 cap0 l (unhide HS) _ ((unhide HR).below (unhide B_59))).mono ?_
  rintro e w12 ⟨rfl, o12, hb12⟩
  have zz12 := hb12.size
  have B_64 := hide ((unhide B_59).trans (hb12.mono (unhide B_59).size))
  clear B_59
  have W_65 := hide ((unhide W_60).below hb12 (unhide W_60).le)
  clear W_60
  have bW_66 := hide ((unhide bW_61).below hb12)
  clear bW_61
  have bG_67 := hide ((unhide bG_62).below hb12)
  clear bG_62
  have G_68 := hide ((unhide G_63).below hb12 (unhide G_63).le)
  clear G_63
  clear hb12
  have Y_69 := hide (held_of o12)
  clear o12
  try simp only [World.size_alloc] at Y_69 zz12
  go_wp2_with fail
  refine (unhide TI _ _ (unhide Y_69).rowV ((unhide HE).below (unhide B_64))).mono ?_
  rintro e w13 ⟨vH, rfl, hoH, hb13⟩
  have B_70 := hide ((unhide B_64).trans (hb13.mono (unhide B_64).size))
  clear B_64
  have W_71 := hide ((unhide W_65).below hb13 (unhide W_65).le)
  clear W_65
  have bW_72 := hide ((unhide bW_66).below hb13)
  clear bW_66
  have bG_73 := hide ((unhide bG_67).below hb13)
  clear bG_67
  have G_74 := hide ((unhide G_68).below hb13 (unhide G_68).le)
  clear G_68
  have Y_75 := hide ((unhide Y_69).below hb13 (unhide Y_69).le)
  clear Y_69
  clear hb13
  obtain ⟨aH, cH, rfl, -⟩ := ownZ_rowV hoH
  have H_76 := hide (heldZ_of hoH)
  clear hoH
  try simp only [World.size_alloc] at H_76
  have B_77 := hide ((unhide B_70).alloc (unhide B_70).size (.cells #[.int .i64 nb, .int .i64 fr, .bool fu, .int .i64 vw, .int .i64 vh, .slice aH nL cH] 25))
  clear B_70
  have W_78 := hide ((unhide W_71).below (Go.Joins.below_alloc1 _ (.cells #[.int .i64 nb, .int .i64 fr, .bool fu, .int .i64 vw, .int .i64 vh, .slice aH nL cH] 25)) (unhide W_71).le)
  clear W_71
  have bW_79 := hide ((unhide bW_72).alloc (.cells #[.int .i64 nb, .int .i64 fr, .bool fu, .int .i64 vw, .int .i64 vh, .slice aH nL cH] 25))
  clear bW_72
  have bG_80 := hide ((unhide bG_73).alloc (.cells #[.int .i64 nb, .int .i64 fr, .bool fu, .int .i64 vw, .int .i64 vh, .slice aH nL cH] 25))
  clear bG_73
  have G_81 := hide ((unhide G_74).below (Go.Joins.below_alloc1 _ (.cells #[.int .i64 nb, .int .i64 fr, .bool fu, .int .i64 vw, .int .i64 vh, .slice aH nL cH] 25)) (unhide G_74).le)
  clear G_74
  have Y_82 := hide ((unhide Y_75).below (Go.Joins.below_alloc1 _ (.cells #[.int .i64 nb, .int .i64 fr, .bool fu, .int .i64 vw, .int .i64 vh, .slice aH nL cH] 25)) (unhide Y_75).le)
  clear Y_75
  have H_83 := hide ((unhide H_76).below (Go.Joins.below_alloc1 _ (.cells #[.int .i64 nb, .int .i64 fr, .bool fu, .int .i64 vw, .int .i64 vh, .slice aH nL cH] 25)) (unhide H_76).le)
  clear H_76
  have bH_84 := hide (BF.new w13 #[.int .i64 nb, .int .i64 fr, .bool fu, .int .i64 vw, .int .i64 vh, .slice aH nL cH] 25)
  have kbH := (unhide bH_84).S
  have kbW := (unhide bW_79).S
  go_wp2_with fail
  refine (eqVw nb fr vw vh fu aH aW cH cW nL L HNL (Nat.le_trans (unhide HN10) (by decide)) _ (unhide H_83).rowV (unhide W_78).rowV).mono ?_
  rintro e w14 ⟨rfl, hb14⟩
  clear kbH kbW
  have B_85 := hide ((unhide B_77).trans (hb14.mono (unhide B_77).size))
  clear B_77
  have W_86 := hide ((unhide W_78).below hb14 (unhide W_78).le)
  clear W_78
  have bW_87 := hide ((unhide bW_79).below hb14)
  clear bW_79
  have bG_88 := hide ((unhide bG_80).below hb14)
  clear bG_80
  have G_89 := hide ((unhide G_81).below hb14 (unhide G_81).le)
  clear G_81
  have Y_90 := hide ((unhide Y_82).below hb14 (unhide Y_82).le)
  clear Y_82
  have H_91 := hide ((unhide H_83).below hb14 (unhide H_83).le)
  clear H_83
  have bH_92 := hide ((unhide bH_84).below hb14)
  clear bH_84
  clear hb14
  have kbG := (unhide bG_88).S
  go_wp2_with fail
  refine (heldVw nb fr vw vh fu _ nL _ _ _ 1 q HQ (by decide) (by have := unhide HN10; omega) _ (unhide G_89)).mono ?_
  rintro e w15 ⟨rfl, hb15⟩
  clear kbG
  have B_93 := hide ((unhide B_85).trans (hb15.mono (unhide B_85).size))
  clear B_85
  have W_94 := hide ((unhide W_86).below hb15 (unhide W_86).le)
  clear W_86
  have bW_95 := hide ((unhide bW_87).below hb15)
  clear bW_87
  have bG_96 := hide ((unhide bG_88).below hb15)
  clear bG_88
  have G_97 := hide ((unhide G_89).below hb15 (unhide G_89).le)
  clear G_89
  have Y_98 := hide ((unhide Y_90).below hb15 (unhide Y_90).le)
  clear Y_90
  have H_99 := hide ((unhide H_91).below hb15 (unhide H_91).le)
  clear H_91
  have bH_100 := hide ((unhide bH_92).below hb15)
  clear bH_92
  clear hb15
  go_wp2_with fail
  go_ret
  exact ⟨rfl, (unhide B_93)⟩

theorem own : ownKnob Tryd.prog.godebug = none := by kernel_rfl
theorem laidOut : laidOutB Tryd.prog = true := by kernel_rfl
theorem door_met (os : Os) (args : Array Value) : laidMetH Tryd.prog Rows.fnExactReadViewRow.laid ((World.doorLaid Tryd.prog 73 os).forCall (fun _ _ => 0) ⟨#[], args, []⟩).memory :=
  laidMetH_of_parts3 (fuel := 8) (laidMet_of_run' 8 (by kernel_rfl) (by kernel_rfl)) (by kernel_rfl) (by kernel_rfl)
set_option maxRecDepth 100000 in
theorem lifted (os : Os) (started : os.Started) (H : Type) (enc : TypeId × Value → H) :
    ReturnsInHanded {} Tryd.checked os 3 .any (fun w args => (Rows.fnExactReadViewSpec.pre enc Tryd.prog Tryd.f3 [] false w args ∧ laidMetH Tryd.prog Rows.fnExactReadViewRow.laid w) ∧ sizedMet enc Tryd.prog Tryd.f3 (OpenSpec.ofChange Rows.fnExactReadViewSpec) false w args)
      (Rows.fnExactReadViewSpec.post enc Tryd.prog Tryd.f3 false true false false) := by
  refine returnsInHanded_of_change_and (C := Tryd.checked) (X := fun w _ => laidMetH Tryd.prog Rows.fnExactReadViewRow.laid w) (fun _ _ _ hh h => h.of_heap hh) own started (by kernel_rfl) Tryd.func3
    (ChangeSpec.witness_shaped (enc := enc) (C := Tryd.checked) (os := os) (X := fun w _ => laidMetH Tryd.prog Rows.fnExactReadViewRow.laid w) false (World.doorLaid Tryd.prog 73 os) #[.slice none 0 0] 8 rfl (World.shaped_of_RefB (by kernel_rfl) (by kernel_rfl)) (by kernel_rfl) (by kernel_rfl) (by kernel_rfl) (door_met os _)) ?_
  intro W base args ds gs before hval0 hW _ _ hL _
  have hval : ∀ (j : Nat) t v, Tryd.f3.params[j]? = some t → args[j]? = some v → Value.okWide Tryd.prog W .any base t v := hval0
  have hW' := hW
  obtain ⟨p, q, hA0, hV, rfl, hfz, hnd⟩ := hW
  have hA : DataW.TrodAll enc Tryd.prog W 0 (fun _ => true) true Tryd.f3.params.toList args.toList ds p := hA0
  rw [Tryd.params3] at hA hval
  obtain ⟨v0, vs0, d0, ds0, p0, q0, hargs, rfl, rfl, h0, r0⟩ := trodAll_cons hA
  obtain ⟨rfl, rfl, rfl⟩ := trodAll_nil r0
  obtain rfl : args = #[v0] := by cases args; simp_all
  obtain ⟨g1, g2, g3, rfl⟩ : ∃ d1x d2x d3x, gs = [d1x, d2x, d3x] := vars_len3 hV
  have k0 := h0
  have lt0 : ∀ x ∈ p0, x.block < W.heap.size := by obtain ⟨m, hm⟩ := k0; exact DataW.trod_lt m _ _ _ hm
  obtain ⟨a0, len0, cap0, rfl⟩ := okWide_slice Tryd.underlying22 (hval 0 22 v0 rfl rfl)
  obtain ⟨l0, e0, w0⟩ : ∃ l : List UInt8, l.length = len0 ∧ Row8 W a0 l := by
    obtain ⟨fuel, hf⟩ := h0
    rcases open_ints Tryd.underlying22 Tryd.underlying5 (by kernel_rfl) hf with ⟨hcs, _⟩ | ⟨x, l, c, zs, hcs, _, hl, hm, hz, _, hcell, hwz⟩
    · simp [Value.cells] at hcs
      obtain ⟨rfl, rfl, rfl⟩ := hcs
      exact ⟨[], rfl, .inl rfl⟩
    · simp [Value.cells] at hcs
      obtain ⟨rfl, rfl, rfl⟩ := hcs
      exact row8_ints hl (by simpa using hz) hcell hwz
  have hT := errs_laidE hL
  clear hA0 hval0
  refine (walk W a0 len0 cap0 l0 e0 w0 hT).mono fun e W' ⟨he, bel⟩ => ?_
  subst he
  exact ⟨_, rfl, _, _, _, [], _, _, hW', trodAll_mk1 (shut_bool Tryd.underlying4 _), (trodAll_cons_mk (Below.trod laidOut (by kernel_rfl) (of_decide_eq_true (by kernel_rfl)) k0 bel lt0) trodAll_mk0), Below.trodVars laidOut bel (by kernel_rfl) hV, bel.frame _, fun h => by cases h⟩

theorem said : Rows.FnExactReadViewSaid :=
  OpenClaim.holds_of_wide 3 Tryd.f3 rfl rfl rfl rfl rfl rfl rfl ⟨rfl, rfl, rfl, rfl, rfl⟩ rfl rfl rfl rfl rfl (by kernel_rfl) Tryd.func3 (by kernel_rfl)
    (of_decide_eq_true (by kernel_rfl)) (by unfold Func.isWrapper; first | (rw [if_pos (by decide +kernel)]; kernel_rfl) | (rw [if_neg (by decide +kernel)]; exact ⟨rfl, rfl⟩))
    (fun os started H enc _ => lifted os started H enc)

theorem card : Rows.FnExactReadViewCardSaid :=
  Claim7.holds_tied_plain_at .later [] _ _ _ _ said (fun _ h => by cases h) (by kernel_rfl) (fun _ h => by cases h) fnExactReadView_row_tie rfl ⟨rfl, rfl⟩ (by kernel_rfl) rfl
    (fun f fn hf hfn => by
      obtain rfl : f = 3 := Option.some.inj ((show Tryd.prog.funcNamed Tryd.f3.name = some 3 by kernel_rfl).symm.trans hf) |>.symm
      obtain rfl : fn = Tryd.f3 := (Option.some.inj (Tryd.func3.symm.trans hfn)).symm
      exact ⟨by kernel_rfl, fun j t ht => by
        rw [Tryd.params3] at ht
        have hm : t ∈ [22] := by simpa using Array.mem_of_getElem? ht
        have hall : ([22].all fun u => !Tryd.prog.wantsStandIn u) = true := by kernel_rfl
        exact (show Tryd.prog.wantsStandIn t = false by simpa using List.all_eq_true.1 hall t hm)⟩)
    (by kernel_rfl)
#print axioms card
end Go.Proofs.YtblhediekdeffaaDoor
