/- At every argument that can be read, the law FnExactViewBytes returns true and leaves its arguments as they were: no condition. -/
import Derived.Test.YtpbnjncbbllpdaaZG46
import Derived.Test.YtpbnjncbbllpdaaZAgg6
import Derived.Test.YtpbnjncbbllpdaaZEntO
import Derived.WalkKit
import Derived.ProofKit
import Derived.OpenShut
import Derived.ShutString
import Derived.ChangeOld
import Derived.Below
import Derived.Deep.Strs
import Derived.ChangeMaps5
namespace Go.Proofs.Ytpbnjncbbllpdaa
open Go.ChangeShapes Go.WideShapes Go.ChangeAt Go.RowKit
open Go.ChangeMaps (open_string shut_string)
set_option linter.unusedVariables false

theorem own : ownKnob Try.prog.godebug = none := by kernel_rfl
theorem laidOut : laidOutB Try.prog = true := by kernel_rfl
set_option maxHeartbeats 4000000 in
set_option maxRecDepth 100000 in
theorem walk (w : World) (nb fr vw vh : Int) (fu : Bool) (a : Option Addr) (n cap : Nat) (l : List (Int × ByteArray)) (ql : l.length = n) (ml : n ≤ maxLen) (sl : ∀ k (h : k < l.length), l[k].2.size ≤ maxLen) (rl : RowV w a (cE l)) :
    Calls Try.prog 3 #[.agg #[.int .i64 nb, .int .i64 fr, .bool fu, .int .i64 vw, .int .i64 vh, .slice a n cap]] w fun e w' => e = .returned (.bool true) ∧ Below w.heap.size w w' := by
  obtain ⟨Q, r, c, his⟩ := vb_ex nb fr fu vw vh l
  have HIS := hide his
  have hrl := vb_len his
  have HRL := hide hrl
  have nc : (c != c) = false := by simp
  obtain ⟨q, hq⟩ : ∃ q : Int, q = ((1 + r.length : Nat) : Int) := ⟨_, rfl⟩
  have q1 : ¬ q < 0 := by omega
  have nq : (q != q) = false := by simp
  have HQ := hide hq
  obtain ⟨kx, hkx⟩ : ∃ kx : Nat, (kx : Int) = ((1 + n * 2 : Nat) : Int) := ⟨_, rfl⟩
  have HKX := hide hkx
  have hk0 : ¬ (kx : Int) < 0 := by omega
  clear his hq hkx hrl
  have HN := hide ql
  clear ql
  have HM := hide ml
  clear ml
  have HR := hide rl
  clear rl
  have HS := hide sl
  clear sl
  have B_1 := hide (Go.Joins.below_alloc1 w (.cells #[.int .i64 nb, .int .i64 fr, .bool fu, .int .i64 vw, .int .i64 vh, .slice a n cap] 24))
  have A_2 := hide (BF.new w #[.int .i64 nb, .int .i64 fr, .bool fu, .int .i64 vw, .int .i64 vh, .slice a n cap] 24)
  go_enter Try.func3, Try.ntmps3
  have kA := (unhide A_2).S
  go_wp2_with fail
  refine (szVw nb fr vw vh fu a cap n l HN 1048576 (Nat.le_refl _) HM HS _ ((unhide HR).below (unhide B_1))).mono ?_
  rintro e w1 ⟨x, rfl, hb1, hx⟩
  clear kA
  have B_3 := hide ((unhide B_1).trans (hb1.mono (unhide B_1).size))
  clear B_1
  have A_4 := hide ((unhide A_2).below hb1)
  clear A_2
  clear hb1
  rcases hx with rfl | ⟨z, rfl, hz, hl, hs⟩
  · go_wp2_with fail
    go_ret
    exact ⟨rfl, (unhide B_3)⟩
  have hzn : ¬ (z : Int) < 0 := by omega
  have HSZ := hide hs
  have HL := hide hl
  have HY := hide hz
  clear hs HM HS hl hz
  have HN2 : Hid (1 + n * 2 ≤ 3000000) := by show _ ≤ _; have := unhide HL; omega
  have kA := (unhide A_4).S
  go_wp2_with fail
  refine (toVw nb fr vw vh fu a cap n l HN (unhide HL) _ ((unhide HR).below (unhide B_3))).mono ?_
  rintro e w2 ⟨g2, rfl, o2, hb2⟩
  clear kA
  have B_5 := hide ((unhide B_3).trans (hb2.mono (unhide B_3).size))
  clear B_3
  have A_6 := hide ((unhide A_4).below hb2)
  clear A_4
  clear hb2
  have S_7 := hide (heldZ_of o2)
  clear o2
  try simp only [World.size_alloc] at S_7
  have z2 : w.heap.size < w2.heap.size := (unhide A_6).lt
  go_wp2_with fail
  refine (svb nb fr fu vw vh _ _ n l HN (unhide HL) HSZ Q r c HIS _ (unhide S_7).rowV).mono ?_
  rintro e w3 ⟨aW, cW, rfl, hoW, hb3⟩
  have z3 : w2.heap.size ≤ w3.heap.size := by have := hb3.size; (try simp at this); omega
  have B_8 := hide ((unhide B_5).trans (hb3.mono (unhide B_5).size))
  clear B_5
  have A_9 := hide ((unhide A_6).below hb3)
  clear A_6
  have S_10 := hide ((unhide S_7).below hb3 (unhide S_7).le)
  clear S_7
  clear hb3
  clear S_10
  obtain ⟨hiW, hhiW⟩ : ∃ h, h = w3.heap.size := ⟨_, rfl⟩
  rw [← hhiW] at hoW
  have W_11 := hide (hoW)
  have zW : hiW ≤ w3.heap.size := by omega
  clear hoW hhiW
  have kA := (unhide A_9).S
  go_wp2_with fail
  refine (toVw nb fr vw vh fu a cap n l HN (unhide HL) _ ((unhide HR).below (unhide B_8))).mono ?_
  rintro e w4 ⟨g4, rfl, o4, hb4⟩
  clear kA
  have z4 : w3.heap.size ≤ w4.heap.size := by have := hb4.size; (try simp at this); omega
  have B_12 := hide ((unhide B_8).trans (hb4.mono (unhide B_8).size))
  clear B_8
  have A_13 := hide ((unhide A_9).below hb4)
  clear A_9
  have W_14 := hide ((unhide W_11).below hb4)
  clear W_11
  clear hb4
  have XR_15 := hide (heldZ_of o4)
  clear o4
  try simp only [World.size_alloc] at XR_15
  have B_16 := hide ((unhide B_12).alloc (unhide B_12).size (.cells #[.int .i64 nb, .int .i64 fr, .bool fu, .int .i64 vw, .int .i64 vh, .slice (some ⟨g4, 0, none⟩) n n] 31))
  clear B_12
  have A_17 := hide ((unhide A_13).alloc (.cells #[.int .i64 nb, .int .i64 fr, .bool fu, .int .i64 vw, .int .i64 vh, .slice (some ⟨g4, 0, none⟩) n n] 31))
  clear A_13
  have W_18 := hide ((unhide W_14).below (Go.Joins.below_alloc1 _ (.cells #[.int .i64 nb, .int .i64 fr, .bool fu, .int .i64 vw, .int .i64 vh, .slice (some ⟨g4, 0, none⟩) n n] 31)))
  clear W_14
  have XR_19 := hide ((unhide XR_15).below (Go.Joins.below_alloc1 _ (.cells #[.int .i64 nb, .int .i64 fr, .bool fu, .int .i64 vw, .int .i64 vh, .slice (some ⟨g4, 0, none⟩) n n] 31)) (unhide XR_15).le)
  clear XR_15
  have X_20 := hide (BF.new w4 #[.int .i64 nb, .int .i64 fr, .bool fu, .int .i64 vw, .int .i64 vh, .slice (some ⟨g4, 0, none⟩) n n] 31)
  have kX := (unhide X_20).S
  go_wp2_with fail
  refine (ivb nb fr fu vw vh _ _ n l HN (unhide HL) HSZ Q r c HIS _ (unhide XR_19).rowV).mono ?_
  rintro e w5 ⟨vG, rfl, hoG, hb5⟩
  clear kX
  have z5 : w4.heap.size + 1 ≤ w5.heap.size := by have := hb5.size; (try simp at this); omega
  have B_21 := hide ((unhide B_16).trans (hb5.mono (unhide B_16).size))
  clear B_16
  have A_22 := hide ((unhide A_17).below hb5)
  clear A_17
  have W_23 := hide ((unhide W_18).below hb5)
  clear W_18
  have XR_24 := hide ((unhide XR_19).below hb5 (unhide XR_19).le)
  clear XR_19
  have X_25 := hide ((unhide X_20).below hb5)
  clear X_20
  clear hb5
  obtain ⟨aG, cG, rfl, -⟩ := own_rowV hoG
  have G_26 := hide (held_of hoG)
  clear hoG
  try simp only [World.size_alloc] at G_26
  go_wp2_with fail
  refine (sameByte aG aW cG cW r (unhide HRL) _ (unhide G_26).rowV (unhide W_23).row).mono ?_
  rintro e w6 ⟨rfl, hb6⟩
  have B_27 := hide ((unhide B_21).trans (hb6.mono (unhide B_21).size))
  clear B_21
  have A_28 := hide ((unhide A_22).below hb6)
  clear A_22
  have W_29 := hide ((unhide W_23).below hb6)
  clear W_23
  have XR_30 := hide ((unhide XR_24).below hb6 (unhide XR_24).le)
  clear XR_24
  have X_31 := hide ((unhide X_25).below hb6)
  clear X_25
  have G_32 := hide ((unhide G_26).below hb6 (unhide G_26).le)
  clear G_26
  clear hb6
  have K6 := And.intro (unhide A_28).S (unhide X_31).S
  have HU6 := hide (unhide XR_30).rowV
  have LA : w.heap.size < _ := (unhide A_28).lt
  have LX : w4.heap.size < _ := (unhide X_31).lt
  go_wp2_with fail
  go_region_held3 (fun w' => (∀ o, w'.cell? ⟨w.heap.size, o, none⟩ = (#[.int .i64 nb, .int .i64 fr, .bool fu, .int .i64 vw, .int .i64 vh, .slice a n cap] : Array Value)[o]?) ∧ (∀ o, w'.cell? ⟨w4.heap.size, o, none⟩ = (#[.int .i64 nb, .int .i64 fr, .bool fu, .int .i64 vw, .int .i64 vh, .slice (some ⟨g4, 0, none⟩) n n] : Array Value)[o]?)) (first | exact K6 | exact K7 | exact K8) (first | (go_at_call 6; refine (toVw nb fr vw vh fu a cap n l HN (unhide HL) _ ((unhide HR).below (unhide B_27).drew)).mono ?_; rintro e w7 ⟨g7, rfl, o7, hb7⟩; have K7 := And.intro (fun o => (hb7.cell (p := ⟨w.heap.size, o, none⟩) LA).trans (K6.1 o)) (fun o => (hb7.cell (p := ⟨w4.heap.size, o, none⟩) LX).trans (K6.2 o)); have HO7 := hide (rowZ_at o7); have HU7 := hide ((unhide HU6).below (below_undrew hb7)); have HT7 := hide (below_undrew hb7); have LA7 := Nat.lt_of_lt_of_le LA (unhide HT7).size; have LX7 := Nat.lt_of_lt_of_le LX (unhide HT7).size; clear o7 hb7) | (go_at_call 9; refine (eqVw nb fr vw vh fu _ _ _ _ n l HN (unhide HL) _ (unhide HU7) (unhide HO7)).mono ?_; rintro e w8 ⟨rfl, hb8⟩; have K8 := And.intro (fun o => (hb8.cell (p := ⟨w.heap.size, o, none⟩) LA7).trans (K7.1 o)) (fun o => (hb8.cell (p := ⟨w4.heap.size, o, none⟩) LX7).trans (K7.2 o)); have HT8 := hide ((unhide HT7).trans (hb8.mono (unhide HT7).size)); clear hb8))
  clear K6 K7 K8 HO7 HU6 HU7 HT7 LA LX LA7 LX7
  have B_33 := hide ((unhide B_27).trans ((unhide HT8).mono (unhide B_27).size))
  clear B_27
  have A_34 := hide ((unhide A_28).below (unhide HT8))
  clear A_28
  have W_35 := hide ((unhide W_29).below (unhide HT8))
  clear W_29
  have XR_36 := hide ((unhide XR_30).below (unhide HT8) (unhide XR_30).le)
  clear XR_30
  have X_37 := hide ((unhide X_31).below (unhide HT8))
  clear X_31
  have G_38 := hide ((unhide G_32).below (unhide HT8) (unhide G_32).le)
  clear G_32
  clear HT8
  have kX := (unhide X_37).S
  go_wp2_with fail
  refine (markVw nb fr vw vh fu _ n _ _ _ 1 (kx : Int) HKX _ (by decide) (unhide HN2) _ (unhide XR_36)).mono ?_
  rintro e w9 ⟨rfl, h9, hg9⟩
  clear kX
  have B_39 := hide (Below.markedZ (unhide B_33) (unhide B_33).size (unhide XR_36) (by omega) hg9)
  clear B_33
  have A_40 := hide ((unhide A_34).grown hg9 (fun hk => by have := (unhide XR_36).blk _ hk; omega))
  clear A_34
  have W_41 := hide ((unhide W_35).grown hg9 (fun k hk => by have := (unhide XR_36).blk k hk; omega))
  clear W_35
  have X_42 := hide ((unhide X_37).grown hg9 (fun hk => by have := (unhide XR_36).blk _ hk; omega))
  clear X_37
  have G_43 := hide ((unhide G_38).grown hg9 (fun k hk => by have := (unhide XR_36).blk k hk; omega))
  clear G_38
  have XR_m9 := hide h9
  clear h9 hg9 XR_36
  clear XR_m9
  clear X_42
  go_wp2_with fail
  refine (sameByte aG aW cG cW r (unhide HRL) _ (unhide G_43).rowV (unhide W_41).row).mono ?_
  rintro e w10 ⟨rfl, hb10⟩
  have B_44 := hide ((unhide B_39).trans (hb10.mono (unhide B_39).size))
  clear B_39
  have A_45 := hide ((unhide A_40).below hb10)
  clear A_40
  have W_46 := hide ((unhide W_41).below hb10)
  clear W_41
  have G_47 := hide ((unhide G_43).below hb10 (unhide G_43).le)
  clear G_43
  clear hb10
  go_wp2_with fail
  refine (markByte1 _ r.length _ _ q _ (unhide HQ) (Nat.le_trans (unhide HRL) (by decide)) _ (unhide G_47)).mono ?_
  rintro e w11 ⟨rfl, h11, hg11⟩
  have B_48 := hide (Below.marked (unhide B_44) (unhide B_44).size (unhide G_47) (by omega) hg11)
  clear B_44
  have A_49 := hide ((unhide A_45).grown hg11 (fun hk => by have := (unhide G_47).blk _ hk; omega))
  clear A_45
  have W_50 := hide ((unhide W_46).grown hg11 (fun k hk => by have := (unhide G_47).blk k hk; omega))
  clear W_46
  have G_m11 := hide h11
  clear h11 hg11 G_47
  go_wp2_with fail
  refine (heldByte1 _ r.length _ _ q (unhide HQ) (Nat.le_trans (unhide HRL) (by decide)) _ (unhide G_m11)).mono ?_
  rintro e w12 ⟨rfl, hb12⟩
  have B_51 := hide ((unhide B_48).trans (hb12.mono (unhide B_48).size))
  clear B_48
  have A_52 := hide ((unhide A_49).below hb12)
  clear A_49
  have W_53 := hide ((unhide W_50).below hb12)
  clear W_50
  have G_54 := hide ((unhide G_m11).below hb12 (unhide G_m11).le)
  clear G_m11
  clear hb12
  have kA := (unhide A_52).S
  go_wp2_with fail
  refine (toVw nb fr vw vh fu a cap n l HN (unhide HL) _ ((unhide HR).below (unhide B_51))).mono ?_
  rintro e w13 ⟨g13, rfl, o13, hb13⟩
  clear kA
  have B_55 := hide ((unhide B_51).trans (hb13.mono (unhide B_51).size))
  clear B_51
  have A_56 := hide ((unhide A_52).below hb13)
  clear A_52
  have W_57 := hide ((unhide W_53).below hb13)
  clear W_53
  have G_58 := hide ((unhide G_54).below hb13 (unhide G_54).le)
  clear G_54
  clear hb13
  have YR_59 := hide (heldZ_of o13)
  clear o13
  try simp only [World.size_alloc] at YR_59
  go_wp2_with fail
  refine (ivb nb fr fu vw vh _ _ n l HN (unhide HL) HSZ Q r c HIS _ (unhide YR_59).rowV).mono ?_
  rintro e w14 ⟨vH, rfl, hoH, hb14⟩
  have B_60 := hide ((unhide B_55).trans (hb14.mono (unhide B_55).size))
  clear B_55
  have A_61 := hide ((unhide A_56).below hb14)
  clear A_56
  have W_62 := hide ((unhide W_57).below hb14)
  clear W_57
  have G_63 := hide ((unhide G_58).below hb14 (unhide G_58).le)
  clear G_58
  have YR_64 := hide ((unhide YR_59).below hb14 (unhide YR_59).le)
  clear YR_59
  clear hb14
  obtain ⟨aH, cH, rfl, -⟩ := own_rowV hoH
  have H_65 := hide (held_of hoH)
  clear hoH
  go_wp2_with fail
  refine (sameByte aH aW cH cW r (unhide HRL) _ (unhide H_65).rowV (unhide W_62).row).mono ?_
  rintro e w15 ⟨rfl, hb15⟩
  have B_66 := hide ((unhide B_60).trans (hb15.mono (unhide B_60).size))
  clear B_60
  have A_67 := hide ((unhide A_61).below hb15)
  clear A_61
  have W_68 := hide ((unhide W_62).below hb15)
  clear W_62
  have G_69 := hide ((unhide G_63).below hb15 (unhide G_63).le)
  clear G_63
  have YR_70 := hide ((unhide YR_64).below hb15 (unhide YR_64).le)
  clear YR_64
  have H_71 := hide ((unhide H_65).below hb15 (unhide H_65).le)
  clear H_65
  clear hb15
  go_wp2_with fail
  refine (heldByte1 _ r.length _ _ q (unhide HQ) (Nat.le_trans (unhide HRL) (by decide)) _ (unhide G_69)).mono ?_
  rintro e w16 ⟨rfl, hb16⟩
  have B_72 := hide ((unhide B_66).trans (hb16.mono (unhide B_66).size))
  clear B_66
  have A_73 := hide ((unhide A_67).below hb16)
  clear A_67
  have W_74 := hide ((unhide W_68).below hb16)
  clear W_68
  have G_75 := hide ((unhide G_69).below hb16 (unhide G_69).le)
  clear G_69
  have YR_76 := hide ((unhide YR_70).below hb16 (unhide YR_70).le)
  clear YR_70
  have H_77 := hide ((unhide H_71).below hb16 (unhide H_71).le)
  clear H_71
  clear hb16
  go_wp2_with fail
  go_ret
  exact ⟨rfl, (unhide B_72)⟩

set_option maxRecDepth 100000 in
theorem lifted (os : Os) (started : os.Started) (H : Type) (enc : TypeId × Value → H) :
    ReturnsInHanded {} Try.checked os 3 .any (Rows.fnExactViewBytesSpec.pre6 enc Try.prog Try.f3 Rows.fnExactViewBytesRow.domain false) (Rows.fnExactViewBytesSpec.post enc Try.prog Try.f3 false true false false) := by
  refine returnsInHanded_of_change (C := Try.checked) own started (by kernel_rfl) Try.func3
    (ChangeSpec.witness6 (enc := enc) (C := Try.checked) false ⟨#[], #[.agg #[.int .i64 0, .int .i64 0, .bool false, .int .i64 0, .int .i64 0, .slice none 0 0]], []⟩ 8 (by kernel_rfl) (by kernel_rfl) (by kernel_rfl) (by kernel_rfl)) ?_
  intro W base args ds gs before hval0 hW hcnd _
  have hval : ∀ (j : Nat) t v, Try.f3.params[j]? = some t → args[j]? = some v → Value.okWide Try.prog W .any base t v := hval0
  have hW' := hW
  obtain ⟨p, q, hA0, hV, rfl, hfz, hnd⟩ := hW
  have hA : DataW.TrodAll enc Try.prog W 0 (fun _ => true) true Try.f3.params.toList args.toList ds p := hA0
  rw [Try.params3] at hA hval
  obtain ⟨v0, vs0, d_0, ds0, p0, q0, hargs, rfl, rfl, h0, r0⟩ := trodAll_cons hA
  obtain ⟨rfl, rfl, rfl⟩ := trodAll_nil r0
  obtain rfl : args = #[v0] := by cases args; simp_all
  obtain ⟨rfl, rfl⟩ := trodVars_none hV
  have k0 := h0
  have lt0 : ∀ x ∈ p0, x.block < W.heap.size := by obtain ⟨m, hm⟩ := k0; exact DataW.trod_lt m _ _ _ hm
  obtain ⟨c0_0, c0_1, c0_2, c0_3, c0_4, c0_5, u0_0, u0_1, u0_2, u0_3, u0_4, u0_5, n0_, rfl, z0_0, z0_1, z0_2, z0_3, z0_4, z0_5⟩ := open_agg6 Try.underlying24 (by kernel_rfl) (by kernel_rfl) (hval 0 24 v0 rfl rfl) h0
  obtain ⟨nb, e0_0, -, -⟩ := DataW.trod_int Try.underlying3 z0_0
  obtain rfl : c0_0 = .int .i64 nb := by simpa using e0_0
  obtain ⟨fr, e0_1, -, -⟩ := DataW.trod_int Try.underlying3 z0_1
  obtain rfl : c0_1 = .int .i64 fr := by simpa using e0_1
  obtain ⟨fu, e0_2, -⟩ := DataW.trod_bool Try.underlying4 z0_2
  obtain rfl : c0_2 = .bool fu := by simpa using e0_2
  obtain ⟨vw, e0_3, -, -⟩ := DataW.trod_int Try.underlying3 z0_3
  obtain rfl : c0_3 = .int .i64 vw := by simpa using e0_3
  obtain ⟨vh, e0_4, -, -⟩ := DataW.trod_int Try.underlying3 z0_4
  obtain rfl : c0_4 = .int .i64 vh := by simpa using e0_4
  obtain ⟨a, n, cap, l, rfl, el_, ml_, sl_, rl_⟩ := entries_field Try.underlying22 Try.underlying52 (by kernel_rfl) rfl rfl (by kernel_rfl) (by kernel_rfl) Try.underlying3 Try.underlying9 z0_5
  clear hA0 hval0
  refine (walk W nb fr vw vh fu a n cap l el_ ml_ sl_ rl_).mono fun e W' ⟨he, bel⟩ => ?_
  subst he
  exact ⟨_, rfl, _, _, _, [], _, [], hW', trodAll_mk1 (shut_bool Try.underlying4 _), (trodAll_cons_mk (Below.trod laidOut (by kernel_rfl) (of_decide_eq_true (by kernel_rfl)) k0 bel lt0) trodAll_mk0), rfl, bel.frame _, fun h => by cases h⟩

theorem over : Rows.fnExactViewBytesRow.holds Try.pinned (OpenSpec.ofChange Rows.fnExactViewBytesSpec) :=
  OpenClaim.holds_of_wide 3 Try.f3 rfl rfl rfl rfl rfl rfl rfl ⟨rfl, rfl, rfl, rfl, rfl⟩ rfl rfl rfl rfl rfl (by kernel_rfl) Try.func3 (by kernel_rfl)
    (of_decide_eq_true (by kernel_rfl)) (by unfold Func.isWrapper; first | (rw [if_pos (by decide +kernel)]; kernel_rfl) | (rw [if_neg (by decide +kernel)]; exact ⟨rfl, rfl⟩))
    (fun os started H enc _ => lifted os started H enc)

theorem proved : Rows.FnExactViewBytesSaid := over
#print axioms proved
end Go.Proofs.Ytpbnjncbbllpdaa
