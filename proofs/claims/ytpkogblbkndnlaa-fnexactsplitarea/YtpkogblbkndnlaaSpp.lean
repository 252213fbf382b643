/- At every argument that can be read, the law FnExactSplitArea returns true and leaves its arguments as they were: no condition. -/
import Derived.Test.YtpkogblbkndnlaaSplitAll
import Derived.Test.YtpkogblbkndnlaaAggL
import Derived.WalkKit
import Derived.ProofKit
import Derived.OpenShut
import Derived.ShutString
import Derived.ChangeOld
import Derived.Below
import Derived.Deep.Strs
namespace Go.Proofs.Ytpkogblbkndnlaa
open Go.ChangeShapes Go.WideShapes Go.ChangeAt Go.RowKit
set_option linter.unusedVariables false

theorem own : ownKnob Try.prog.godebug = none := by kernel_rfl
theorem laidOut : laidOutB Try.prog = true := by kernel_rfl
set_option maxHeartbeats 4000000 in
set_option maxRecDepth 100000 in
theorem walk (w : World) (a : Option Addr) (len cap : Nat) (l : List Pt) (el : l.length = len) (ml : len ≤ maxLen) (rl : RowV w a (cPt l)) (x1 : Int) (y1 : (Lit.int .i64 x1).wf = true) (x2 : Int) (y2 : (Lit.int .i64 x2).wf = true) (x3 : Int) (y3 : (Lit.int .i64 x3).wf = true) (x4 : Int) (y4 : (Lit.int .i64 x4).wf = true) (x5 : Bool) :
    Calls Try.prog 3 #[.agg #[.slice a len cap], .int .i64 x1, .int .i64 x2, .int .i64 x3, .int .i64 x4, .bool x5] w fun e w' => e = .returned (.bool true) ∧ Below w.heap.size w w' := by
  subst el
  have HR := hide rl
  clear rl
  obtain ⟨c, ec⟩ : ∃ x, x = splitC l x1 x2 x3 x4 x5 := ⟨_, rfl⟩
  obtain ⟨l2, el2⟩ : ∃ x, x = splitL l x1 x2 x3 x4 x5 := ⟨_, rfl⟩
  have HN2 : Hid (l2.length ≤ 13) := by show _ ≤ _; rw [el2]; exact splitL_le l x1 x2 x3 x4 x5
  have HC := hide ec
  have HL2 := hide el2
  clear ec el2
  have nc : (c != c) = false := by simp
  obtain ⟨q, hq⟩ : ∃ q : Int, q = ((1 + l2.length * 5 : Nat) : Int) := ⟨_, rfl⟩
  have q0 : 0 < q := by omega
  have nq : (q != q) = false := by simp
  have q1 : ¬ q < 0 := by omega
  have HQ := hide hq
  clear hq
  obtain ⟨p, hp⟩ : ∃ p : Int, p = ((1 + l.length * 5 : Nat) : Int) := ⟨_, rfl⟩
  have p0 : 0 < p := by omega
  have p1 : ¬ p < 0 := by omega
  have HPP := hide hp
  clear hp
  have B_0 := hide ((Below.refl w.heap.size w).alloc (Nat.le_refl _) (.cells #[.slice a l.length cap] 24))
  have A_0 := hide (BF.new w #[.slice a l.length cap] 24)
  go_enter Try.func3, Try.ntmps3
  go_wp2_with fail
  refine (szLay a cap l.length 1048576 (by decide) ml _).mono ?_
  rintro e w1 ⟨x, rfl, hb1, hx⟩
  clear ml
  have A_1 := hide ((unhide A_0).below hb1)
  clear A_0
  have B_2 := hide ((unhide B_0).trans (hb1.mono (unhide B_0).size))
  clear B_0
  clear hb1
  rcases hx with rfl | ⟨z, rfl, hz, hl⟩
  · go_wp2_with fail
    go_ret
    exact ⟨rfl, (unhide B_2)⟩
  have HL := hide hl
  have hx3 : ¬ (z : Int) < 0 := by omega
  clear hl hz
  have KA := (unhide A_1).S
  go_wp2_with fail
  refine (toLay a cap l (unhide HL) _ ((unhide HR).below (unhide B_2))).mono ?_
  rintro e w2 ⟨g2, rfl, o2, hb2⟩
  clear KA
  have A_3 := hide ((unhide A_1).below hb2)
  clear A_1
  have B_4 := hide ((unhide B_2).trans (hb2.mono (unhide B_2).size))
  clear B_2
  have HO2 := hide (rowZ_at o2)
  clear o2 hb2
  go_wp2_with fail
  refine (ssplitout _ _ l.length l rfl (unhide HL) x1 x2 x3 x4 x5 c l2 HC HL2 _ (unhide HO2)).mono ?_
  rintro e w3 ⟨aW, capW, rfl, o3, hb3⟩
  have A_5 := hide ((unhide A_3).below hb3)
  clear A_3
  have B_6 := hide ((unhide B_4).trans (hb3.mono (unhide B_4).size))
  clear B_4
  have W_0 := hide (LayIn.laid (v := .slice aW l2.length capW) o3)
  have A_7 := hide ((unhide A_5).alloc (.cells #[.slice aW l2.length capW] 28))
  clear A_5
  have B_8 := hide ((unhide B_6).alloc (unhide B_6).size (.cells #[.slice aW l2.length capW] 28))
  clear B_6
  clear o3 hb3 HO2
  have z3 : w.heap.size < w3.heap.size + 1 := by have := (unhide A_7).lt; (try simp at this); omega
  have KA := (unhide A_7).S
  go_wp2_with fail
  refine (toLay a cap l (unhide HL) _ ((unhide HR).below (unhide B_8))).mono ?_
  rintro e w4 ⟨gx, rfl, o4, hb4⟩
  clear KA
  have A_9 := hide ((unhide A_7).below hb4)
  clear A_7
  have B_10 := hide ((unhide B_8).trans (hb4.mono (unhide B_8).size))
  clear B_8
  have W_11 := hide ((unhide W_0).below hb4)
  clear W_0
  have X_0 := hide (LayIn.laid (v := .slice (some ⟨gx, 0, none⟩) l.length l.length) o4)
  have A_12 := hide ((unhide A_9).alloc (.cells #[.slice (some ⟨gx, 0, none⟩) l.length l.length] 28))
  clear A_9
  have B_13 := hide ((unhide B_10).alloc (unhide B_10).size (.cells #[.slice (some ⟨gx, 0, none⟩) l.length l.length] 28))
  clear B_10
  have W_14 := hide ((unhide W_11).alloc (.cells #[.slice (some ⟨gx, 0, none⟩) l.length l.length] 28))
  clear W_11
  have HO4 := hide (rowZ_at (o4.alloc (.cells #[.slice (some ⟨gx, 0, none⟩) l.length l.length] 28)))
  rw [show (w3.alloc (.cells #[.slice aW l2.length capW] 28)).heap.size = w3.heap.size + 1 from by simp] at X_0
  have z34 : w3.heap.size + 1 ≤ w4.heap.size := by have := hb4.size; (try simp at this); omega
  clear o4 hb4
  have KX := (unhide X_0).box
  go_wp2_with fail
  refine (isplitout _ _ l.length l rfl (unhide HL) x1 x2 x3 x4 x5 c l2 HC HL2 _ (unhide HO4)).mono ?_
  rintro e w5 ⟨aG, capG, rfl, o5, hb5⟩
  clear KX
  have A_15 := hide ((unhide A_12).below hb5)
  clear A_12
  have B_16 := hide ((unhide B_13).trans (hb5.mono (unhide B_13).size))
  clear B_13
  have W_17 := hide ((unhide W_14).below hb5)
  clear W_14
  have X_18 := hide ((unhide X_0).below hb5)
  clear X_0
  have z45 : w4.heap.size + 1 ≤ w5.heap.size := by have := hb5.size; (try simp at this); omega
  have G_0 := hide (LayIn.laid (v := .slice aG l2.length capG) o5)
  have A_19 := hide ((unhide A_15).alloc (.cells #[.slice aG l2.length capG] 28))
  clear A_15
  have B_20 := hide ((unhide B_16).alloc (unhide B_16).size (.cells #[.slice aG l2.length capG] 28))
  clear B_16
  have W_21 := hide ((unhide W_17).alloc (.cells #[.slice aG l2.length capG] 28))
  clear W_17
  have X_22 := hide ((unhide X_18).alloc (.cells #[.slice aG l2.length capG] 28))
  clear X_18
  rw [show (w4.alloc (.cells #[.slice (some ⟨gx, 0, none⟩) l.length l.length] 28)).heap.size = w4.heap.size + 1 from by simp] at G_0
  clear o5 hb5 HO4
  have KW := (unhide W_21).box
  have KG := (unhide G_0).box
  go_wp2_with fail
  refine (eqLay aG aW capG capW l2 (Nat.le_trans (unhide HN2) (by decide)) _ (unhide G_0).row.rowV (unhide W_21).row.rowV).mono ?_
  rintro e w6 ⟨rfl, hb6⟩
  clear KW KG
  have A_23 := hide ((unhide A_19).below hb6)
  clear A_19
  have B_24 := hide ((unhide B_20).trans (hb6.mono (unhide B_20).size))
  clear B_20
  have W_25 := hide ((unhide W_21).below hb6)
  clear W_21
  have X_26 := hide ((unhide X_22).below hb6)
  clear X_22
  have G_27 := hide ((unhide G_0).below hb6)
  clear G_0
  clear hb6
  have K6 := And.intro (unhide A_23).S (unhide X_26).box
  have HU6 := hide (unhide X_26).row.rowV
  have LX : w4.heap.size < w6.heap.size := (unhide X_26).lt
  go_wp2_with fail
  go_region_held3 (fun w' => (∀ o, w'.cell? ⟨w.heap.size, o, none⟩ = (#[.slice a l.length cap] : Array Value)[o]?) ∧ (∀ o, w'.cell? ⟨w4.heap.size, o, none⟩ = (#[.slice (some ⟨gx, 0, none⟩) l.length l.length] : Array Value)[o]?)) (first | exact K6 | exact K7 | exact K8) (first | (go_at_call 6; refine (toLay a cap l (unhide HL) _ ((unhide HR).below (unhide B_24).drew)).mono ?_; rintro e w7 ⟨g7, rfl, o7, hb7⟩; have A7 := hide ((unhide A_23).drew.below hb7); have K7 := And.intro (unhide A7).S (fun o => (hb7.cell (p := ⟨w4.heap.size, o, none⟩) LX).trans (K6.2 o)); have HO7 := hide (rowZ_at o7); have HU7 := hide ((unhide HU6).below (below_undrew hb7)); have HT7 := hide (below_undrew hb7); have LX7 : w4.heap.size < w7.heap.size := Nat.lt_of_lt_of_le LX (unhide HT7).size; clear o7 hb7) | (go_at_call 8; refine (eqLay _ _ _ _ l (unhide HL) _ (unhide HU7) (unhide HO7)).mono ?_; rintro e w8 ⟨rfl, hb8⟩; have A8 := hide ((unhide A7).below hb8); have K8 := And.intro (unhide A8).S (fun o => (hb8.cell (p := ⟨w4.heap.size, o, none⟩) LX7).trans (K7.2 o)); have HT8 := hide ((unhide HT7).trans (hb8.mono (unhide HT7).size)); clear hb8))
  clear K6 K7 K8 A7 A8 HO7 HU6 HU7 HT7 LX LX7
  have A_28 := hide ((unhide A_23).below (unhide HT8))
  clear A_23
  have B_29 := hide ((unhide B_24).trans ((unhide HT8).mono (unhide B_24).size))
  clear B_24
  have W_30 := hide ((unhide W_25).below (unhide HT8))
  clear W_25
  have X_31 := hide ((unhide X_26).below (unhide HT8))
  clear X_26
  have G_32 := hide ((unhide G_27).below (unhide HT8))
  clear G_27
  clear HT8
  have KX := (unhide X_31).box
  go_wp2_with fail
  refine (markLay _ l.length (w3.heap.size + 1) w4.heap.size p _ (unhide HPP) (unhide HL) _ (unhide X_31).row).mono ?_
  rintro e w9 ⟨rfl, -, hs9⟩
  clear KX
  have A_33 := hide ((unhide A_28).keep hs9.size (hs9.block w.heap.size (unhide A_28).lt (.inl (by omega))))
  clear A_28
  have B_34 := hide ((unhide B_29).trans (hs9.below (by omega) (unhide B_29).size))
  clear B_29
  have W_35 := hide ((unhide W_30).spared hs9 (.inl (by omega)) (.inl (by omega)))
  clear W_30
  clear X_31
  have G_36 := hide ((unhide G_32).spared hs9 (.inr (by omega)) (.inr (by omega)))
  clear G_32
  clear hs9
  have KW := (unhide W_35).box
  have KG := (unhide G_36).box
  go_wp2_with fail
  refine (eqLay aG aW capG capW l2 (Nat.le_trans (unhide HN2) (by decide)) _ (unhide G_36).row.rowV (unhide W_35).row.rowV).mono ?_
  rintro e w10 ⟨rfl, hb10⟩
  clear KW KG
  have A_37 := hide ((unhide A_33).below hb10)
  clear A_33
  have B_38 := hide ((unhide B_34).trans (hb10.mono (unhide B_34).size))
  clear B_34
  have W_39 := hide ((unhide W_35).below hb10)
  clear W_35
  have G_40 := hide ((unhide G_36).below hb10)
  clear G_36
  clear hb10
  have KG := (unhide G_40).box
  go_wp2_with fail
  refine (markLay _ l2.length _ _ q _ (unhide HQ) (Nat.le_trans (unhide HN2) (by decide)) _ (unhide G_40).row).mono ?_
  rintro e w11 ⟨rfl, hc11, hs11⟩
  clear KG
  have G_m := hide ((unhide G_40).marked hs11 hc11)
  clear G_40
  have A_41 := hide ((unhide A_37).keep hs11.size (hs11.block w.heap.size (unhide A_37).lt (.inl (by omega))))
  clear A_37
  have B_42 := hide ((unhide B_38).trans (hs11.below (by omega) (unhide B_38).size))
  clear B_38
  have W_43 := hide ((unhide W_39).spared hs11 (.inl (by omega)) (.inl (by omega)))
  clear W_39
  clear hs11 hc11
  have KG := (unhide G_m).box
  go_wp2_with fail
  refine (heldLay _ l2.length _ _ q (unhide HQ) (Nat.le_trans (unhide HN2) (by decide)) _ (unhide G_m).row).mono ?_
  rintro e w12 ⟨rfl, hb12⟩
  clear KG
  have A_44 := hide ((unhide A_41).below hb12)
  clear A_41
  have B_45 := hide ((unhide B_42).trans (hb12.mono (unhide B_42).size))
  clear B_42
  have W_46 := hide ((unhide W_43).below hb12)
  clear W_43
  have G_47 := hide ((unhide G_m).below hb12)
  clear G_m
  clear hb12
  have KA := (unhide A_44).S
  go_wp2_with fail
  refine (toLay a cap l (unhide HL) _ ((unhide HR).below (unhide B_45))).mono ?_
  rintro e w13 ⟨g13, rfl, o13, hb13⟩
  clear KA
  clear A_44
  have B_48 := hide ((unhide B_45).trans (hb13.mono (unhide B_45).size))
  clear B_45
  have W_49 := hide ((unhide W_46).below hb13)
  clear W_46
  have G_50 := hide ((unhide G_47).below hb13)
  clear G_47
  have HO13 := hide (rowZ_at o13)
  clear o13 hb13
  go_wp2_with fail
  refine (isplitout _ _ l.length l rfl (unhide HL) x1 x2 x3 x4 x5 c l2 HC HL2 _ (unhide HO13)).mono ?_
  rintro e w14 ⟨aH, capH, rfl, o14, hb14⟩
  have B_51 := hide ((unhide B_48).trans (hb14.mono (unhide B_48).size))
  clear B_48
  have W_52 := hide ((unhide W_49).below hb14)
  clear W_49
  have G_53 := hide ((unhide G_50).below hb14)
  clear G_50
  have H_0 := hide (LayIn.laid (v := .slice aH l2.length capH) o14)
  have B_54 := hide ((unhide B_51).alloc (unhide B_51).size (.cells #[.slice aH l2.length capH] 28))
  clear B_51
  have W_55 := hide ((unhide W_52).alloc (.cells #[.slice aH l2.length capH] 28))
  clear W_52
  have G_56 := hide ((unhide G_53).alloc (.cells #[.slice aH l2.length capH] 28))
  clear G_53
  clear o14 hb14 HO13
  have KW := (unhide W_55).box
  have KH := (unhide H_0).box
  go_wp2_with fail
  refine (eqLay aH aW capH capW l2 (Nat.le_trans (unhide HN2) (by decide)) _ (unhide H_0).row.rowV (unhide W_55).row.rowV).mono ?_
  rintro e w15 ⟨rfl, hb15⟩
  clear KW KH
  have B_57 := hide ((unhide B_54).trans (hb15.mono (unhide B_54).size))
  clear B_54
  have W_58 := hide ((unhide W_55).below hb15)
  clear W_55
  have G_59 := hide ((unhide G_56).below hb15)
  clear G_56
  have H_60 := hide ((unhide H_0).below hb15)
  clear H_0
  clear hb15
  have KG := (unhide G_59).box
  go_wp2_with fail
  refine (heldLay _ l2.length _ _ q (unhide HQ) (Nat.le_trans (unhide HN2) (by decide)) _ (unhide G_59).row).mono ?_
  rintro e w16 ⟨rfl, hb16⟩
  clear KG
  have B_61 := hide ((unhide B_57).trans (hb16.mono (unhide B_57).size))
  clear B_57
  have W_62 := hide ((unhide W_58).below hb16)
  clear W_58
  have G_63 := hide ((unhide G_59).below hb16)
  clear G_59
  have H_64 := hide ((unhide H_60).below hb16)
  clear H_60
  clear hb16
  go_wp2_with fail
  go_ret
  exact ⟨rfl, (unhide B_61)⟩

set_option maxRecDepth 100000 in
theorem lifted (os : Os) (started : os.Started) (H : Type) (enc : TypeId × Value → H) :
    ReturnsInHanded {} Try.checked os 3 .any (Rows.fnExactSplitAreaSpec.pre6 enc Try.prog Try.f3 Rows.fnExactSplitAreaRow.domain false) (Rows.fnExactSplitAreaSpec.post enc Try.prog Try.f3 false true false false) := by
  refine returnsInHanded_of_change (C := Try.checked) own started (by kernel_rfl) Try.func3
    (ChangeSpec.witness6 (enc := enc) (C := Try.checked) false ⟨#[], #[.agg #[.slice none 0 0], .int .i64 0, .int .i64 0, .int .i64 0, .int .i64 0, .bool false], []⟩ 8 (by kernel_rfl) (by kernel_rfl) (by kernel_rfl) (by kernel_rfl)) ?_
  intro W base args ds gs before hval0 hW hcnd _
  have hval : ∀ (j : Nat) t v, Try.f3.params[j]? = some t → args[j]? = some v → Value.okWide Try.prog W .any base t v := hval0
  have hW' := hW
  obtain ⟨p, q, hA0, hV, rfl, hfz, hnd⟩ := hW
  have hA : DataW.TrodAll enc Try.prog W 0 (fun _ => true) true Try.f3.params.toList args.toList ds p := hA0
  rw [Try.params3] at hA hval
  obtain ⟨v0, vs0, d0, ds0, p0, q0, hargs, rfl, rfl, h0, r0⟩ := trodAll_cons hA
  obtain ⟨v1, vs1, d1, ds1, p1, q1, rfl, rfl, rfl, h1, r1⟩ := trodAll_cons r0
  obtain ⟨v2, vs2, d2, ds2, p2, q2, rfl, rfl, rfl, h2, r2⟩ := trodAll_cons r1
  obtain ⟨v3, vs3, d3, ds3, p3, q3, rfl, rfl, rfl, h3, r3⟩ := trodAll_cons r2
  obtain ⟨v4, vs4, d4, ds4, p4, q4, rfl, rfl, rfl, h4, r4⟩ := trodAll_cons r3
  obtain ⟨v5, vs5, d5, ds5, p5, q5, rfl, rfl, rfl, h5, r5⟩ := trodAll_cons r4
  obtain ⟨rfl, rfl, rfl⟩ := trodAll_nil r5
  obtain rfl : args = #[v0, v1, v2, v3, v4, v5] := by cases args; simp_all
  obtain ⟨rfl, rfl⟩ := trodVars_none hV
  have k0 := h0
  have lt0 : ∀ x ∈ p0, x.block < W.heap.size := by obtain ⟨m, hm⟩ := k0; exact DataW.trod_lt m _ _ _ hm
  have k1 := h1
  have lt1 : ∀ x ∈ p1, x.block < W.heap.size := by obtain ⟨m, hm⟩ := k1; exact DataW.trod_lt m _ _ _ hm
  have k2 := h2
  have lt2 : ∀ x ∈ p2, x.block < W.heap.size := by obtain ⟨m, hm⟩ := k2; exact DataW.trod_lt m _ _ _ hm
  have k3 := h3
  have lt3 : ∀ x ∈ p3, x.block < W.heap.size := by obtain ⟨m, hm⟩ := k3; exact DataW.trod_lt m _ _ _ hm
  have k4 := h4
  have lt4 : ∀ x ∈ p4, x.block < W.heap.size := by obtain ⟨m, hm⟩ := k4; exact DataW.trod_lt m _ _ _ hm
  have k5 := h5
  have lt5 : ∀ x ∈ p5, x.block < W.heap.size := by obtain ⟨m, hm⟩ := k5; exact DataW.trod_lt m _ _ _ hm
  obtain ⟨c0, u0, n0, rfl, z0⟩ := open_agg1 Try.underlying24 (by kernel_rfl) (by kernel_rfl) (hval 0 24 v0 rfl rfl) h0
  obtain ⟨a, len, cap, l, rfl, el, ml, rl⟩ := parts_field Try.underlying22 Try.underlying61 (by kernel_rfl) rfl rfl rfl rfl rfl (by kernel_rfl) (by kernel_rfl) (by kernel_rfl) (by kernel_rfl) (by kernel_rfl) Try.underlying3 Try.underlying4 Try.underlying3 Try.underlying3 Try.underlying3 z0
  obtain ⟨x1, rfl, rfl, rfl, y1⟩ := open_int Try.underlying3 (hval 1 3 v1 rfl rfl) h1
  obtain ⟨x2, rfl, rfl, rfl, y2⟩ := open_int Try.underlying3 (hval 2 3 v2 rfl rfl) h2
  obtain ⟨x3, rfl, rfl, rfl, y3⟩ := open_int Try.underlying3 (hval 3 3 v3 rfl rfl) h3
  obtain ⟨x4, rfl, rfl, rfl, y4⟩ := open_int Try.underlying3 (hval 4 3 v4 rfl rfl) h4
  obtain ⟨x5, rfl, rfl, rfl⟩ := open_bool Try.underlying4 (hval 5 4 v5 rfl rfl) h5
  clear hA0 hval0
  refine (walk W a len cap l el ml rl x1 y1 x2 y2 x3 y3 x4 y4 x5).mono fun e W' ⟨he, bel⟩ => ?_
  subst he
  exact ⟨_, rfl, _, _, _, [], _, [], hW', trodAll_mk1 (shut_bool Try.underlying4 _), (trodAll_cons_mk (Below.trod laidOut (by kernel_rfl) (of_decide_eq_true (by kernel_rfl)) k0 bel lt0) (trodAll_cons_mk (Below.trod laidOut (by kernel_rfl) (of_decide_eq_true (by kernel_rfl)) k1 bel lt1) (trodAll_cons_mk (Below.trod laidOut (by kernel_rfl) (of_decide_eq_true (by kernel_rfl)) k2 bel lt2) (trodAll_cons_mk (Below.trod laidOut (by kernel_rfl) (of_decide_eq_true (by kernel_rfl)) k3 bel lt3) (trodAll_cons_mk (Below.trod laidOut (by kernel_rfl) (of_decide_eq_true (by kernel_rfl)) k4 bel lt4) (trodAll_cons_mk (Below.trod laidOut (by kernel_rfl) (of_decide_eq_true (by kernel_rfl)) k5 bel lt5) trodAll_mk0)))))), rfl, bel.frame _, fun h => by cases h⟩

theorem over : Rows.fnExactSplitAreaRow.holds Try.pinned (OpenSpec.ofChange Rows.fnExactSplitAreaSpec) :=
  OpenClaim.holds_of_wide 3 Try.f3 rfl rfl rfl rfl rfl rfl rfl ⟨rfl, rfl, rfl, rfl, rfl⟩ rfl rfl rfl rfl rfl (by kernel_rfl) Try.func3 (by kernel_rfl)
    (of_decide_eq_true (by kernel_rfl)) (by unfold Func.isWrapper; first | (rw [if_pos (by decide +kernel)]; kernel_rfl) | (rw [if_neg (by decide +kernel)]; exact ⟨rfl, rfl⟩))
    (fun os started H enc _ => lifted os started H enc)

theorem proved : Rows.FnExactSplitAreaSaid := over
#print axioms proved
end Go.Proofs.Ytpkogblbkndnlaa
