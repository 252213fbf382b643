/- At every argument that can be read, the law FnExactLayoutAreas returns true and leaves its arguments as they were: no condition. -/
import Derived.Test.YtobcianljbfalaaArAll
import Derived.Test.YtobcianljbfalaaAggL
import Derived.WalkKit
import Derived.ProofKit
import Derived.OpenShut
import Derived.ShutString
import Derived.ChangeOld
import Derived.Below
import Derived.Deep.Strs
namespace Go.Proofs.Ytobcianljbfalaa
open Go.ChangeShapes Go.WideShapes Go.ChangeAt Go.RowKit
set_option linter.unusedVariables false

theorem own : ownKnob Try.prog.godebug = none := by kernel_rfl
theorem laidOut : laidOutB Try.prog = true := by kernel_rfl
set_option maxHeartbeats 4000000 in
set_option maxRecDepth 100000 in
theorem walk (w : World) (a : Option Addr) (len cap : Nat) (l : List Pt) (el : l.length = len) (ml : len ≤ maxLen) (rl : RowV w a (cPt l)) (x1 : Int) (y1 : (Lit.int .i64 x1).wf = true) (x2 : Int) (y2 : (Lit.int .i64 x2).wf = true) :
    Calls Try.prog 3 #[.agg #[.slice a len cap], .int .i64 x1, .int .i64 x2] w fun e w' => e = .returned (.bool true) ∧ Below w.heap.size w w' := by
  subst el
  have HR := hide rl
  clear rl
  obtain ⟨c, ec⟩ : ∃ x, x = arC l x1 x2 := ⟨_, rfl⟩
  obtain ⟨l2, el2⟩ : ∃ x, x = arL l x1 x2 := ⟨_, rfl⟩
  have HN2 : Hid (l2.length ≤ 11) := by show _ ≤ _; rw [el2]; exact arL_le l x1 x2
  have HC := hide ec
  have HL2 := hide el2
  clear ec el2
  have nc : (c != c) = false := by simp
  obtain ⟨q, hq⟩ : ∃ q : Int, q = ((1 + l2.length * 5 : Nat) : Int) := ⟨_, rfl⟩
  have q0 : 0 < q := by omega
  have nq : (q != q) = false := by simp
  have q1 : ¬ q < 0 := by omega
  have HQ := hide hq
  clear hq
  obtain ⟨p, hp⟩ : ∃ p : Int, p = ((1 + l.length * 5 : Nat) : Int) := ⟨_, rfl⟩
  have p0 : 0 < p := by omega
  have p1 : ¬ p < 0 := by omega
  have HPP := hide hp
  clear hp
  have B_0 := hide ((Below.refl w.heap.size w).alloc (Nat.le_refl _) (.cells #[.slice a l.length cap] 24))
  have A_0 := hide (BF.new w #[.slice a l.length cap] 24)
  go_enter Try.func3, Try.ntmps3
  go_wp2_with fail
  refine (szLay a cap l.length 1048576 (by decide) ml _).mono ?_
  rintro e w1 ⟨x, rfl, hb1, hx⟩
  clear ml
  have A_1 := hide ((unhide A_0).below hb1)
  clear A_0
  have B_2 := hide ((unhide B_0).trans (hb1.mono (unhide B_0).size))
  clear B_0
  clear hb1
  rcases hx with rfl | ⟨z, rfl, hz, hl⟩
  · go_wp2_with fail
    go_ret
    exact ⟨rfl, (unhide B_2)⟩
  have HL := hide hl
  have hx3 : ¬ (z : Int) < 0 := by omega
  clear hl hz
  have KA := (unhide A_1).S
  go_wp2_with fail
  refine (toLay a cap l (unhide HL) _ ((unhide HR).below (unhide B_2))).mono ?_
  rintro e w2 ⟨g2, rfl, o2, hb2⟩
  clear KA
  have A_3 := hide ((unhide A_1).below hb2)
  clear A_1
  have B_4 := hide ((unhide B_2).trans (hb2.mono (unhide B_2).size))
  clear B_2
  have HO2 := hide (rowZ_at o2)
  clear o2 hb2
  go_wp2_with fail
  refine (slareas _ _ l.length l rfl (unhide HL) x1 x2 c l2 HC HL2 _ (unhide HO2)).mono ?_
  rintro e w3 ⟨aW, capW, rfl, o3, hb3⟩
  have A_5 := hide ((unhide A_3).below hb3)
  clear A_3
  have B_6 := hide ((unhide B_4).trans (hb3.mono (unhide B_4).size))
  clear B_4
  have W_0 := hide (heldZ_of o3)
  clear o3 hb3 HO2
  have z3 : w.heap.size < w3.heap.size := by have := (unhide A_5).lt; (try simp at this); omega
  have KA := (unhide A_5).S
  go_wp2_with fail
  refine (toLay a cap l (unhide HL) _ ((unhide HR).below (unhide B_6))).mono ?_
  rintro e w4 ⟨gx, rfl, o4, hb4⟩
  clear KA
  have A_7 := hide ((unhide A_5).below hb4)
  clear A_5
  have B_8 := hide ((unhide B_6).trans (hb4.mono (unhide B_6).size))
  clear B_6
  have W_9 := hide ((unhide W_0).below hb4 (unhide W_0).le)
  clear W_0
  have X_0 := hide (LayIn.laid (v := .slice (some ⟨gx, 0, none⟩) l.length l.length) o4)
  have A_10 := hide ((unhide A_7).alloc (.cells #[.slice (some ⟨gx, 0, none⟩) l.length l.length] 31))
  clear A_7
  have B_11 := hide ((unhide B_8).alloc (unhide B_8).size (.cells #[.slice (some ⟨gx, 0, none⟩) l.length l.length] 31))
  clear B_8
  have W_12 := hide ((unhide W_9).below ((Below.refl _ _).alloc (Nat.le_refl _) (.cells #[.slice (some ⟨gx, 0, none⟩) l.length l.length] 31)) (unhide W_9).le)
  clear W_9
  have HO4 := hide (rowZ_at (o4.alloc (.cells #[.slice (some ⟨gx, 0, none⟩) l.length l.length] 31)))
  have z34 : w3.heap.size ≤ w4.heap.size := by have := hb4.size; (try simp at this); omega
  clear o4 hb4
  have KX := (unhide X_0).box
  go_wp2_with fail
  refine (ilareas _ _ l.length l rfl (unhide HL) x1 x2 c l2 HC HL2 _ (unhide HO4)).mono ?_
  rintro e w5 ⟨aG, capG, rfl, o5, hb5⟩
  clear KX
  have A_13 := hide ((unhide A_10).below hb5)
  clear A_10
  have B_14 := hide ((unhide B_11).trans (hb5.mono (unhide B_11).size))
  clear B_11
  have W_15 := hide ((unhide W_12).below hb5 (unhide W_12).le)
  clear W_12
  have X_16 := hide ((unhide X_0).below hb5)
  clear X_0
  have z45 : w4.heap.size + 1 ≤ w5.heap.size := by have := hb5.size; (try simp at this); omega
  have G_0 := hide (heldZ_of o5)
  rw [show (w4.alloc (.cells #[.slice (some ⟨gx, 0, none⟩) l.length l.length] 31)).heap.size = w4.heap.size + 1 from by simp] at G_0
  clear o5 hb5 HO4
  go_wp2_with fail
  refine (sameArea aG aW capG capW l2 (Nat.le_trans (unhide HN2) (by decide)) _ (unhide G_0).rowV (unhide W_15).rowV).mono ?_
  rintro e w6 ⟨rfl, hb6⟩
  have A_17 := hide ((unhide A_13).below hb6)
  clear A_13
  have B_18 := hide ((unhide B_14).trans (hb6.mono (unhide B_14).size))
  clear B_14
  have W_19 := hide ((unhide W_15).below hb6 (unhide W_15).le)
  clear W_15
  have X_20 := hide ((unhide X_16).below hb6)
  clear X_16
  have G_21 := hide ((unhide G_0).below hb6 (unhide G_0).le)
  clear G_0
  clear hb6
  have K6 := And.intro (unhide A_17).S (unhide X_20).box
  have HU6 := hide (unhide X_20).row.rowV
  have LX : w4.heap.size < w6.heap.size := (unhide X_20).lt
  go_wp2_with fail
  go_region_held3 (fun w' => (∀ o, w'.cell? ⟨w.heap.size, o, none⟩ = (#[.slice a l.length cap] : Array Value)[o]?) ∧ (∀ o, w'.cell? ⟨w4.heap.size, o, none⟩ = (#[.slice (some ⟨gx, 0, none⟩) l.length l.length] : Array Value)[o]?)) (first | exact K6 | exact K7 | exact K8) (first | (go_at_call 6; refine (toLay a cap l (unhide HL) _ ((unhide HR).below (unhide B_18).drew)).mono ?_; rintro e w7 ⟨g7, rfl, o7, hb7⟩; have A7 := hide ((unhide A_17).drew.below hb7); have K7 := And.intro (unhide A7).S (fun o => (hb7.cell (p := ⟨w4.heap.size, o, none⟩) LX).trans (K6.2 o)); have HO7 := hide (rowZ_at o7); have HU7 := hide ((unhide HU6).below (below_undrew hb7)); have HT7 := hide (below_undrew hb7); have LX7 : w4.heap.size < w7.heap.size := Nat.lt_of_lt_of_le LX (unhide HT7).size; clear o7 hb7) | (go_at_call 9; refine (eqLay _ _ _ _ l (unhide HL) _ (unhide HU7) (unhide HO7)).mono ?_; rintro e w8 ⟨rfl, hb8⟩; have A8 := hide ((unhide A7).below hb8); have K8 := And.intro (unhide A8).S (fun o => (hb8.cell (p := ⟨w4.heap.size, o, none⟩) LX7).trans (K7.2 o)); have HT8 := hide ((unhide HT7).trans (hb8.mono (unhide HT7).size)); clear hb8))
  clear K6 K7 K8 A7 A8 HO7 HU6 HU7 HT7 LX LX7
  have A_22 := hide ((unhide A_17).below (unhide HT8))
  clear A_17
  have B_23 := hide ((unhide B_18).trans ((unhide HT8).mono (unhide B_18).size))
  clear B_18
  have W_24 := hide ((unhide W_19).below (unhide HT8) (unhide W_19).le)
  clear W_19
  have X_25 := hide ((unhide X_20).below (unhide HT8))
  clear X_20
  have G_26 := hide ((unhide G_21).below (unhide HT8) (unhide G_21).le)
  clear G_21
  clear HT8
  have KX := (unhide X_25).box
  go_wp2_with fail
  refine (markLay _ l.length (w3.heap.size) w4.heap.size p _ (unhide HPP) (unhide HL) _ (unhide X_25).row).mono ?_
  rintro e w9 ⟨rfl, -, hs9⟩
  clear KX
  have A_27 := hide ((unhide A_22).keep hs9.size (hs9.block w.heap.size (unhide A_22).lt (.inl (by omega))))
  clear A_22
  have B_28 := hide ((unhide B_23).trans (hs9.below (by omega) (unhide B_23).size))
  clear B_23
  have W_29 := hide ((unhide W_24).spared hs9 (.inl (by omega)))
  clear W_24
  clear X_25
  have G_30 := hide ((unhide G_26).spared hs9 (.inr (by omega)))
  clear G_26
  clear hs9
  go_wp2_with fail
  refine (sameArea aG aW capG capW l2 (Nat.le_trans (unhide HN2) (by decide)) _ (unhide G_30).rowV (unhide W_29).rowV).mono ?_
  rintro e w10 ⟨rfl, hb10⟩
  have A_31 := hide ((unhide A_27).below hb10)
  clear A_27
  have B_32 := hide ((unhide B_28).trans (hb10.mono (unhide B_28).size))
  clear B_28
  have W_33 := hide ((unhide W_29).below hb10 (unhide W_29).le)
  clear W_29
  have G_34 := hide ((unhide G_30).below hb10 (unhide G_30).le)
  clear G_30
  clear hb10
  go_wp2_with fail
  refine (markA _ l2.length _ _ q _ (unhide HQ) (Nat.le_trans (unhide HN2) (by decide)) _ (unhide G_34)).mono ?_
  rintro e w11 ⟨rfl, hc11, hs11⟩
  have G_m := hide hc11
  clear G_34
  have A_35 := hide ((unhide A_31).keep hs11.size (hs11.block w.heap.size (unhide A_31).lt (.inl (by omega))))
  clear A_31
  have B_36 := hide ((unhide B_32).trans (hs11.below (by omega) (unhide B_32).size))
  clear B_32
  have W_37 := hide ((unhide W_33).spared hs11 (.inl (by omega)))
  clear W_33
  clear hs11 hc11
  go_wp2_with fail
  refine (heldA _ l2.length _ _ q (unhide HQ) (Nat.le_trans (unhide HN2) (by decide)) _ (unhide G_m)).mono ?_
  rintro e w12 ⟨rfl, hb12⟩
  have A_38 := hide ((unhide A_35).below hb12)
  clear A_35
  have B_39 := hide ((unhide B_36).trans (hb12.mono (unhide B_36).size))
  clear B_36
  have W_40 := hide ((unhide W_37).below hb12 (unhide W_37).le)
  clear W_37
  have G_41 := hide ((unhide G_m).below hb12 (unhide G_m).le)
  clear G_m
  clear hb12
  have KA := (unhide A_38).S
  go_wp2_with fail
  refine (toLay a cap l (unhide HL) _ ((unhide HR).below (unhide B_39))).mono ?_
  rintro e w13 ⟨g13, rfl, o13, hb13⟩
  clear KA
  clear A_38
  have B_42 := hide ((unhide B_39).trans (hb13.mono (unhide B_39).size))
  clear B_39
  have W_43 := hide ((unhide W_40).below hb13 (unhide W_40).le)
  clear W_40
  have G_44 := hide ((unhide G_41).below hb13 (unhide G_41).le)
  clear G_41
  have HO13 := hide (rowZ_at o13)
  clear o13 hb13
  go_wp2_with fail
  refine (ilareas _ _ l.length l rfl (unhide HL) x1 x2 c l2 HC HL2 _ (unhide HO13)).mono ?_
  rintro e w14 ⟨aH, capH, rfl, o14, hb14⟩
  have B_45 := hide ((unhide B_42).trans (hb14.mono (unhide B_42).size))
  clear B_42
  have W_46 := hide ((unhide W_43).below hb14 (unhide W_43).le)
  clear W_43
  have G_47 := hide ((unhide G_44).below hb14 (unhide G_44).le)
  clear G_44
  have H_0 := hide (heldZ_of o14)
  clear o14 hb14 HO13
  go_wp2_with fail
  refine (sameArea aH aW capH capW l2 (Nat.le_trans (unhide HN2) (by decide)) _ (unhide H_0).rowV (unhide W_46).rowV).mono ?_
  rintro e w15 ⟨rfl, hb15⟩
  have B_48 := hide ((unhide B_45).trans (hb15.mono (unhide B_45).size))
  clear B_45
  have W_49 := hide ((unhide W_46).below hb15 (unhide W_46).le)
  clear W_46
  have G_50 := hide ((unhide G_47).below hb15 (unhide G_47).le)
  clear G_47
  have H_51 := hide ((unhide H_0).below hb15 (unhide H_0).le)
  clear H_0
  clear hb15
  go_wp2_with fail
  refine (heldA _ l2.length _ _ q (unhide HQ) (Nat.le_trans (unhide HN2) (by decide)) _ (unhide G_50)).mono ?_
  rintro e w16 ⟨rfl, hb16⟩
  have B_52 := hide ((unhide B_48).trans (hb16.mono (unhide B_48).size))
  clear B_48
  have W_53 := hide ((unhide W_49).below hb16 (unhide W_49).le)
  clear W_49
  have G_54 := hide ((unhide G_50).below hb16 (unhide G_50).le)
  clear G_50
  have H_55 := hide ((unhide H_51).below hb16 (unhide H_51).le)
  clear H_51
  clear hb16
  go_wp2_with fail
  go_ret
  exact ⟨rfl, (unhide B_52)⟩

set_option maxRecDepth 100000 in
theorem lifted (os : Os) (started : os.Started) (H : Type) (enc : TypeId × Value → H) :
    ReturnsInHanded {} Try.checked os 3 .any (Rows.fnExactLayoutAreasSpec.pre6 enc Try.prog Try.f3 Rows.fnExactLayoutAreasRow.domain false) (Rows.fnExactLayoutAreasSpec.post enc Try.prog Try.f3 false true false false) := by
  refine returnsInHanded_of_change (C := Try.checked) own started (by kernel_rfl) Try.func3
    (ChangeSpec.witness6 (enc := enc) (C := Try.checked) false ⟨#[], #[.agg #[.slice none 0 0], .int .i64 0, .int .i64 0], []⟩ 8 (by kernel_rfl) (by kernel_rfl) (by kernel_rfl) (by kernel_rfl)) ?_
  intro W base args ds gs before hval0 hW hcnd _
  have hval : ∀ (j : Nat) t v, Try.f3.params[j]? = some t → args[j]? = some v → Value.okWide Try.prog W .any base t v := hval0
  have hW' := hW
  obtain ⟨p, q, hA0, hV, rfl, hfz, hnd⟩ := hW
  have hA : DataW.TrodAll enc Try.prog W 0 (fun _ => true) true Try.f3.params.toList args.toList ds p := hA0
  rw [Try.params3] at hA hval
  obtain ⟨v0, vs0, d0, ds0, p0, q0, hargs, rfl, rfl, h0, r0⟩ := trodAll_cons hA
  obtain ⟨v1, vs1, d1, ds1, p1, q1, rfl, rfl, rfl, h1, r1⟩ := trodAll_cons r0
  obtain ⟨v2, vs2, d2, ds2, p2, q2, rfl, rfl, rfl, h2, r2⟩ := trodAll_cons r1
  obtain ⟨rfl, rfl, rfl⟩ := trodAll_nil r2
  obtain rfl : args = #[v0, v1, v2] := by cases args; simp_all
  obtain ⟨rfl, rfl⟩ := trodVars_none hV
  have k0 := h0
  have lt0 : ∀ x ∈ p0, x.block < W.heap.size := by obtain ⟨m, hm⟩ := k0; exact DataW.trod_lt m _ _ _ hm
  have k1 := h1
  have lt1 : ∀ x ∈ p1, x.block < W.heap.size := by obtain ⟨m, hm⟩ := k1; exact DataW.trod_lt m _ _ _ hm
  have k2 := h2
  have lt2 : ∀ x ∈ p2, x.block < W.heap.size := by obtain ⟨m, hm⟩ := k2; exact DataW.trod_lt m _ _ _ hm
  obtain ⟨c0, u0, n0, rfl, z0⟩ := open_agg1 Try.underlying24 (by kernel_rfl) (by kernel_rfl) (hval 0 24 v0 rfl rfl) h0
  obtain ⟨a, len, cap, l, rfl, el, ml, rl⟩ := parts_field Try.underlying22 Try.underlying59 (by kernel_rfl) rfl rfl rfl rfl rfl (by kernel_rfl) (by kernel_rfl) (by kernel_rfl) (by kernel_rfl) (by kernel_rfl) Try.underlying3 Try.underlying4 Try.underlying3 Try.underlying3 Try.underlying3 z0
  obtain ⟨x1, rfl, rfl, rfl, y1⟩ := open_int Try.underlying3 (hval 1 3 v1 rfl rfl) h1
  obtain ⟨x2, rfl, rfl, rfl, y2⟩ := open_int Try.underlying3 (hval 2 3 v2 rfl rfl) h2
  clear hA0 hval0
  refine (walk W a len cap l el ml rl x1 y1 x2 y2).mono fun e W' ⟨he, bel⟩ => ?_
  subst he
  exact ⟨_, rfl, _, _, _, [], _, [], hW', trodAll_mk1 (shut_bool Try.underlying4 _), (trodAll_cons_mk (Below.trod laidOut (by kernel_rfl) (of_decide_eq_true (by kernel_rfl)) k0 bel lt0) (trodAll_cons_mk (Below.trod laidOut (by kernel_rfl) (of_decide_eq_true (by kernel_rfl)) k1 bel lt1) (trodAll_cons_mk (Below.trod laidOut (by kernel_rfl) (of_decide_eq_true (by kernel_rfl)) k2 bel lt2) trodAll_mk0))), rfl, bel.frame _, fun h => by cases h⟩

theorem over : Rows.fnExactLayoutAreasRow.holds Try.pinned (OpenSpec.ofChange Rows.fnExactLayoutAreasSpec) :=
  OpenClaim.holds_of_wide 3 Try.f3 rfl rfl rfl rfl rfl rfl rfl ⟨rfl, rfl, rfl, rfl, rfl⟩ rfl rfl rfl rfl rfl (by kernel_rfl) Try.func3 (by kernel_rfl)
    (of_decide_eq_true (by kernel_rfl)) (by unfold Func.isWrapper; first | (rw [if_pos (by decide +kernel)]; kernel_rfl) | (rw [if_neg (by decide +kernel)]; exact ⟨rfl, rfl⟩))
    (fun os started H enc _ => lifted os started H enc)

theorem proved : Rows.FnExactLayoutAreasSaid := over
#print axioms proved
end Go.Proofs.Ytobcianljbfalaa
