/- At every argument that can be read, with the listed variables as the program text lays them, the law FnExactNewClient returns true and leaves its arguments as they were: the tied card. -/
import Derived.Test.YtcgklaplofnemaaDoorCards
import Derived.Test.YtcgklaplofnemaaDoorTie
import Derived.Test.YtcgklaplofnemaaDoorZG48
import Derived.WalkKit
import Derived.ProofKit
import Derived.OpenShut
import Derived.ShutString
import Derived.ChangeOld
import Derived.Below
import Derived.OpenVars
import Derived.LaidMore
import Derived.Lay
import Derived.Stop.Joined
namespace Go.Proofs.YtcgklaplofnemaaDoor
open Go.ChangeShapes Go.WideShapes Go.ChangeAt Go.RowKit
open Go.ChangeMaps (open_string shut_string)
set_option linter.unusedVariables false

set_option maxHeartbeats 4000000 in
set_option maxRecDepth 100000 in
theorem walk (w : World) (a0 : ByteArray) (w0 : a0.size ≤ maxLen) (a1 : Int) (w1 : (Lit.int .i64 a1).wf = true) (a2 : ByteArray) (w2 : a2.size ≤ maxLen) (hT : PowIn w ∧ KIn w) :
    Calls Tryd.prog 3 #[.string a0, .int .i64 a1, .string a2] w fun e w' => e = .returned (.bool true) ∧ Below w.heap.size w w' := by
  by_cases big0 : 1048576 < a0.size
  · clear hT
    go_enter Tryd.func3, Tryd.ntmps3
    go_wp2_with fail
    go_ret
    exact ⟨rfl, Below.refl _ _⟩
  by_cases big2 : 1048576 < a2.size
  · clear hT
    go_enter Tryd.func3, Tryd.ntmps3
    go_wp2_with fail
    go_ret
    exact ⟨rfl, Below.refl _ _⟩
  have HS0 : Hid (a0.size ≤ 1048576) := by show _ ≤ _; omega
  have HS2 : Hid (a2.size ≤ 1048576) := by show _ ≤ _; omega
  have HP := hide hT.1
  have HK := hide hT.2
  clear hT w0 w1 w2
  obtain ⟨id2, win2, S, nb2, q, his⟩ := nc_ex a0 a1 a2
  have HIS := hide his
  have nq : (q != q) = false := by simp
  have HE : Hid (([] : List ByteArray).length = 0) := rfl
  have HQ : Hid ((1 : Int) = ((1 + 0 : Nat) : Int)) := rfl
  clear his
  have B_1 := hide (Below.refl w.heap.size w)
  go_enter Tryd.func3, Tryd.ntmps3
  go_wp2_with fail
  refine (snewcl a0 a1 a2 HS0 HS2 id2 win2 S nb2 q HIS _).mono ?_
  rintro e w1 ⟨vW, rfl, hoW, hb1⟩
  have z1 : w.heap.size ≤ w1.heap.size := by have := hb1.size; (try simp at this); omega
  have B_2 := hide ((unhide B_1).trans (hb1.mono (unhide B_1).size))
  clear B_1
  clear hb1
  obtain ⟨aW, cW, rfl, -⟩ := own_rowV hoW
  have W_3 := hide (held_of hoW)
  clear hoW
  try simp only [World.size_alloc] at W_3
  have B_4 := hide ((unhide B_2).alloc (unhide B_2).size (.cells #[.int .i64 id2, .string win2, .string S, .int .i64 nb2, .int .i64 0, .int .i64 0, .slice aW 0 cW] 26))
  clear B_2
  have W_5 := hide ((unhide W_3).below (Go.Joins.below_alloc1 _ (.cells #[.int .i64 id2, .string win2, .string S, .int .i64 nb2, .int .i64 0, .int .i64 0, .slice aW 0 cW] 26)) (unhide W_3).le)
  clear W_3
  have bW_6 := hide (BF.new w1 #[.int .i64 id2, .string win2, .string S, .int .i64 nb2, .int .i64 0, .int .i64 0, .slice aW 0 cW] 26)
  go_wp2_with fail
  refine (inewcl a0 a1 a2 HS0 HS2 id2 win2 S nb2 q HIS _ ((unhide HP).below (unhide B_4) (unhide HP).pos) ((unhide HK).below (unhide B_4) (unhide HK).pos)).mono ?_
  rintro e w2 ⟨vG, rfl, hoG, hb2⟩
  have z2 : w1.heap.size + 1 ≤ w2.heap.size := by have := hb2.size; (try simp at this); omega
  have B_7 := hide ((unhide B_4).trans (hb2.mono (unhide B_4).size))
  clear B_4
  have W_8 := hide ((unhide W_5).below hb2 (unhide W_5).le)
  clear W_5
  have bW_9 := hide ((unhide bW_6).below hb2)
  clear bW_6
  clear hb2
  obtain ⟨aG, cG, rfl, -⟩ := own_rowV hoG
  have G_10 := hide (held_of hoG)
  clear hoG
  try simp only [World.size_alloc] at G_10
  have B_11 := hide ((unhide B_7).alloc (unhide B_7).size (.cells #[.int .i64 id2, .string win2, .string S, .int .i64 nb2, .int .i64 0, .int .i64 0, .slice aG 0 cG] 26))
  clear B_7
  have W_12 := hide ((unhide W_8).below (Go.Joins.below_alloc1 _ (.cells #[.int .i64 id2, .string win2, .string S, .int .i64 nb2, .int .i64 0, .int .i64 0, .slice aG 0 cG] 26)) (unhide W_8).le)
  clear W_8
  have bW_13 := hide ((unhide bW_9).alloc (.cells #[.int .i64 id2, .string win2, .string S, .int .i64 nb2, .int .i64 0, .int .i64 0, .slice aG 0 cG] 26))
  clear bW_9
  have G_14 := hide ((unhide G_10).below (Go.Joins.below_alloc1 _ (.cells #[.int .i64 id2, .string win2, .string S, .int .i64 nb2, .int .i64 0, .int .i64 0, .slice aG 0 cG] 26)) (unhide G_10).le)
  clear G_10
  have bG_15 := hide (BF.new w2 #[.int .i64 id2, .string win2, .string S, .int .i64 nb2, .int .i64 0, .int .i64 0, .slice aG 0 cG] 26)
  have kbG := (unhide bG_15).S
  have kbW := (unhide bW_13).S
  go_wp2_with fail
  refine (eqCl id2 win2 S nb2 0 0 aG aW cG cW 0 [] HE (by decide) _ (unhide G_14).rowV (unhide W_12).rowV).mono ?_
  rintro e w3 ⟨rfl, hb3⟩
  clear kbG kbW
  have B_16 := hide ((unhide B_11).trans (hb3.mono (unhide B_11).size))
  clear B_11
  have W_17 := hide ((unhide W_12).below hb3 (unhide W_12).le)
  clear W_12
  have bW_18 := hide ((unhide bW_13).below hb3)
  clear bW_13
  have G_19 := hide ((unhide G_14).below hb3 (unhide G_14).le)
  clear G_14
  have bG_20 := hide ((unhide bG_15).below hb3)
  clear bG_15
  clear hb3
  have kbG := (unhide bG_20).S
  go_wp2_with fail
  refine (markCl id2 win2 S nb2 0 0 _ 0 _ _ _ 1 1 HQ _ (by decide) (by decide) (by decide) _ (unhide G_19)).mono ?_
  rintro e w4 ⟨rfl, h4, hg4⟩
  clear kbG
  have B_21 := hide (Below.marked (unhide B_16) (unhide B_16).size (unhide G_19) (by omega) hg4)
  clear B_16
  have W_22 := hide ((unhide W_17).grown hg4 (fun k hk => by have := (unhide G_19).blk k hk; omega))
  clear W_17
  have bW_23 := hide ((unhide bW_18).grown hg4 (fun hk => by have := (unhide G_19).blk _ hk; omega))
  clear bW_18
  have bG_24 := hide ((unhide bG_20).grown hg4 (fun hk => by have := (unhide G_19).blk _ hk; omega))
  clear bG_20
  have G_m4 := hide h4
  clear h4 hg4 G_19
  have kbG := (unhide bG_24).S
  go_wp2_with fail
  refine (heldCl id2 win2 S nb2 0 0 _ 0 _ _ _ 1 1 HQ (by decide) (by decide) (by decide) _ (unhide G_m4)).mono ?_
  rintro e w5 ⟨rfl, hb5⟩
  clear kbG
  have B_25 := hide ((unhide B_21).trans (hb5.mono (unhide B_21).size))
  clear B_21
  have W_26 := hide ((unhide W_22).below hb5 (unhide W_22).le)
  clear W_22
  have bW_27 := hide ((unhide bW_23).below hb5)
  clear bW_23
  have bG_28 := hide ((unhide bG_24).below hb5)
  clear bG_24
  have G_29 := hide ((unhide G_m4).below hb5 (unhide G_m4).le)
  clear G_m4
  clear hb5
  go_wp2_with fail
  refine (inewcl a0 a1 a2 HS0 HS2 id2 win2 S nb2 q HIS _ ((unhide HP).below (unhide B_25) (unhide HP).pos) ((unhide HK).below (unhide B_25) (unhide HK).pos)).mono ?_
  rintro e w6 ⟨vH, rfl, hoH, hb6⟩
  have B_30 := hide ((unhide B_25).trans (hb6.mono (unhide B_25).size))
  clear B_25
  have W_31 := hide ((unhide W_26).below hb6 (unhide W_26).le)
  clear W_26
  have bW_32 := hide ((unhide bW_27).below hb6)
  clear bW_27
  have bG_33 := hide ((unhide bG_28).below hb6)
  clear bG_28
  have G_34 := hide ((unhide G_29).below hb6 (unhide G_29).le)
  clear G_29
  clear hb6
  obtain ⟨aH, cH, rfl, -⟩ := own_rowV hoH
  have H_35 := hide (held_of hoH)
  clear hoH
  try simp only [World.size_alloc] at H_35
  have B_36 := hide ((unhide B_30).alloc (unhide B_30).size (.cells #[.int .i64 id2, .string win2, .string S, .int .i64 nb2, .int .i64 0, .int .i64 0, .slice aH 0 cH] 26))
  clear B_30
  have W_37 := hide ((unhide W_31).below (Go.Joins.below_alloc1 _ (.cells #[.int .i64 id2, .string win2, .string S, .int .i64 nb2, .int .i64 0, .int .i64 0, .slice aH 0 cH] 26)) (unhide W_31).le)
  clear W_31
  have bW_38 := hide ((unhide bW_32).alloc (.cells #[.int .i64 id2, .string win2, .string S, .int .i64 nb2, .int .i64 0, .int .i64 0, .slice aH 0 cH] 26))
  clear bW_32
  have bG_39 := hide ((unhide bG_33).alloc (.cells #[.int .i64 id2, .string win2, .string S, .int .i64 nb2, .int .i64 0, .int .i64 0, .slice aH 0 cH] 26))
  clear bG_33
  have G_40 := hide ((unhide G_34).below (Go.Joins.below_alloc1 _ (.cells #[.int .i64 id2, .string win2, .string S, .int .i64 nb2, .int .i64 0, .int .i64 0, .slice aH 0 cH] 26)) (unhide G_34).le)
  clear G_34
  have H_41 := hide ((unhide H_35).below (Go.Joins.below_alloc1 _ (.cells #[.int .i64 id2, .string win2, .string S, .int .i64 nb2, .int .i64 0, .int .i64 0, .slice aH 0 cH] 26)) (unhide H_35).le)
  clear H_35
  have bH_42 := hide (BF.new w6 #[.int .i64 id2, .string win2, .string S, .int .i64 nb2, .int .i64 0, .int .i64 0, .slice aH 0 cH] 26)
  have kbH := (unhide bH_42).S
  have kbW := (unhide bW_38).S
  go_wp2_with fail
  refine (eqCl id2 win2 S nb2 0 0 aH aW cH cW 0 [] HE (by decide) _ (unhide H_41).rowV (unhide W_37).rowV).mono ?_
  rintro e w7 ⟨rfl, hb7⟩
  clear kbH kbW
  have B_43 := hide ((unhide B_36).trans (hb7.mono (unhide B_36).size))
  clear B_36
  have W_44 := hide ((unhide W_37).below hb7 (unhide W_37).le)
  clear W_37
  have bW_45 := hide ((unhide bW_38).below hb7)
  clear bW_38
  have bG_46 := hide ((unhide bG_39).below hb7)
  clear bG_39
  have G_47 := hide ((unhide G_40).below hb7 (unhide G_40).le)
  clear G_40
  have H_48 := hide ((unhide H_41).below hb7 (unhide H_41).le)
  clear H_41
  have bH_49 := hide ((unhide bH_42).below hb7)
  clear bH_42
  clear hb7
  have kbG := (unhide bG_46).S
  go_wp2_with fail
  refine (heldCl id2 win2 S nb2 0 0 _ 0 _ _ _ 1 1 HQ (by decide) (by decide) (by decide) _ (unhide G_47)).mono ?_
  rintro e w8 ⟨rfl, hb8⟩
  clear kbG
  have B_50 := hide ((unhide B_43).trans (hb8.mono (unhide B_43).size))
  clear B_43
  have W_51 := hide ((unhide W_44).below hb8 (unhide W_44).le)
  clear W_44
  have bW_52 := hide ((unhide bW_45).below hb8)
  clear bW_45
  have bG_53 := hide ((unhide bG_46).below hb8)
  clear bG_46
  have G_54 := hide ((unhide G_47).below hb8 (unhide G_47).le)
  clear G_47
  have H_55 := hide ((unhide H_48).below hb8 (unhide H_48).le)
  clear H_48
  have bH_56 := hide ((unhide bH_49).below hb8)
  clear bH_49
  clear hb8
  go_wp2_with fail
  go_ret
  exact ⟨rfl, (unhide B_50)⟩

theorem own : ownKnob Tryd.prog.godebug = none := by kernel_rfl
theorem laidOut : laidOutB Tryd.prog = true := by kernel_rfl
set_option maxRecDepth 100000 in
theorem lifted (os : Os) (started : os.Started) (H : Type) (enc : TypeId × Value → H) :
    ReturnsInHanded {} Tryd.checked os 3 .any (fun w args => (Rows.fnExactNewClientSpec.pre enc Tryd.prog Tryd.f3 [] false w args ∧ laidMetH Tryd.prog Rows.fnExactNewClientRow.laid w) ∧ sizedMet enc Tryd.prog Tryd.f3 (OpenSpec.ofChange Rows.fnExactNewClientSpec) false w args)
      (Rows.fnExactNewClientSpec.post enc Tryd.prog Tryd.f3 false true false false) := by
  refine returnsInHanded_of_change_and (C := Tryd.checked) (X := fun w _ => laidMetH Tryd.prog Rows.fnExactNewClientRow.laid w) (fun _ _ _ hh h => h.of_heap hh) own started (by kernel_rfl) Tryd.func3
    (ChangeSpec.witness_shaped (enc := enc) (C := Tryd.checked) (os := os) (X := fun w _ => laidMetH Tryd.prog Rows.fnExactNewClientRow.laid w) false (World.laidAll Tryd.prog os Rows.fnExactNewClientRow.laid) #[.string ByteArray.empty, .int .i64 0, .string ByteArray.empty] 8 (World.laidAll_os _ _ _) (World.shaped_of_ZipB (by kernel_rfl) (by kernel_rfl)) (by kernel_rfl) (by kernel_rfl) (by kernel_rfl) (by rw [MakeChecks.laidMetH_plain _ _ _ (by kernel_rfl)]; exact laidMet_laidAll _ (by kernel_rfl) (by kernel_rfl))) ?_
  intro W base args ds gs before hval0 hW _ _ hL _
  have hval : ∀ (j : Nat) t v, Tryd.f3.params[j]? = some t → args[j]? = some v → Value.okWide Tryd.prog W .any base t v := hval0
  have hW' := hW
  obtain ⟨p, q, hA0, hV, rfl, hfz, hnd⟩ := hW
  have hA : DataW.TrodAll enc Tryd.prog W 0 (fun _ => true) true Tryd.f3.params.toList args.toList ds p := hA0
  rw [Tryd.params3] at hA hval
  obtain ⟨v0, vs0, d0, ds0, p0, q0, hargs, rfl, rfl, h0, r0⟩ := trodAll_cons hA
  obtain ⟨v1, vs1, d1, ds1, p1, q1, rfl, rfl, rfl, h1, r1⟩ := trodAll_cons r0
  obtain ⟨v2, vs2, d2, ds2, p2, q2, rfl, rfl, rfl, h2, r2⟩ := trodAll_cons r1
  obtain ⟨rfl, rfl, rfl⟩ := trodAll_nil r2
  obtain rfl : args = #[v0, v1, v2] := by cases args; simp_all
  obtain ⟨g1, rfl⟩ : ∃ d, gs = [d] := by
    obtain ⟨_, _, _, _, d, _, e, _⟩ := trodVars_one hV
    exact ⟨d, e⟩
  have k0 := h0
  have lt0 : ∀ x ∈ p0, x.block < W.heap.size := by obtain ⟨m, hm⟩ := k0; exact DataW.trod_lt m _ _ _ hm
  have k1 := h1
  have lt1 : ∀ x ∈ p1, x.block < W.heap.size := by obtain ⟨m, hm⟩ := k1; exact DataW.trod_lt m _ _ _ hm
  have k2 := h2
  have lt2 : ∀ x ∈ p2, x.block < W.heap.size := by obtain ⟨m, hm⟩ := k2; exact DataW.trod_lt m _ _ _ hm
  obtain ⟨a0, rfl, rfl, rfl, w0⟩ := open_string Tryd.underlying9 (hval 0 9 v0 rfl rfl) h0
  obtain ⟨a1, rfl, rfl, rfl, w1⟩ := open_int Tryd.underlying3 (hval 1 3 v1 rfl rfl) h1
  obtain ⟨a2, rfl, rfl, rfl, w2⟩ := open_string Tryd.underlying9 (hval 2 9 v2 rfl rfl) h2
  have hT := tok_laid_FnExactNewClient hL
  clear hA0 hval0
  refine (walk W a0 w0 a1 w1 a2 w2 hT).mono fun e W' ⟨he, bel⟩ => ?_
  subst he
  exact ⟨_, rfl, _, _, _, [], _, _, hW', trodAll_mk1 (shut_bool Tryd.underlying4 _), (trodAll_cons_mk (Below.trod laidOut (by kernel_rfl) (of_decide_eq_true (by kernel_rfl)) k0 bel lt0) (trodAll_cons_mk (Below.trod laidOut (by kernel_rfl) (of_decide_eq_true (by kernel_rfl)) k1 bel lt1) (trodAll_cons_mk (Below.trod laidOut (by kernel_rfl) (of_decide_eq_true (by kernel_rfl)) k2 bel lt2) trodAll_mk0))), Below.trodVars laidOut bel (by kernel_rfl) hV, bel.frame _, fun h => by cases h⟩

theorem said : Rows.FnExactNewClientSaid :=
  OpenClaim.holds_of_wide 3 Tryd.f3 rfl rfl rfl rfl rfl rfl rfl ⟨rfl, rfl, rfl, rfl, rfl⟩ rfl rfl rfl rfl rfl (by kernel_rfl) Tryd.func3 (by kernel_rfl)
    (of_decide_eq_true (by kernel_rfl)) (by unfold Func.isWrapper; first | (rw [if_pos (by decide +kernel)]; kernel_rfl) | (rw [if_neg (by decide +kernel)]; exact ⟨rfl, rfl⟩))
    (fun os started H enc _ => lifted os started H enc)

theorem card : Rows.FnExactNewClientCardSaid :=
  Claim7.holds_tied_plain_at .later [] _ _ _ _ said (fun _ h => by cases h) (by kernel_rfl) (fun _ h => by cases h) fnExactNewClient_row_tie rfl ⟨rfl, rfl⟩ (by kernel_rfl) rfl
    (fun f fn hf hfn => by
      obtain rfl : f = 3 := Option.some.inj ((show Tryd.prog.funcNamed Tryd.f3.name = some 3 by kernel_rfl).symm.trans hf) |>.symm
      obtain rfl : fn = Tryd.f3 := (Option.some.inj (Tryd.func3.symm.trans hfn)).symm
      exact ⟨by kernel_rfl, fun j t ht => by
        rw [Tryd.params3] at ht
        have hm : t ∈ [9, 3, 9] := by simpa using Array.mem_of_getElem? ht
        have hall : ([9, 3, 9].all fun u => !Tryd.prog.wantsStandIn u) = true := by kernel_rfl
        exact (show Tryd.prog.wantsStandIn t = false by simpa using List.all_eq_true.1 hall t hm)⟩)
    (by kernel_rfl)
#print axioms card
end Go.Proofs.YtcgklaplofnemaaDoor
