/- At every argument that can be read, with the listed variables as the program text lays them, the law FnExactWriteRecords returns true and leaves its arguments as they were: the tied card. -/
import Derived.Test.YtgbbmonkhakjnaaDoorCards
import Derived.Test.YtgbbmonkhakjnaaDoorTie
import Derived.Test.YtgbbmonkhakjnaaDoorWrAll
import Derived.Test.YtgbbmonkhakjnaaDoorAgg2
import Derived.Test.YtgbbmonkhakjnaaDoorStrO
import Derived.WalkKit
import Derived.ProofKit
import Derived.OpenShut
import Derived.ShutString
import Derived.ChangeOld
import Derived.Below
import Derived.OpenVars
import Derived.LaidMore
import Derived.Lay
import Derived.Stop.Joined
namespace Go.Proofs.YtgbbmonkhakjnaaDoor
open Go.ChangeShapes Go.WideShapes Go.ChangeAt Go.RowKit
open Go.ChangeMaps (open_string shut_string)
set_option linter.unusedVariables false

set_option maxHeartbeats 2000000 in
set_option maxRecDepth 100000 in
theorem walk (w : World) (d0 : ByteArray) (s0 : Int) (wd0 : d0.size ≤ maxLen) (b1 : Option Addr) (lenb1 capb1 : Nat) (m1 : List ByteArray) (em1 : m1.length = lenb1) (mm1 : lenb1 ≤ maxLen) (sm1 : ∀ k (h : k < m1.length), m1[k].size ≤ maxLen) (rm1 : RowV w b1 (cS m1)) (hT : ∃ x0 x1 x2 x3 x4, StE w x0 x1 x2 x3 x4) :
    Calls Tryd.prog 3 #[.agg #[.string d0, .int .i64 s0], .slice b1 lenb1 capb1] w fun e w' => e = .returned (.bool true) ∧ Below w.heap.size w w' := by
  obtain ⟨x0, x1, x2, x3, x4, hE⟩ := hT
  have HE := hide hE
  have HRL := hide rm1
  have HSM := hide sm1
  have HMM := hide mm1
  subst em1
  obtain ⟨d2, s2, c, his⟩ := wr_ex d0 s0 m1
  have HIS := hide his
  have nc : (c != c) = false := by simp
  clear his hE rm1 sm1 mm1
  have B_1 := hide (Go.Joins.below_alloc1 w (.cells #[.string d0, .int .i64 s0] 23))
  have A_2 := hide (BF.new w #[.string d0, .int .i64 s0] 23)
  have T1 := hide (fun w => szStore d0 s0 wd0 w)
  have HD := hide wd0
  clear wd0
  have kA := (unhide A_2).S
  go_enter Tryd.func3, Tryd.ntmps3
  go_wp2_with fail
  refine (unhide T1 _).mono ?_
  rintro e w1 ⟨x, rfl, hb1, hx⟩
  clear kA
  have B_3 := hide ((unhide B_1).trans (hb1.mono (unhide B_1).size))
  clear B_1
  have A_4 := hide ((unhide A_2).below hb1)
  clear A_2
  clear hb1
  clear T1
  rcases hx with rfl | ⟨z, rfl, hz, h7⟩
  · go_wp2_with fail
    go_ret
    exact ⟨rfl, (unhide B_3)⟩
  have hzn : ¬ (z : Int) < 0 := by omega
  clear h7
  go_wp2_with fail
  refine (sizeStr b1 capb1 m1 z hz (unhide HMM) (unhide HSM) _ ((unhide HRL).below (unhide B_3))).mono ?_
  rintro e w2 ⟨x, rfl, hw, hx⟩
  subst hw
  rcases hx with rfl | ⟨hx0, hx1, hx2⟩
  · go_wp2_with fail
    go_ret
    exact ⟨rfl, (unhide B_3)⟩
  have hx3 : ¬ x < 0 := by omega
  have HX1 := hide hx1
  have HX2 := hide hx2
  clear hx1 hx2 HSM HMM hx0
  have kA := (unhide A_4).S
  go_wp2_with fail
  refine (toStore d0 s0 _).mono ?_
  rintro e w3 ⟨rfl, hb3⟩
  clear kA
  have B_5 := hide ((unhide B_3).trans (hb3.mono (unhide B_3).size))
  clear B_3
  have A_6 := hide ((unhide A_4).below hb3)
  clear A_4
  clear hb3
  go_wp2_with fail
  refine (copyString b1 capb1 m1 (unhide HX1) _ ((unhide HRL).below (unhide B_5))).mono ?_
  rintro e w4 ⟨rfl, o4, hb4⟩
  try simp only [World.size_alloc] at o4
  have B_7 := hide ((unhide B_5).trans (hb4.mono (unhide B_5).size))
  clear B_5
  have A_8 := hide ((unhide A_6).below hb4)
  clear A_6
  clear hb4
  have S_9 := hide (row_at o4)
  clear o4
  go_wp2_with fail
  refine (swrecs d0 s0 _ _ m1.length m1 rfl (unhide HX1) HX2 HD d2 s2 c HIS _ (unhide S_9)).mono ?_
  rintro e w5 ⟨rfl, hb5⟩
  have B_10 := hide ((unhide B_7).trans (hb5.mono (unhide B_7).size))
  clear B_7
  have A_11 := hide ((unhide A_8).below hb5)
  clear A_8
  have S_12 := hide ((unhide S_9).below hb5)
  clear S_9
  clear hb5
  clear S_12
  have B_13 := hide ((unhide B_10).alloc (unhide B_10).size (.cells #[.string d2, .int .i64 s2] 27))
  clear B_10
  have A_14 := hide ((unhide A_11).alloc (.cells #[.string d2, .int .i64 s2] 27))
  clear A_11
  have W_15 := hide (BF.new w5 #[.string d2, .int .i64 s2] 27)
  go_wp2_with fail
  refine (copyString b1 capb1 m1 (unhide HX1) _ ((unhide HRL).below (unhide B_13))).mono ?_
  rintro e w6 ⟨rfl, o6, hb6⟩
  try simp only [World.size_alloc] at o6
  have B_16 := hide ((unhide B_13).trans (hb6.mono (unhide B_13).size))
  clear B_13
  have A_17 := hide ((unhide A_14).below hb6)
  clear A_14
  have W_18 := hide ((unhide W_15).below hb6)
  clear W_15
  clear hb6
  have X_19 := hide (row_at o6)
  clear o6
  have kA := (unhide A_17).S
  go_wp2_with fail
  refine (toStore d0 s0 _).mono ?_
  rintro e w7 ⟨rfl, hb7⟩
  clear kA
  have B_20 := hide ((unhide B_16).trans (hb7.mono (unhide B_16).size))
  clear B_16
  have A_21 := hide ((unhide A_17).below hb7)
  clear A_17
  have W_22 := hide ((unhide W_18).below hb7)
  clear W_18
  have X_23 := hide ((unhide X_19).below hb7)
  clear X_19
  clear hb7
  go_wp2_with fail
  refine (iwrecs d0 s0 _ _ m1.length m1 rfl (unhide HX1) HX2 HD d2 s2 c HIS _ ((unhide HE).below (unhide B_20)) (unhide X_23)).mono ?_
  rintro e w8 ⟨rfl, hb8⟩
  have B_24 := hide ((unhide B_20).trans (hb8.mono (unhide B_20).size))
  clear B_20
  have A_25 := hide ((unhide A_21).below hb8)
  clear A_21
  have W_26 := hide ((unhide W_22).below hb8)
  clear W_22
  have X_27 := hide ((unhide X_23).below hb8)
  clear X_23
  clear hb8
  have B_28 := hide ((unhide B_24).alloc (unhide B_24).size (.cells #[.string d2, .int .i64 s2] 27))
  clear B_24
  have A_29 := hide ((unhide A_25).alloc (.cells #[.string d2, .int .i64 s2] 27))
  clear A_25
  have W_30 := hide ((unhide W_26).alloc (.cells #[.string d2, .int .i64 s2] 27))
  clear W_26
  have X_31 := hide ((unhide X_27).below (Go.Joins.below_alloc1 _ (.cells #[.string d2, .int .i64 s2] 27)))
  clear X_27
  have G_32 := hide (BF.new w8 #[.string d2, .int .i64 s2] 27)
  have kW := (unhide W_30).S
  have kG := (unhide G_32).S
  go_wp2_with fail
  refine (eqStore d2 s2 _).mono ?_
  rintro e w9 ⟨rfl, hb9⟩
  clear kW kG
  have B_33 := hide ((unhide B_28).trans (hb9.mono (unhide B_28).size))
  clear B_28
  have A_34 := hide ((unhide A_29).below hb9)
  clear A_29
  have W_35 := hide ((unhide W_30).below hb9)
  clear W_30
  have X_36 := hide ((unhide X_31).below hb9)
  clear X_31
  have G_37 := hide ((unhide G_32).below hb9)
  clear G_32
  clear hb9
  go_wp2_with fail
  refine (copyString b1 capb1 m1 (unhide HX1) _ ((unhide HRL).below (unhide B_33))).mono ?_
  rintro e w10 ⟨rfl, o10, hb10⟩
  try simp only [World.size_alloc] at o10
  have B_38 := hide ((unhide B_33).trans (hb10.mono (unhide B_33).size))
  clear B_33
  have A_39 := hide ((unhide A_34).below hb10)
  clear A_34
  have W_40 := hide ((unhide W_35).below hb10)
  clear W_35
  have X_41 := hide ((unhide X_36).below hb10)
  clear X_36
  have G_42 := hide ((unhide G_37).below hb10)
  clear G_37
  clear hb10
  have Y_43 := hide (row_at o10)
  clear o10
  go_wp2_with fail
  refine (sameString _ _ _ _ m1 (unhide HX1) _ (unhide X_41) (unhide Y_43)).mono ?_
  rintro e w11 ⟨rfl, hb11⟩
  have B_44 := hide ((unhide B_38).trans (hb11.mono (unhide B_38).size))
  clear B_38
  have A_45 := hide ((unhide A_39).below hb11)
  clear A_39
  have W_46 := hide ((unhide W_40).below hb11)
  clear W_40
  have X_47 := hide ((unhide X_41).below hb11)
  clear X_41
  have G_48 := hide ((unhide G_42).below hb11)
  clear G_42
  have Y_49 := hide ((unhide Y_43).below hb11)
  clear Y_43
  clear hb11
  go_wp2_with fail
  go_ret
  exact ⟨rfl, (unhide B_44)⟩

theorem own : ownKnob Tryd.prog.godebug = none := by kernel_rfl
theorem laidOut : laidOutB Tryd.prog = true := by kernel_rfl
theorem door_met (os : Os) (args : Array Value) : laidMetH Tryd.prog Rows.fnExactWriteRecordsRow.laid ((World.doorLaid Tryd.prog 111 os).forCall (fun _ _ => 0) ⟨#[], args, []⟩).memory :=
  laidMetH_of_parts3 (fuel := 8) (laidMet_of_run' 8 (by kernel_rfl) (by kernel_rfl)) (by kernel_rfl) (by kernel_rfl)
set_option maxRecDepth 100000 in
theorem lifted (os : Os) (started : os.Started) (H : Type) (enc : TypeId × Value → H) :
    ReturnsInHanded {} Tryd.checked os 3 .any (fun w args => (Rows.fnExactWriteRecordsSpec.pre enc Tryd.prog Tryd.f3 [] false w args ∧ laidMetH Tryd.prog Rows.fnExactWriteRecordsRow.laid w) ∧ sizedMet enc Tryd.prog Tryd.f3 (OpenSpec.ofChange Rows.fnExactWriteRecordsSpec) false w args)
      (Rows.fnExactWriteRecordsSpec.post enc Tryd.prog Tryd.f3 false true false false) := by
  refine returnsInHanded_of_change_and (C := Tryd.checked) (X := fun w _ => laidMetH Tryd.prog Rows.fnExactWriteRecordsRow.laid w) (fun _ _ _ hh h => h.of_heap hh) own started (by kernel_rfl) Tryd.func3
    (ChangeSpec.witness_shaped (enc := enc) (C := Tryd.checked) (os := os) (X := fun w _ => laidMetH Tryd.prog Rows.fnExactWriteRecordsRow.laid w) false (World.doorLaid Tryd.prog 111 os) #[.agg #[.string ⟨#[]⟩, .int .i64 0], .slice none 0 0] 8 rfl (World.shaped_of_RefB (by kernel_rfl) (by kernel_rfl)) (by kernel_rfl) (by kernel_rfl) (by kernel_rfl) (door_met os _)) ?_
  intro W base args ds gs before hval0 hW _ _ hL _
  have hval : ∀ (j : Nat) t v, Tryd.f3.params[j]? = some t → args[j]? = some v → Value.okWide Tryd.prog W .any base t v := hval0
  have hW' := hW
  obtain ⟨p, q, hA0, hV, rfl, hfz, hnd⟩ := hW
  have hA : DataW.TrodAll enc Tryd.prog W 0 (fun _ => true) true Tryd.f3.params.toList args.toList ds p := hA0
  rw [Tryd.params3] at hA hval
  obtain ⟨v0, vs0, d0, ds0, p0, q0, hargs, rfl, rfl, h0, r0⟩ := trodAll_cons hA
  obtain ⟨v1, vs1, d1, ds1, p1, q1, rfl, rfl, rfl, h1, r1⟩ := trodAll_cons r0
  obtain ⟨rfl, rfl, rfl⟩ := trodAll_nil r1
  obtain rfl : args = #[v0, v1] := by cases args; simp_all
  obtain ⟨g1, g2, g3, g4, g5, rfl⟩ : ∃ d1x d2x d3x d4x d5x, gs = [d1x, d2x, d3x, d4x, d5x] := vars_len5 hV
  have k0 := h0
  have lt0 : ∀ x ∈ p0, x.block < W.heap.size := by obtain ⟨m, hm⟩ := k0; exact DataW.trod_lt m _ _ _ hm
  have k1 := h1
  have lt1 : ∀ x ∈ p1, x.block < W.heap.size := by obtain ⟨m, hm⟩ := k1; exact DataW.trod_lt m _ _ _ hm
  obtain ⟨c0_0, c0_1, u0_0, u0_1, n0, rfl, z0_0, z0_1⟩ := open_agg2 Tryd.underlying23 (by kernel_rfl) (by kernel_rfl) (hval 0 23 v0 rfl rfl) h0
  obtain ⟨d0_, e0_0, -, wd0⟩ := DataW.trod_string Tryd.underlying9 z0_0
  obtain rfl : c0_0 = .string d0_ := by simpa using e0_0
  obtain ⟨s0, e0_1, -, -⟩ := DataW.trod_int Tryd.underlying3 z0_1
  obtain rfl : c0_1 = .int .i64 s0 := by simpa using e0_1
  obtain ⟨b1, lenb1, capb1, rfl⟩ := okWide_slice Tryd.underlying24 (hval 1 24 v1 rfl rfl)
  obtain ⟨m1, em1, mm1, sm1, rm1⟩ : ∃ m : List ByteArray, m.length = lenb1 ∧ lenb1 ≤ maxLen ∧ (∀ k (h : k < m.length), m[k].size ≤ maxLen) ∧ RowV W b1 (cS m) := by
    obtain ⟨fuel, hf⟩ := h1
    obtain ⟨a2, l2, c2, m, e, h1, h2, h3, h4⟩ := strs_fieldO Tryd.underlying24 Tryd.underlying9 (by kernel_rfl) (show DataW.trod _ _ _ _ _ _ fuel _ [_] = _ from hf)
    injection e with e1 e2 e3
    subst e1 e2 e3
    exact ⟨m, h1, h2, h3, h4⟩
  have hT := errs_laidW hL
  clear hA0 hval0
  refine (walk W d0_ s0 wd0 b1 lenb1 capb1 m1 em1 mm1 sm1 rm1 hT).mono fun e W' ⟨he, bel⟩ => ?_
  subst he
  exact ⟨_, rfl, _, _, _, [], _, _, hW', trodAll_mk1 (shut_bool Tryd.underlying4 _), (trodAll_cons_mk (Below.trod laidOut (by kernel_rfl) (of_decide_eq_true (by kernel_rfl)) k0 bel lt0) (trodAll_cons_mk (Below.trod laidOut (by kernel_rfl) (of_decide_eq_true (by kernel_rfl)) k1 bel lt1) trodAll_mk0)), Below.trodVars laidOut bel (by kernel_rfl) hV, bel.frame _, fun h => by cases h⟩

theorem said : Rows.FnExactWriteRecordsSaid :=
  OpenClaim.holds_of_wide 3 Tryd.f3 rfl rfl rfl rfl rfl rfl rfl ⟨rfl, rfl, rfl, rfl, rfl⟩ rfl rfl rfl rfl rfl (by kernel_rfl) Tryd.func3 (by kernel_rfl)
    (of_decide_eq_true (by kernel_rfl)) (by unfold Func.isWrapper; first | (rw [if_pos (by decide +kernel)]; kernel_rfl) | (rw [if_neg (by decide +kernel)]; exact ⟨rfl, rfl⟩))
    (fun os started H enc _ => lifted os started H enc)

theorem card : Rows.FnExactWriteRecordsCardSaid :=
  Claim7.holds_tied_plain_at .later [] _ _ _ _ said (fun _ h => by cases h) (by kernel_rfl) (fun _ h => by cases h) fnExactWriteRecords_row_tie rfl ⟨rfl, rfl⟩ (by kernel_rfl) rfl
    (fun f fn hf hfn => by
      obtain rfl : f = 3 := Option.some.inj ((show Tryd.prog.funcNamed Tryd.f3.name = some 3 by kernel_rfl).symm.trans hf) |>.symm
      obtain rfl : fn = Tryd.f3 := (Option.some.inj (Tryd.func3.symm.trans hfn)).symm
      exact ⟨by kernel_rfl, fun j t ht => by
        rw [Tryd.params3] at ht
        have hm : t ∈ [23, 24] := by simpa using Array.mem_of_getElem? ht
        have hall : ([23, 24].all fun u => !Tryd.prog.wantsStandIn u) = true := by kernel_rfl
        exact (show Tryd.prog.wantsStandIn t = false by simpa using List.all_eq_true.1 hall t hm)⟩)
    (by kernel_rfl)
#print axioms card
end Go.Proofs.YtgbbmonkhakjnaaDoor
