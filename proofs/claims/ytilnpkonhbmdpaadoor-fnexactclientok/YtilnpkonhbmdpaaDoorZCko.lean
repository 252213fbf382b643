/- At every argument that can be read, with the listed variables as the program text lays them, the law FnExactClientOK returns true and leaves its arguments as they were: the tied card. -/
import Derived.Test.YtilnpkonhbmdpaaDoorCards
import Derived.Test.YtilnpkonhbmdpaaDoorTie
import Derived.Test.YtilnpkonhbmdpaaDoorZG47
import Derived.Test.YtilnpkonhbmdpaaDoorZG48
import Derived.WalkKit
import Derived.ProofKit
import Derived.OpenShut
import Derived.ShutString
import Derived.ChangeOld
import Derived.Below
import Derived.OpenVars
import Derived.LaidMore
import Derived.Lay
import Derived.Stop.Joined
namespace Go.Proofs.YtilnpkonhbmdpaaDoor
open Go.ChangeShapes Go.WideShapes Go.ChangeAt Go.RowKit
open Go.ChangeMaps (open_string shut_string)
set_option linter.unusedVariables false

set_option maxHeartbeats 4000000 in
set_option maxRecDepth 100000 in
theorem walk (w : World) (a0 : ByteArray) (w0 : a0.size ≤ maxLen) (id : Int) (win tok : ByteArray) (nb vw vh : Int) (a : Option Addr) (n cap : Nat) (l : List ByteArray) (ww : win.size ≤ maxLen) (wk : tok.size ≤ maxLen) (ql : l.length = n) (ml : n ≤ maxLen) (sl : ∀ k (h : k < l.length), l[k].size ≤ maxLen) (rl : RowV w a (cS l)) (hT : PowIn w ∧ KIn w) :
    Calls Tryd.prog 3 #[.string a0, .agg #[.int .i64 id, .string win, .string tok, .int .i64 nb, .int .i64 vw, .int .i64 vh, .slice a n cap]] w fun e w' => e = .returned (.bool true) ∧ Below w.heap.size w w' := by
  have HWW := hide ww
  have HWK := hide wk
  have HP := hide hT.1
  have HK := hide hT.2
  clear hT ww wk w0
  obtain ⟨R, hR⟩ : ∃ R, R = clB a0 id win tok nb vw vh l := ⟨_, rfl⟩
  have HRR := hide hR
  have nR : (R != R) = false := by simp
  clear hR
  have HN := hide ql
  clear ql
  have HM := hide ml
  clear ml
  have HR := hide rl
  clear rl
  have HS := hide sl
  clear sl
  have B_1 := hide (Go.Joins.below_alloc1 w (.cells #[.int .i64 id, .string win, .string tok, .int .i64 nb, .int .i64 vw, .int .i64 vh, .slice a n cap] 26))
  have A_2 := hide (BF.new w #[.int .i64 id, .string win, .string tok, .int .i64 nb, .int .i64 vw, .int .i64 vh, .slice a n cap] 26)
  by_cases big0 : 1048576 < a0.size
  · have c0 : (1048576 : Int) < (a0.size : Int) := by omega
    go_enter Tryd.func3, Tryd.ntmps3
    go_wp2_with fail
    go_ret
    exact ⟨rfl, (unhide B_1)⟩
  have c0 : ¬ (1048576 : Int) < (a0.size : Int) := by omega
  have HKS : Hid (a0.size ≤ 1048576) := by show _ ≤ _; omega
  clear big0
  go_enter Tryd.func3, Tryd.ntmps3
  have kA := (unhide A_2).S
  go_wp2_with fail
  refine (szCl id win tok nb vw vh a cap n l HN (unhide HWW) (unhide HWK) 1048576 (Nat.le_refl _) HM HS _ ((unhide HR).below (unhide B_1))).mono ?_
  rintro e w1 ⟨x, rfl, hb1, hx⟩
  clear kA
  have B_3 := hide ((unhide B_1).trans (hb1.mono (unhide B_1).size))
  clear B_1
  have A_4 := hide ((unhide A_2).below hb1)
  clear A_2
  clear hb1
  rcases hx with rfl | ⟨z, rfl, hz, hl, hs, hsw, hst⟩
  · go_wp2_with fail
    go_ret
    exact ⟨rfl, (unhide B_3)⟩
  have hzn : ¬ (z : Int) < 0 := by omega
  have HSZ := hide hs
  have HL := hide hl
  have HY := hide hz
  have HWS := hide hsw
  have HTS := hide hst
  clear hs HM HS hl hz hsw hst
  have kA := (unhide A_4).S
  go_wp2_with fail
  refine (toCl id win tok nb vw vh a cap n l HN (unhide HL) _ ((unhide HR).below (unhide B_3))).mono ?_
  rintro e w2 ⟨g2, rfl, o2, hb2⟩
  clear kA
  have B_5 := hide ((unhide B_3).trans (hb2.mono (unhide B_3).size))
  clear B_3
  have A_6 := hide ((unhide A_4).below hb2)
  clear A_4
  clear hb2
  have S_7 := hide (held_of o2)
  clear o2
  try simp only [World.size_alloc] at S_7
  go_wp2_with fail
  refine (scliok a0 id win tok nb vw vh _ _ n l HN (unhide HL) HSZ HKS HWS R HRR _ (unhide S_7).rowV).mono ?_
  rintro e w3 ⟨rfl, hb3⟩
  have B_8 := hide ((unhide B_5).trans (hb3.mono (unhide B_5).size))
  clear B_5
  have A_9 := hide ((unhide A_6).below hb3)
  clear A_6
  have S_10 := hide ((unhide S_7).below hb3 (unhide S_7).le)
  clear S_7
  clear hb3
  clear S_10
  have kA := (unhide A_9).S
  go_wp2_with fail
  refine (toCl id win tok nb vw vh a cap n l HN (unhide HL) _ ((unhide HR).below (unhide B_8))).mono ?_
  rintro e w4 ⟨g4, rfl, o4, hb4⟩
  clear kA
  have B_11 := hide ((unhide B_8).trans (hb4.mono (unhide B_8).size))
  clear B_8
  have A_12 := hide ((unhide A_9).below hb4)
  clear A_9
  clear hb4
  have XR_13 := hide (held_of o4)
  clear o4
  try simp only [World.size_alloc] at XR_13
  have B_14 := hide ((unhide B_11).alloc (unhide B_11).size (.cells #[.int .i64 id, .string win, .string tok, .int .i64 nb, .int .i64 vw, .int .i64 vh, .slice (some ⟨g4, 0, none⟩) n n] 31))
  clear B_11
  have A_15 := hide ((unhide A_12).alloc (.cells #[.int .i64 id, .string win, .string tok, .int .i64 nb, .int .i64 vw, .int .i64 vh, .slice (some ⟨g4, 0, none⟩) n n] 31))
  clear A_12
  have XR_16 := hide ((unhide XR_13).below (Go.Joins.below_alloc1 _ (.cells #[.int .i64 id, .string win, .string tok, .int .i64 nb, .int .i64 vw, .int .i64 vh, .slice (some ⟨g4, 0, none⟩) n n] 31)) (unhide XR_13).le)
  clear XR_13
  have X_17 := hide (BF.new w4 #[.int .i64 id, .string win, .string tok, .int .i64 nb, .int .i64 vw, .int .i64 vh, .slice (some ⟨g4, 0, none⟩) n n] 31)
  have kX := (unhide X_17).S
  go_wp2_with fail
  refine (icliok a0 id win tok nb vw vh _ _ n l HN (unhide HL) HSZ HKS HWS R HRR _ (unhide XR_16).rowV ((unhide HP).below (unhide B_14) (unhide HP).pos) ((unhide HK).below (unhide B_14) (unhide HK).pos)).mono ?_
  rintro e w5 ⟨rfl, hb5⟩
  clear kX
  have B_18 := hide ((unhide B_14).trans (hb5.mono (unhide B_14).size))
  clear B_14
  have A_19 := hide ((unhide A_15).below hb5)
  clear A_15
  have XR_20 := hide ((unhide XR_16).below hb5 (unhide XR_16).le)
  clear XR_16
  have X_21 := hide ((unhide X_17).below hb5)
  clear X_17
  clear hb5
  have K6 := And.intro (unhide A_19).S (unhide X_21).S
  have HU6 := hide (unhide XR_20).rowV
  have LA : w.heap.size < _ := (unhide A_19).lt
  have LX : w4.heap.size < _ := (unhide X_21).lt
  go_wp2_with fail
  go_region_held3 (fun w' => (∀ o, w'.cell? ⟨w.heap.size, o, none⟩ = (#[.int .i64 id, .string win, .string tok, .int .i64 nb, .int .i64 vw, .int .i64 vh, .slice a n cap] : Array Value)[o]?) ∧ (∀ o, w'.cell? ⟨w4.heap.size, o, none⟩ = (#[.int .i64 id, .string win, .string tok, .int .i64 nb, .int .i64 vw, .int .i64 vh, .slice (some ⟨g4, 0, none⟩) n n] : Array Value)[o]?)) (first | exact K6 | exact K7 | exact K8) (first | (go_at_call 6; refine (toCl id win tok nb vw vh a cap n l HN (unhide HL) _ ((unhide HR).below (unhide B_18).drew)).mono ?_; rintro e w7 ⟨g7, rfl, o7, hb7⟩; have K7 := And.intro (fun o => (hb7.cell (p := ⟨w.heap.size, o, none⟩) LA).trans (K6.1 o)) (fun o => (hb7.cell (p := ⟨w4.heap.size, o, none⟩) LX).trans (K6.2 o)); have HO7 := hide (rowZ_at o7); have HU7 := hide ((unhide HU6).below (below_undrew hb7)); have HT7 := hide (below_undrew hb7); have LA7 := Nat.lt_of_lt_of_le LA (unhide HT7).size; have LX7 := Nat.lt_of_lt_of_le LX (unhide HT7).size; clear o7 hb7) | (go_at_call 8; refine (eqCl id win tok nb vw vh _ _ _ _ n l HN (unhide HL) _ (unhide HU7) (unhide HO7)).mono ?_; rintro e w8 ⟨rfl, hb8⟩; have K8 := And.intro (fun o => (hb8.cell (p := ⟨w.heap.size, o, none⟩) LA7).trans (K7.1 o)) (fun o => (hb8.cell (p := ⟨w4.heap.size, o, none⟩) LX7).trans (K7.2 o)); have HT8 := hide ((unhide HT7).trans (hb8.mono (unhide HT7).size)); clear hb8))
  clear K6 K7 K8 HO7 HU6 HU7 HT7 LA LX LA7 LX7
  have B_22 := hide ((unhide B_18).trans ((unhide HT8).mono (unhide B_18).size))
  clear B_18
  have A_23 := hide ((unhide A_19).below (unhide HT8))
  clear A_19
  have XR_24 := hide ((unhide XR_20).below (unhide HT8) (unhide XR_20).le)
  clear XR_20
  have X_25 := hide ((unhide X_21).below (unhide HT8))
  clear X_21
  clear HT8
  go_wp2_with fail
  go_ret
  exact ⟨rfl, (unhide B_22)⟩

theorem own : ownKnob Tryd.prog.godebug = none := by kernel_rfl
theorem laidOut : laidOutB Tryd.prog = true := by kernel_rfl
set_option maxRecDepth 100000 in
theorem lifted (os : Os) (started : os.Started) (H : Type) (enc : TypeId × Value → H) :
    ReturnsInHanded {} Tryd.checked os 3 .any (fun w args => (Rows.fnExactClientOKSpec.pre enc Tryd.prog Tryd.f3 [] false w args ∧ laidMetH Tryd.prog Rows.fnExactClientOKRow.laid w) ∧ sizedMet enc Tryd.prog Tryd.f3 (OpenSpec.ofChange Rows.fnExactClientOKSpec) false w args)
      (Rows.fnExactClientOKSpec.post enc Tryd.prog Tryd.f3 false true false false) := by
  refine returnsInHanded_of_change_and (C := Tryd.checked) (X := fun w _ => laidMetH Tryd.prog Rows.fnExactClientOKRow.laid w) (fun _ _ _ hh h => h.of_heap hh) own started (by kernel_rfl) Tryd.func3
    (ChangeSpec.witness_shaped (enc := enc) (C := Tryd.checked) (os := os) (X := fun w _ => laidMetH Tryd.prog Rows.fnExactClientOKRow.laid w) false (World.laidAll Tryd.prog os Rows.fnExactClientOKRow.laid) #[.string ByteArray.empty, .agg #[.int .i64 0, .string ⟨#[]⟩, .string ⟨#[]⟩, .int .i64 0, .int .i64 0, .int .i64 0, .slice none 0 0]] 8 (World.laidAll_os _ _ _) (World.shaped_of_ZipB (by kernel_rfl) (by kernel_rfl)) (by kernel_rfl) (by kernel_rfl) (by kernel_rfl) (by rw [MakeChecks.laidMetH_plain _ _ _ (by kernel_rfl)]; exact laidMet_laidAll _ (by kernel_rfl) (by kernel_rfl))) ?_
  intro W base args ds gs before hval0 hW _ _ hL _
  have hval : ∀ (j : Nat) t v, Tryd.f3.params[j]? = some t → args[j]? = some v → Value.okWide Tryd.prog W .any base t v := hval0
  have hW' := hW
  obtain ⟨p, q, hA0, hV, rfl, hfz, hnd⟩ := hW
  have hA : DataW.TrodAll enc Tryd.prog W 0 (fun _ => true) true Tryd.f3.params.toList args.toList ds p := hA0
  rw [Tryd.params3] at hA hval
  obtain ⟨v0, vs0, d0, ds0, p0, q0, hargs, rfl, rfl, h0, r0⟩ := trodAll_cons hA
  obtain ⟨v1, vs1, d1, ds1, p1, q1, rfl, rfl, rfl, h1, r1⟩ := trodAll_cons r0
  obtain ⟨rfl, rfl, rfl⟩ := trodAll_nil r1
  obtain rfl : args = #[v0, v1] := by cases args; simp_all
  obtain ⟨g1, rfl⟩ : ∃ d, gs = [d] := by
    obtain ⟨_, _, _, _, d, _, e, _⟩ := trodVars_one hV
    exact ⟨d, e⟩
  have k0 := h0
  have lt0 : ∀ x ∈ p0, x.block < W.heap.size := by obtain ⟨m, hm⟩ := k0; exact DataW.trod_lt m _ _ _ hm
  have k1 := h1
  have lt1 : ∀ x ∈ p1, x.block < W.heap.size := by obtain ⟨m, hm⟩ := k1; exact DataW.trod_lt m _ _ _ hm
  obtain ⟨a0, rfl, rfl, rfl, w0⟩ := open_string Tryd.underlying9 (hval 0 9 v0 rfl rfl) h0
  obtain ⟨c1_0, c1_1, c1_2, c1_3, c1_4, c1_5, c1_6, y10, y11, y12, y13, y14, y15, y16, n1_, m1_, rfl, z1_0, z1_1, z1_2, z1_3, z1_4, z1_5, z1_6⟩ := open_client Tryd.underlying26 Tryd.underlying24 ⟨by kernel_rfl, by kernel_rfl, by kernel_rfl, by kernel_rfl⟩ ⟨by kernel_rfl, by kernel_rfl, by kernel_rfl, by kernel_rfl⟩ ⟨by kernel_rfl, by kernel_rfl, by kernel_rfl, by kernel_rfl⟩ ⟨by kernel_rfl, by kernel_rfl, by kernel_rfl, by kernel_rfl⟩ (by kernel_rfl) (hval 1 26 v1 rfl rfl) h1
  obtain ⟨id, e1_0, -, -⟩ := DataW.trod_int Tryd.underlying3 z1_0
  obtain rfl : c1_0 = .int .i64 id := by simpa using e1_0
  obtain ⟨win, e1_1, -, w_win⟩ := DataW.trod_string Tryd.underlying9 z1_1
  obtain rfl : c1_1 = .string win := by simpa using e1_1
  obtain ⟨tok, e1_2, -, w_tok⟩ := DataW.trod_string Tryd.underlying9 z1_2
  obtain rfl : c1_2 = .string tok := by simpa using e1_2
  obtain ⟨nb, e1_3, -, -⟩ := DataW.trod_int Tryd.underlying3 z1_3
  obtain rfl : c1_3 = .int .i64 nb := by simpa using e1_3
  obtain ⟨vw, e1_4, -, -⟩ := DataW.trod_int Tryd.underlying3 z1_4
  obtain rfl : c1_4 = .int .i64 vw := by simpa using e1_4
  obtain ⟨vh, e1_5, -, -⟩ := DataW.trod_int Tryd.underlying3 z1_5
  obtain rfl : c1_5 = .int .i64 vh := by simpa using e1_5
  obtain ⟨a, n, cap, l, rfl, ql, ml, sl, rl⟩ := strs_fieldO Tryd.underlying22 Tryd.underlying9 (by kernel_rfl) z1_6
  have hT := tok_laid_FnExactClientOK hL
  clear hA0 hval0
  refine (walk W a0 w0 id win tok nb vw vh a n cap l w_win w_tok ql ml sl rl hT).mono fun e W' ⟨he, bel⟩ => ?_
  subst he
  exact ⟨_, rfl, _, _, _, [], _, _, hW', trodAll_mk1 (shut_bool Tryd.underlying4 _), (trodAll_cons_mk (Below.trod laidOut (by kernel_rfl) (of_decide_eq_true (by kernel_rfl)) k0 bel lt0) (trodAll_cons_mk (Below.trod laidOut (by kernel_rfl) (of_decide_eq_true (by kernel_rfl)) k1 bel lt1) trodAll_mk0)), Below.trodVars laidOut bel (by kernel_rfl) hV, bel.frame _, fun h => by cases h⟩

theorem said : Rows.FnExactClientOKSaid :=
  OpenClaim.holds_of_wide 3 Tryd.f3 rfl rfl rfl rfl rfl rfl rfl ⟨rfl, rfl, rfl, rfl, rfl⟩ rfl rfl rfl rfl rfl (by kernel_rfl) Tryd.func3 (by kernel_rfl)
    (of_decide_eq_true (by kernel_rfl)) (by unfold Func.isWrapper; first | (rw [if_pos (by decide +kernel)]; kernel_rfl) | (rw [if_neg (by decide +kernel)]; exact ⟨rfl, rfl⟩))
    (fun os started H enc _ => lifted os started H enc)

theorem card : Rows.FnExactClientOKCardSaid :=
  Claim7.holds_tied_plain_at .later [] _ _ _ _ said (fun _ h => by cases h) (by kernel_rfl) (fun _ h => by cases h) fnExactClientOK_row_tie rfl ⟨rfl, rfl⟩ (by kernel_rfl) rfl
    (fun f fn hf hfn => by
      obtain rfl : f = 3 := Option.some.inj ((show Tryd.prog.funcNamed Tryd.f3.name = some 3 by kernel_rfl).symm.trans hf) |>.symm
      obtain rfl : fn = Tryd.f3 := (Option.some.inj (Tryd.func3.symm.trans hfn)).symm
      exact ⟨by kernel_rfl, fun j t ht => by
        rw [Tryd.params3] at ht
        have hm : t ∈ [9, 26] := by simpa using Array.mem_of_getElem? ht
        have hall : ([9, 26].all fun u => !Tryd.prog.wantsStandIn u) = true := by kernel_rfl
        exact (show Tryd.prog.wantsStandIn t = false by simpa using List.all_eq_true.1 hall t hm)⟩)
    (by kernel_rfl)
#print axioms card
end Go.Proofs.YtilnpkonhbmdpaaDoor
