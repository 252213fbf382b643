/- At every argument that can be read, with the listed variables as the program text lays them, the law FnExactArgOf returns true and leaves its arguments as they were: the tied card. -/
import Derived.Test.YtgggghgbgndmhaaDoorCards
import Derived.Test.YtgggghgbgndmhaaDoorTie
import Derived.Test.YtgggghgbgndmhaaDoorArgAll
import Derived.WalkKit
import Derived.ProofKit
import Derived.OpenShut
import Derived.ShutString
import Derived.ChangeOld
import Derived.Below
import Derived.OpenVars
import Derived.LaidMore
import Derived.Lay
import Derived.Stop.Joined
namespace Go.Proofs.YtgggghgbgndmhaaDoor
open Go.ChangeShapes Go.WideShapes Go.ChangeAt Go.RowKit
open Go.ChangeMaps (open_string shut_string)
set_option linter.unusedVariables false

set_option maxHeartbeats 1000000 in
set_option maxRecDepth 100000 in
theorem walk (w : World) (a0_0 : Int) (a0_1 : Int) (a0_2 : Bool) (a0_3 : Option Addr) (len0 cap0 : Nat) (l0 : List Int) (el0 : l0.length = len0) (ml0 : len0 ≤ maxLen) (rl0 : RowV w a0_3 (cI l0)) (a0_4 : ByteArray) (w04 : a0_4.size ≤ maxLen) (a1 : Int) (w1 : (Lit.int .i64 a1).wf = true) (a2 : Int) (w2 : (Lit.int .i64 a2).wf = true) (hT : StepsIn w) :
    Calls Tryd.prog 4 #[.agg #[.int .i64 a0_0, .int .i64 a0_1, .bool a0_2, .slice a0_3 len0 cap0, .string a0_4], .int .i64 a1, .int .i64 a2] w fun e w' => e = .returned (.bool true) ∧ Below w.heap.size w w' := by
  subst el0
  have HR := hide rl0
  have HP := hide hT.pos
  have HT := hide hT
  clear rl0 hT
  obtain ⟨v, hv⟩ : ∃ v, v = argV (actB a0_0 a0_1 a0_2 l0 a0_4.data.toList) l0 a1 a2 := ⟨_, rfl⟩
  obtain ⟨c, hc⟩ : ∃ c, c = argC (actB a0_0 a0_1 a0_2 l0 a0_4.data.toList) a1 a2 := ⟨_, rfl⟩
  have HV := hide hv
  have HCC := hide hc
  have nv : (v != v) = false := by simp
  have nc : (c != c) = false := by simp
  clear hv hc w1 w2
  have B0 := hide ((Below.refl w.heap.size w).alloc (Nat.le_refl _) (.cells #[.int .i64 a0_0, .int .i64 a0_1, .bool a0_2, .slice a0_3 l0.length cap0, .string a0_4] 34))
  go_enter Tryd.func4, Tryd.ntmps4
  go_wp2_with fail
  refine (szAct a0_0 a0_1 a0_2 a0_3 l0.length cap0 a0_4 ml0 w04 _).mono ?_
  rintro e w1 ⟨x, rfl, hb1, hx⟩
  clear ml0 w04
  have B1 := hide ((unhide B0).trans (hb1.mono (unhide B0).size))
  rcases hx with rfl | ⟨hx0, hl, hts⟩
  · clear hb1
    go_wp2_with fail
    go_ret
    exact ⟨rfl, unhide B1⟩
  obtain ⟨hc, hf⟩ := bcell hb1
  have C1 := hide hb1
  have HL := hide hl
  have HTS := hide hts
  clear hf hb1 hl hts
  go_wp2_with fail
  refine (toAct a0_0 a0_1 a0_2 a0_3 cap0 l0 a0_4 (unhide HL) _ ((unhide HR).below (unhide B1))).mono ?_
  rintro e w2 ⟨g2, rfl, own2, hb2⟩
  have HO2 := hide (row_at own2)
  have B2 := hide ((unhide B1).trans (hb2.mono (unhide B1).size))
  have C2 := hide ((unhide C1).trans (hb2.mono (unhide C1).size))
  clear hc own2 hb2
  go_wp2_with fail
  refine (sargof a1 a2 a0_0 a0_1 a0_2 _ _ l0 a0_4 (unhide HL) (unhide HTS) _ (unhide HO2)).mono ?_
  rintro e w3 ⟨rfl, hb3⟩
  rw [← unhide HV, ← unhide HCC]
  have B3 := hide ((unhide B2).trans (hb3.mono (unhide B2).size))
  have C3 := hide ((unhide C2).trans (hb3.mono (unhide C2).size))
  obtain ⟨hc, -⟩ := bcellB (unhide C3)
  clear hb3 HO2
  go_wp2_with fail
  refine (toAct a0_0 a0_1 a0_2 a0_3 cap0 l0 a0_4 (unhide HL) _ ((unhide HR).below (unhide B3))).mono ?_
  rintro e w4 ⟨g4, rfl, own4, hb4⟩
  have HO4 := hide (row_at own4)
  have B4 := hide ((unhide B3).trans (hb4.mono (unhide B3).size))
  have C4 := hide ((unhide C3).trans (hb4.mono (unhide C3).size))
  obtain ⟨hc, -⟩ := bcellB (unhide C4)
  have hz4 : w.heap.size < w4.heap.size := by have := (unhide C4).size; simp at this; omega
  have D5 := hide ((Below.refl w4.heap.size w4).alloc (Nat.le_refl _) (.cells #[.int .i64 a0_0, .int .i64 a0_1, .bool a0_2, .slice (some ⟨g4, 0, none⟩) l0.length l0.length, .string a0_4] 38))
  have K5 := hide (show Boxes (w4.alloc (.cells #[.int .i64 a0_0, .int .i64 a0_1, .bool a0_2, .slice (some ⟨g4, 0, none⟩) l0.length l0.length, .string a0_4] 38)) w.heap.size w4.heap.size #[.int .i64 a0_0, .int .i64 a0_1, .bool a0_2, .slice a0_3 l0.length cap0, .string a0_4] #[.int .i64 a0_0, .int .i64 a0_1, .bool a0_2, .slice (some ⟨g4, 0, none⟩) l0.length l0.length, .string a0_4] from
    ⟨fun o => by rw [World.cell?_alloc_past _ _ _ hz4, hc _ _ (by simp)]; exact World.cell?_alloc_mark w _ _ _ o, fun o => World.cell?_alloc_mark w4 _ _ _ o⟩)
  clear own4 hb4
  go_wp2_with fail
  refine (iargof a1 a2 a0_0 a0_1 a0_2 _ _ l0 a0_4 (unhide HL) (unhide HTS) _ ((unhide HO4).below (unhide D5)) ((unhide HT).below ((unhide B4).trans ((unhide D5).mono (unhide B4).size)) (unhide HP))).mono ?_
  rintro e w5 ⟨rfl, hb5⟩
  rw [← unhide HV, ← unhide HCC]
  have B5 := hide (((unhide B4).trans ((unhide D5).mono (unhide B4).size)).trans (hb5.mono (by simp; have := (unhide B4).size; omega)))
  have K6 := hide (boxes_below (unhide K5) hb5 (by simp; omega) (by simp))
  have hz5 : w4.heap.size < w5.heap.size := by have := hb5.size; simp at this; omega
  have HO5 := hide (((unhide HO4).below (unhide D5)).below hb5)
  clear hb5 hc HO4 K5 D5
  go_wp2_with fail
  go_region_held3 (fun w' => w'.cell? ⟨w.heap.size, 0, none⟩ = some (.int .i64 a0_0) ∧ w'.cell? ⟨w.heap.size, 1, none⟩ = some (.int .i64 a0_1) ∧ w'.cell? ⟨w.heap.size, 2, none⟩ = some (.bool a0_2) ∧ w'.cell? ⟨w.heap.size, 3, none⟩ = some (.slice a0_3 l0.length cap0) ∧ w'.cell? ⟨w.heap.size, 4, none⟩ = some (.string a0_4) ∧ w'.cell? ⟨w4.heap.size, 0, none⟩ = some (.int .i64 a0_0) ∧ w'.cell? ⟨w4.heap.size, 1, none⟩ = some (.int .i64 a0_1) ∧ w'.cell? ⟨w4.heap.size, 2, none⟩ = some (.bool a0_2) ∧ w'.cell? ⟨w4.heap.size, 3, none⟩ = some (.slice (some ⟨g4, 0, none⟩) l0.length l0.length) ∧ w'.cell? ⟨w4.heap.size, 4, none⟩ = some (.string a0_4)) (first | exact (unhide K6).ten | exact (unhide K7).ten | exact (unhide K8).ten) (first | (go_at_call 15; refine (toAct a0_0 a0_1 a0_2 a0_3 cap0 l0 a0_4 (unhide HL) _ ((unhide HR).below (unhide B5).drew)).mono ?_; rintro e w6 ⟨g6, rfl, own6, hb6⟩; have K7 := hide (boxes_below (w' := w6) (unhide K6) (below_undrew hb6) (by simp; omega) (by simp; omega)); have hz6 : w5.heap.size ≤ w6.heap.size := (below_undrew hb6).size; have HO6 := hide (row_at own6); have HX6 := hide ((unhide HO5).below (below_undrew hb6)); have B6 := hide ((unhide B5).trans ((below_undrew hb6).mono (unhide B5).size)); clear own6 hb6) | (go_at_call 17; refine (eqAct a0_0 a0_1 a0_2 _ _ _ _ l0 a0_4 (unhide HL) _ (unhide HX6) (unhide HO6)).mono ?_; rintro e w7 ⟨rfl, hb7⟩; have K8 := hide (boxes_below (w' := w7) (unhide K7) hb7 (by omega) (by omega)); have B7 := hide ((unhide B6).trans (hb7.mono (unhide B6).size)); clear hb7))
  go_wp2_with fail
  go_ret
  exact ⟨rfl, unhide B7⟩

theorem own : ownKnob Tryd.prog.godebug = none := by kernel_rfl
theorem laidOut : laidOutB Tryd.prog = true := by kernel_rfl
theorem door_met (os : Os) (args : Array Value) : laidMetH Tryd.prog Rows.fnExactArgOfRow.laid ((World.doorLaid Tryd.prog 111 os).forCall (fun _ _ => 0) ⟨#[], args, []⟩).memory :=
  laidMetH_of_parts3 (fuel := 8) (laidMet_of_run' 8 (by kernel_rfl) (by kernel_rfl)) (by kernel_rfl) (by kernel_rfl)
set_option maxRecDepth 100000 in
theorem lifted (os : Os) (started : os.Started) (H : Type) (enc : TypeId × Value → H) :
    ReturnsInHanded {} Tryd.checked os 4 .any (fun w args => (Rows.fnExactArgOfSpec.pre enc Tryd.prog Tryd.f4 [] false w args ∧ laidMetH Tryd.prog Rows.fnExactArgOfRow.laid w) ∧ sizedMet enc Tryd.prog Tryd.f4 (OpenSpec.ofChange Rows.fnExactArgOfSpec) false w args)
      (Rows.fnExactArgOfSpec.post enc Tryd.prog Tryd.f4 false true false false) := by
  refine returnsInHanded_of_change_and (C := Tryd.checked) (X := fun w _ => laidMetH Tryd.prog Rows.fnExactArgOfRow.laid w) (fun _ _ _ hh h => h.of_heap hh) own started (by kernel_rfl) Tryd.func4
    (ChangeSpec.witness_shaped (enc := enc) (C := Tryd.checked) (os := os) (X := fun w _ => laidMetH Tryd.prog Rows.fnExactArgOfRow.laid w) false (World.doorLaid Tryd.prog 111 os) #[.agg #[.int .i64 0, .int .i64 0, .bool false, .slice none 0 0, .string ByteArray.empty], .int .i64 0, .int .i64 0] 8 rfl (World.shaped_of_RefB (by kernel_rfl) (by kernel_rfl)) (by kernel_rfl) (by kernel_rfl) (by kernel_rfl) (door_met os _)) ?_
  intro W base args ds gs before hval0 hW _ _ hL _
  have hval : ∀ (j : Nat) t v, Tryd.f4.params[j]? = some t → args[j]? = some v → Value.okWide Tryd.prog W .any base t v := hval0
  have hW' := hW
  obtain ⟨p, q, hA0, hV, rfl, hfz, hnd⟩ := hW
  have hA : DataW.TrodAll enc Tryd.prog W 0 (fun _ => true) true Tryd.f4.params.toList args.toList ds p := hA0
  rw [Tryd.params4] at hA hval
  obtain ⟨v0, vs0, d0, ds0, p0, q0, hargs, rfl, rfl, h0, r0⟩ := trodAll_cons hA
  obtain ⟨v1, vs1, d1, ds1, p1, q1, rfl, rfl, rfl, h1, r1⟩ := trodAll_cons r0
  obtain ⟨v2, vs2, d2, ds2, p2, q2, rfl, rfl, rfl, h2, r2⟩ := trodAll_cons r1
  obtain ⟨rfl, rfl, rfl⟩ := trodAll_nil r2
  obtain rfl : args = #[v0, v1, v2] := by cases args; simp_all
  obtain ⟨g1, rfl⟩ : ∃ d, gs = [d] := by
    obtain ⟨_, _, _, _, d, _, e, _⟩ := trodVars_one hV
    exact ⟨d, e⟩
  have k0 := h0
  have lt0 : ∀ x ∈ p0, x.block < W.heap.size := by obtain ⟨m, hm⟩ := k0; exact DataW.trod_lt m _ _ _ hm
  have k1 := h1
  have lt1 : ∀ x ∈ p1, x.block < W.heap.size := by obtain ⟨m, hm⟩ := k1; exact DataW.trod_lt m _ _ _ hm
  have k2 := h2
  have lt2 : ∀ x ∈ p2, x.block < W.heap.size := by obtain ⟨m, hm⟩ := k2; exact DataW.trod_lt m _ _ _ hm
  obtain ⟨c00, c01, c02, c03, c04, y00, y01, y02, y03, y04, m0, rfl, z00, z01, z02, z03, z04⟩ := open_agg5 Tryd.underlying34 (by kernel_rfl) (by kernel_rfl) (hval 0 34 v0 rfl rfl) h0
  obtain ⟨a0_0, e00, -, -⟩ := DataW.trod_int Tryd.underlying3 z00
  obtain rfl : c00 = .int .i64 a0_0 := by simpa using e00
  obtain ⟨a0_1, e01, -, -⟩ := DataW.trod_int Tryd.underlying3 z01
  obtain rfl : c01 = .int .i64 a0_1 := by simpa using e01
  obtain ⟨a0_2, e02, -⟩ := DataW.trod_bool Tryd.underlying4 z02
  obtain rfl : c02 = .bool a0_2 := by simpa using e02
  obtain ⟨a0_3, len0, cap0, l0, rfl, el0, ml0, rl0⟩ := row_field Tryd.underlying32 Tryd.underlying3 (by kernel_rfl) z03
  obtain ⟨a0_4, e04, -, w04⟩ := DataW.trod_string Tryd.underlying9 z04
  obtain rfl : c04 = .string a0_4 := by simpa using e04
  obtain ⟨a1, rfl, rfl, rfl, w1⟩ := open_int Tryd.underlying3 (hval 1 3 v1 rfl rfl) h1
  obtain ⟨a2, rfl, rfl, rfl, w2⟩ := open_int Tryd.underlying3 (hval 2 3 v2 rfl rfl) h2
  have hT := steps_laid hL
  clear hA0 hval0
  refine (walk W a0_0 a0_1 a0_2 a0_3 len0 cap0 l0 el0 ml0 rl0 a0_4 w04 a1 w1 a2 w2 hT).mono fun e W' ⟨he, bel⟩ => ?_
  subst he
  exact ⟨_, rfl, _, _, _, [], _, _, hW', trodAll_mk1 (shut_bool Tryd.underlying4 _), (trodAll_cons_mk (Below.trod laidOut (by kernel_rfl) (of_decide_eq_true (by kernel_rfl)) k0 bel lt0) (trodAll_cons_mk (Below.trod laidOut (by kernel_rfl) (of_decide_eq_true (by kernel_rfl)) k1 bel lt1) (trodAll_cons_mk (Below.trod laidOut (by kernel_rfl) (of_decide_eq_true (by kernel_rfl)) k2 bel lt2) trodAll_mk0))), Below.trodVars laidOut bel (by kernel_rfl) hV, bel.frame _, fun h => by cases h⟩

theorem said : Rows.FnExactArgOfSaid :=
  OpenClaim.holds_of_wide 4 Tryd.f4 rfl rfl rfl rfl rfl rfl rfl ⟨rfl, rfl, rfl, rfl, rfl⟩ rfl rfl rfl rfl rfl (by kernel_rfl) Tryd.func4 (by kernel_rfl)
    (of_decide_eq_true (by kernel_rfl)) (by unfold Func.isWrapper; first | (rw [if_pos (by decide +kernel)]; kernel_rfl) | (rw [if_neg (by decide +kernel)]; exact ⟨rfl, rfl⟩))
    (fun os started H enc _ => lifted os started H enc)

theorem card : Rows.FnExactArgOfCardSaid :=
  Claim7.holds_tied_plain_at .later [] _ _ _ _ said (fun _ h => by cases h) (by kernel_rfl) (fun _ h => by cases h) fnExactArgOf_row_tie rfl ⟨rfl, rfl⟩ (by kernel_rfl) rfl
    (fun f fn hf hfn => by
      obtain rfl : f = 4 := Option.some.inj ((show Tryd.prog.funcNamed Tryd.f4.name = some 4 by kernel_rfl).symm.trans hf) |>.symm
      obtain rfl : fn = Tryd.f4 := (Option.some.inj (Tryd.func4.symm.trans hfn)).symm
      exact ⟨by kernel_rfl, fun j t ht => by
        rw [Tryd.params4] at ht
        have hm : t ∈ [34, 3, 3] := by simpa using Array.mem_of_getElem? ht
        have hall : ([34, 3, 3].all fun u => !Tryd.prog.wantsStandIn u) = true := by kernel_rfl
        exact (show Tryd.prog.wantsStandIn t = false by simpa using List.all_eq_true.1 hall t hm)⟩)
    (by kernel_rfl)
#print axioms card
end Go.Proofs.YtgggghgbgndmhaaDoor
