/- At every argument that can be read, with the listed variables as the program text lays them, the law FnExactReadCommand returns true and leaves its arguments as they were: the tied card. -/
import Derived.Test.YtnmpifjmilflbaaDoorCards
import Derived.Test.YtnmpifjmilflbaaDoorTie
import Derived.Test.YtnmpifjmilflbaaDoorCrAll
import Derived.Test.YtnmpifjmilflbaaDoorRowInts
import Derived.WalkKit
import Derived.ProofKit
import Derived.OpenShut
import Derived.ShutString
import Derived.ChangeOld
import Derived.Below
import Derived.OpenVars
import Derived.LaidMore
import Derived.Lay
import Derived.Stop.Joined
namespace Go.Proofs.YtnmpifjmilflbaaDoor
open Go.ChangeShapes Go.WideShapes Go.ChangeAt Go.RowKit
open Go.ChangeMaps (open_string shut_string)
set_option linter.unusedVariables false

set_option maxHeartbeats 2000000 in
set_option maxRecDepth 100000 in
theorem walk (w : World) (a0 : Option Addr) (len0 cap0 : Nat) (l0 : List UInt8) (e0 : l0.length = len0) (w0 : Row8 w a0 l0) (hT : ErrsIn w) :
    Calls Tryd.prog 3 #[.slice a0 len0 cap0] w fun e w' => e = .returned (.bool true) ∧ Below w.heap.size w w' := by
  subst e0
  have hr := row8_V w0
  clear w0
  rename List UInt8 => l
  have HE := hide hT
  clear hT
  by_cases big : 1048576 < l.length
  · clear hr
    go_enter Tryd.func3, Tryd.ntmps3
    go_wp2_with fail
    go_ret
    exact ⟨rfl, Below.refl _ _⟩
  have hs : l.length ≤ 1048576 := by omega
  have HS := hide hs
  have HR := hide hr
  clear hr
  obtain ⟨c, hc⟩ : ∃ c, c = rcC l := ⟨_, rfl⟩
  obtain ⟨⟨k, cl, sq, p, n, ep, r, nm, dt⟩, hv⟩ : ∃ y, rcV l = y := ⟨_, rfl⟩
  have nc : (c != c) = false := by simp
  have TS := hide (fun a cap w1 hr => sreadcmd a cap l k cl sq p n ep r nm dt hv c hc w1 hr)
  have TI := hide (fun a w1 hr hE => ireadcmd a l.length l hs (Nat.le_refl _) k cl sq p n ep r nm dt hv c hc w1 hr hE)
  clear hv hc
  go_enter Tryd.func3, Tryd.ntmps3
  go_wp2_with fail
  refine (copyByte a0 cap0 l (unhide HS) _ (unhide HR)).mono ?_
  rintro e w1 ⟨rfl, own1, hb1⟩
  have HO1 := hide (row_at own1)
  have B1 := hide hb1
  clear own1 hb1
  go_wp2_with fail
  refine (unhide TS _ _ _ (unhide HO1)).mono ?_
  rintro e w2 ⟨rfl, hb2⟩
  have B2 := hide (((unhide B1).trans (hb2.mono (unhide B1).size)).alloc (Nat.le_trans (unhide B1).size hb2.size) (Obj.cells #[.int .i64 k, .int .i64 cl, .int .i64 sq, .int .i64 p, .int .i64 n, .int .i64 ep, .bool r, .string nm, .string dt] 24))
  have W2 := hide (BF.new w2 #[.int .i64 k, .int .i64 cl, .int .i64 sq, .int .i64 p, .int .i64 n, .int .i64 ep, .bool r, .string nm, .string dt] 24)
  clear hb2 HO1 B1 TS
  go_wp2_with fail
  refine (copyByte a0 cap0 l (unhide HS) _ ((unhide HR).below (unhide B2))).mono ?_
  rintro e w3 ⟨rfl, own3, hb3⟩
  simp only [World.size_alloc] at own3
  have HX3 := hide (held_of own3)
  have B3 := hide ((unhide B2).trans (hb3.mono (unhide B2).size))
  have W3 := hide ((unhide W2).below hb3)
  clear own3 hb3 B2 W2
  go_wp2_with fail
  refine (unhide TI _ _ (unhide HX3).rowV ((unhide HE).below (unhide B3))).mono ?_
  rintro e w4 ⟨rfl, hb4⟩
  have hb4' := hb4.alloc hb4.size (Obj.cells #[.int .i64 k, .int .i64 cl, .int .i64 sq, .int .i64 p, .int .i64 n, .int .i64 ep, .bool r, .string nm, .string dt] 24)
  have B4 := hide ((unhide B3).trans (hb4'.mono (unhide B3).size))
  have W4 := hide ((unhide W3).below hb4')
  have G4 := hide (BF.new w4 #[.int .i64 k, .int .i64 cl, .int .i64 sq, .int .i64 p, .int .i64 n, .int .i64 ep, .bool r, .string nm, .string dt] 24)
  have HX4 := hide ((unhide HX3).below hb4' (unhide HX3).le)
  clear hb4 hb4' B3 W3 HX3 TI
  have qw := (unhide W4).S
  have qg := (unhide G4).S
  go_wp2_with fail
  refine (eqCmd k cl sq p n ep r nm dt _).mono ?_
  rintro e w5 ⟨rfl, hb5⟩
  have B5 := hide ((unhide B4).trans (hb5.mono (unhide B4).size))
  have HX5 := hide ((unhide HX4).below hb5 (unhide HX4).le)
  clear hb5 B4 W4 G4 HX4 qw qg
  go_wp2_with fail
  refine (copyByte a0 cap0 l (unhide HS) _ ((unhide HR).below (unhide B5))).mono ?_
  rintro e w6 ⟨rfl, own6, hb6⟩
  have HY6 := hide (row_at own6)
  have HX6 := hide ((unhide HX5).below hb6 (unhide HX5).le)
  have B6 := hide ((unhide B5).trans (hb6.mono (unhide B5).size))
  clear own6 hb6 B5 HX5
  go_wp2_with fail
  refine (sameByte _ _ _ _ l (unhide HS) _ (unhide HX6).rowV (unhide HY6)).mono ?_
  rintro e w7 ⟨rfl, hb7⟩
  have B7 := hide ((unhide B6).trans (hb7.mono (unhide B6).size))
  clear hb7 B6 HX6 HY6
  go_wp2_with fail
  go_ret
  exact ⟨rfl, unhide B7⟩

theorem own : ownKnob Tryd.prog.godebug = none := by kernel_rfl
theorem laidOut : laidOutB Tryd.prog = true := by kernel_rfl
theorem door_met (os : Os) (args : Array Value) : laidMetH Tryd.prog Rows.fnExactReadCommandRow.laid ((World.doorLaid Tryd.prog 73 os).forCall (fun _ _ => 0) ⟨#[], args, []⟩).memory :=
  laidMetH_of_parts3 (fuel := 8) (laidMet_of_run' 8 (by kernel_rfl) (by kernel_rfl)) (by kernel_rfl) (by kernel_rfl)
set_option maxRecDepth 100000 in
theorem lifted (os : Os) (started : os.Started) (H : Type) (enc : TypeId × Value → H) :
    ReturnsInHanded {} Tryd.checked os 3 .any (fun w args => (Rows.fnExactReadCommandSpec.pre enc Tryd.prog Tryd.f3 [] false w args ∧ laidMetH Tryd.prog Rows.fnExactReadCommandRow.laid w) ∧ sizedMet enc Tryd.prog Tryd.f3 (OpenSpec.ofChange Rows.fnExactReadCommandSpec) false w args)
      (Rows.fnExactReadCommandSpec.post enc Tryd.prog Tryd.f3 false true false false) := by
  refine returnsInHanded_of_change_and (C := Tryd.checked) (X := fun w _ => laidMetH Tryd.prog Rows.fnExactReadCommandRow.laid w) (fun _ _ _ hh h => h.of_heap hh) own started (by kernel_rfl) Tryd.func3
    (ChangeSpec.witness_shaped (enc := enc) (C := Tryd.checked) (os := os) (X := fun w _ => laidMetH Tryd.prog Rows.fnExactReadCommandRow.laid w) false (World.doorLaid Tryd.prog 73 os) #[.slice none 0 0] 8 rfl (World.shaped_of_RefB (by kernel_rfl) (by kernel_rfl)) (by kernel_rfl) (by kernel_rfl) (by kernel_rfl) (door_met os _)) ?_
  intro W base args ds gs before hval0 hW _ _ hL _
  have hval : ∀ (j : Nat) t v, Tryd.f3.params[j]? = some t → args[j]? = some v → Value.okWide Tryd.prog W .any base t v := hval0
  have hW' := hW
  obtain ⟨p, q, hA0, hV, rfl, hfz, hnd⟩ := hW
  have hA : DataW.TrodAll enc Tryd.prog W 0 (fun _ => true) true Tryd.f3.params.toList args.toList ds p := hA0
  rw [Tryd.params3] at hA hval
  obtain ⟨v0, vs0, d0, ds0, p0, q0, hargs, rfl, rfl, h0, r0⟩ := trodAll_cons hA
  obtain ⟨rfl, rfl, rfl⟩ := trodAll_nil r0
  obtain rfl : args = #[v0] := by cases args; simp_all
  obtain ⟨g1, g2, g3, rfl⟩ : ∃ d1x d2x d3x, gs = [d1x, d2x, d3x] := vars_len3 hV
  have k0 := h0
  have lt0 : ∀ x ∈ p0, x.block < W.heap.size := by obtain ⟨m, hm⟩ := k0; exact DataW.trod_lt m _ _ _ hm
  obtain ⟨a0, len0, cap0, rfl⟩ := okWide_slice Tryd.underlying22 (hval 0 22 v0 rfl rfl)
  obtain ⟨l0, e0, w0⟩ : ∃ l : List UInt8, l.length = len0 ∧ Row8 W a0 l := by
    obtain ⟨fuel, hf⟩ := h0
    rcases open_ints Tryd.underlying22 Tryd.underlying5 (by kernel_rfl) hf with ⟨hcs, _⟩ | ⟨x, l, c, zs, hcs, _, hl, hm, hz, _, hcell, hwz⟩
    · simp [Value.cells] at hcs
      obtain ⟨rfl, rfl, rfl⟩ := hcs
      exact ⟨[], rfl, .inl rfl⟩
    · simp [Value.cells] at hcs
      obtain ⟨rfl, rfl, rfl⟩ := hcs
      exact row8_ints hl (by simpa using hz) hcell hwz
  have hT := errs_laidC hL
  clear hA0 hval0
  refine (walk W a0 len0 cap0 l0 e0 w0 hT).mono fun e W' ⟨he, bel⟩ => ?_
  subst he
  exact ⟨_, rfl, _, _, _, [], _, _, hW', trodAll_mk1 (shut_bool Tryd.underlying4 _), (trodAll_cons_mk (Below.trod laidOut (by kernel_rfl) (of_decide_eq_true (by kernel_rfl)) k0 bel lt0) trodAll_mk0), Below.trodVars laidOut bel (by kernel_rfl) hV, bel.frame _, fun h => by cases h⟩

theorem said : Rows.FnExactReadCommandSaid :=
  OpenClaim.holds_of_wide 3 Tryd.f3 rfl rfl rfl rfl rfl rfl rfl ⟨rfl, rfl, rfl, rfl, rfl⟩ rfl rfl rfl rfl rfl (by kernel_rfl) Tryd.func3 (by kernel_rfl)
    (of_decide_eq_true (by kernel_rfl)) (by unfold Func.isWrapper; first | (rw [if_pos (by decide +kernel)]; kernel_rfl) | (rw [if_neg (by decide +kernel)]; exact ⟨rfl, rfl⟩))
    (fun os started H enc _ => lifted os started H enc)

theorem card : Rows.FnExactReadCommandCardSaid :=
  Claim7.holds_tied_plain_at .later [] _ _ _ _ said (fun _ h => by cases h) (by kernel_rfl) (fun _ h => by cases h) fnExactReadCommand_row_tie rfl ⟨rfl, rfl⟩ (by kernel_rfl) rfl
    (fun f fn hf hfn => by
      obtain rfl : f = 3 := Option.some.inj ((show Tryd.prog.funcNamed Tryd.f3.name = some 3 by kernel_rfl).symm.trans hf) |>.symm
      obtain rfl : fn = Tryd.f3 := (Option.some.inj (Tryd.func3.symm.trans hfn)).symm
      exact ⟨by kernel_rfl, fun j t ht => by
        rw [Tryd.params3] at ht
        have hm : t ∈ [22] := by simpa using Array.mem_of_getElem? ht
        have hall : ([22].all fun u => !Tryd.prog.wantsStandIn u) = true := by kernel_rfl
        exact (show Tryd.prog.wantsStandIn t = false by simpa using List.all_eq_true.1 hall t hm)⟩)
    (by kernel_rfl)
#print axioms card
end Go.Proofs.YtnmpifjmilflbaaDoor
