/- At every argument that can be read, with the listed variables as the program text lays them, the law FnExactReadFrames returns true and leaves its arguments as they were: the tied card. -/
import Derived.Test.YtgcihpcogkeanaaDoorCards
import Derived.Test.YtgcihpcogkeanaaDoorTie
import Derived.Test.YtgcihpcogkeanaaDoorFrmAll
import Derived.Test.YtgcihpcogkeanaaDoorRowInts
import Derived.WalkKit
import Derived.ProofKit
import Derived.OpenShut
import Derived.ShutString
import Derived.ChangeOld
import Derived.Below
import Derived.OpenVars
import Derived.LaidMore
import Derived.Lay
import Derived.Stop.Joined
namespace Go.Proofs.YtgcihpcogkeanaaDoor
open Go.ChangeShapes Go.WideShapes Go.ChangeAt Go.RowKit
open Go.ChangeMaps (open_string shut_string)
set_option linter.unusedVariables false

theorem walk (w : World) (a0 : Option Addr) (len0 cap0 : Nat) (l0 : List UInt8) (e0 : l0.length = len0) (w0 : Row8 w a0 l0) (hT : ErrsR w) :
    Calls Tryd.prog 3 #[.slice a0 len0 cap0] w fun e w' => e = .returned (.bool true) ∧ Below w.heap.size w w' := by
  subst e0
  have hr := row8_V w0
  clear w0
  rename List UInt8 => l
  have HE := hide hT
  clear hT
  by_cases big : 1048576 < l.length
  · clear hr
    go_enter Tryd.func3, Tryd.ntmps3
    go_wp2_with fail
    go_ret
    exact ⟨rfl, Below.refl _ _⟩
  have hs : l.length ≤ 1048576 := by omega
  have HS := hide hs
  have HR := hide hr
  clear hr
  obtain ⟨r, hrr⟩ : ∃ r, r = rdL l := ⟨_, rfl⟩
  have hrl : r.length ≤ 1048576 := by rw [hrr]; exact Nat.le_trans (rdL_le l) (by decide)
  have HRR := hide hrr
  clear hrr
  obtain ⟨c0, hc0⟩ : ∃ c, c = rdC l := ⟨_, rfl⟩
  have HC0 := hide hc0
  have nc0 : (c0 != c0) = false := by simp
  clear hc0
  obtain ⟨pl, hpl⟩ : ∃ c, c = rdP l := ⟨_, rfl⟩
  have HPL := hide hpl
  have npl : (pl != pl) = false := by simp
  clear hpl
  obtain ⟨q, hq⟩ : ∃ q : Int, q = ((1 + r.length : Nat) : Int) := ⟨_, rfl⟩
  obtain ⟨p, hp⟩ : ∃ p : Int, p = ((1 + l.length : Nat) : Int) := ⟨_, rfl⟩
  have q0 : 0 < q := by omega
  have p0 : 0 < p := by omega
  have nq : (q != q) = false := by simp
  have HQ := hide hq
  have HP := hide hp
  clear hq hp
  go_enter Tryd.func3, Tryd.ntmps3
  go_wp2_with fail
  refine (copyByte a0 cap0 l (unhide HS) _ (unhide HR)).mono ?_
  rintro e w1 ⟨rfl, own1, hb1⟩
  have HO1 := hide (row_at own1)
  clear own1
  go_wp2_with fail
  refine (sreadfrH _ _ l r pl c0 (unhide HRR) (unhide HPL) (unhide HC0) (unhide HS) _ (unhide HO1)).mono ?_
  rintro e w2 ⟨vw, rfl, own2, hb2⟩
  obtain ⟨aw, cw, rfl, -⟩ := own_rowV own2
  have HW2 := hide (held_of own2)
  have B2 := hide (hb1.trans (hb2.mono hb1.size))
  have S2 := hide (Nat.le_trans hb1.size hb2.size)
  have S12 := hide hb1.size
  clear own2 hb1 hb2 HO1
  go_wp2_with fail
  refine (copyByte a0 cap0 l (unhide HS) _ ((unhide HR).below (unhide B2))).mono ?_
  rintro e w3 ⟨rfl, own3, hb3⟩
  have HX3 := hide (held_of own3)
  have HW3 := hide ((unhide HW2).below hb3 (Nat.le_refl _))
  have B3 := hide ((unhide B2).trans (hb3.mono (unhide S2)))
  have S23 := hide hb3.size
  have S3 := hide (Nat.le_trans (unhide S2) hb3.size)
  clear own3 HW2 hb3
  go_wp2_with fail
  refine (ireadfrH _ _ l r pl c0 (unhide HRR) (unhide HPL) (unhide HC0) (unhide HS) (Nat.le_refl _) _ (unhide HX3).rowV ((unhide HE).below (unhide B3))).mono ?_
  rintro e w4 ⟨vg, rfl, own4, hb4⟩
  obtain ⟨ag, cg, rfl, -⟩ := own_rowV own4
  have HG4 := hide (held_of own4)
  have HX4 := hide ((unhide HX3).below hb4 (Nat.le_refl _))
  have HW4 := hide ((unhide HW3).below hb4 (unhide S23))
  have B4 := hide ((unhide B3).trans (hb4.mono (unhide S3)))
  have S34 := hide hb4.size
  clear own4 hb4 HX3 HW3
  go_wp2_with fail
  refine (sameString _ _ _ _ r hrl _ (unhide HG4).rowV (unhide HW4).rowV).mono ?_
  rintro e w5 ⟨rfl, hb5⟩
  have HG5 := hide ((unhide HG4).below hb5 (Nat.le_refl _))
  have HX5 := hide ((unhide HX4).below hb5 (unhide S34))
  have HW5 := hide ((unhide HW4).below hb5 (Nat.le_trans (unhide S23) (unhide S34)))
  have B5 := hide ((unhide B4).trans (hb5.mono (unhide B4).size))
  have S45 := hide hb5.size
  clear hb5 HG4 HX4 HW4
  go_wp2_with fail
  refine (copyByte a0 cap0 l (unhide HS) _ ((unhide HR).below (unhide B5))).mono ?_
  rintro e w6 ⟨rfl, own6, hb6⟩
  have HY6 := hide (row_at own6)
  have HG6 := hide ((unhide HG5).below hb6 (unhide HG5).le)
  have HX6 := hide ((unhide HX5).below hb6 (unhide HX5).le)
  have HW6 := hide ((unhide HW5).below hb6 (unhide HW5).le)
  have B6 := hide ((unhide B5).trans (hb6.mono (unhide B5).size))
  clear own6 hb6 HG5 HX5 HW5
  go_wp2_with fail
  refine (sameByte _ _ _ _ l (unhide HS) _ (unhide HX6).rowV (unhide HY6)).mono ?_
  rintro e w7 ⟨rfl, hb7⟩
  have HG7 := hide ((unhide HG6).below hb7 (unhide HG6).le)
  have HX7 := hide ((unhide HX6).below hb7 (unhide HX6).le)
  have HW7 := hide ((unhide HW6).below hb7 (unhide HW6).le)
  have B7 := hide ((unhide B6).trans (hb7.mono (unhide B6).size))
  clear hb7 HG6 HX6 HW6 HY6
  go_wp2_with fail
  refine (markByte1 _ l.length w2.heap.size w3.heap.size p (B8 l) (unhide HP) (Nat.le_trans (unhide HS) (by decide)) _ (unhide HX7)).mono ?_
  rintro e w8 ⟨rfl, -, hg8⟩
  have HG8 := hide ((unhide HG7).grown hg8 (fun k hk => .inl ((unhide HX7).blk k hk).2))
  have HW8 := hide ((unhide HW7).grown hg8 (fun k hk => .inr ((unhide HX7).blk k hk).1))
  have B8' := hide (Below.marked (unhide B7) (unhide B7).size (unhide HX7) (unhide S2) hg8)
  clear hg8 HG7 HX7 HW7
  go_wp2_with fail
  refine (sameString _ _ _ _ r hrl _ (unhide HG8).rowV (unhide HW8).rowV).mono ?_
  rintro e w9 ⟨rfl, hb9⟩
  have HG9 := hide ((unhide HG8).below hb9 (unhide HG8).le)
  have HW9 := hide ((unhide HW8).below hb9 (unhide HW8).le)
  have B9 := hide ((unhide B8').trans (hb9.mono (unhide B8').size))
  clear hb9 HG8 HW8
  go_wp2_with fail
  refine (markString1 _ r.length w3.heap.size w4.heap.size q (cS r) (unhide HQ) (Nat.le_trans hrl (by decide)) _ (unhide HG9)).mono ?_
  rintro e w10 ⟨rfl, hh10, hg10⟩
  have HG10 := hide hh10
  have HW10 := hide ((unhide HW9).grown hg10 (fun k hk => .inr (Nat.le_trans (unhide S23) ((unhide HG9).blk k hk).1)))
  have B10 := hide (Below.marked (unhide B9) (unhide B9).size (unhide HG9) (unhide S3) hg10)
  clear hg10 HG9 HW9 hh10
  go_wp2_with fail
  refine (heldString1 _ r.length w3.heap.size w4.heap.size q (unhide HQ) (Nat.le_trans hrl (by decide)) _ (unhide HG10)).mono ?_
  rintro e w11 ⟨rfl, hb11⟩
  have HG11 := hide ((unhide HG10).below hb11 (unhide HG10).le)
  have HW11 := hide ((unhide HW10).below hb11 (unhide HW10).le)
  have B11 := hide ((unhide B10).trans (hb11.mono (unhide B10).size))
  clear hb11 HG10 HW10
  go_wp2_with fail
  refine (copyByte a0 cap0 l (unhide HS) _ ((unhide HR).below (unhide B11))).mono ?_
  rintro e w12 ⟨rfl, own12, hb12⟩
  have HY12 := hide (row_at own12)
  have HG12 := hide ((unhide HG11).below hb12 (unhide HG11).le)
  have HW12 := hide ((unhide HW11).below hb12 (unhide HW11).le)
  have B12 := hide ((unhide B11).trans (hb12.mono (unhide B11).size))
  clear own12 hb12 HG11 HW11
  go_wp2_with fail
  refine (ireadfrH _ _ l r pl c0 (unhide HRR) (unhide HPL) (unhide HC0) (unhide HS) (Nat.le_refl _) _ (unhide HY12) ((unhide HE).below (unhide B12))).mono ?_
  rintro e w13 ⟨vh, rfl, own13, hb13⟩
  obtain ⟨ah, ch, rfl, -⟩ := own_rowV own13
  have HH13 := hide (row_at own13)
  have HG13 := hide ((unhide HG12).below hb13 (unhide HG12).le)
  have HW13 := hide ((unhide HW12).below hb13 (unhide HW12).le)
  have B13 := hide ((unhide B12).trans (hb13.mono (unhide B12).size))
  clear own13 hb13 HG12 HW12 HY12
  go_wp2_with fail
  refine (sameString _ _ _ _ r hrl _ (unhide HH13) (unhide HW13).rowV).mono ?_
  rintro e w14 ⟨rfl, hb14⟩
  have HG14 := hide ((unhide HG13).below hb14 (unhide HG13).le)
  have B14 := hide ((unhide B13).trans (hb14.mono (unhide B13).size))
  clear hb14 HG13 HW13 HH13
  go_wp2_with fail
  refine (heldString1 _ r.length w3.heap.size w4.heap.size q (unhide HQ) (Nat.le_trans hrl (by decide)) _ (unhide HG14)).mono ?_
  rintro e w15 ⟨rfl, hb15⟩
  have B15 := hide ((unhide B14).trans (hb15.mono (unhide B14).size))
  clear hb15 HG14
  go_wp2_with fail
  go_ret
  exact ⟨rfl, unhide B15⟩

theorem own : ownKnob Tryd.prog.godebug = none := by kernel_rfl
theorem laidOut : laidOutB Tryd.prog = true := by kernel_rfl
theorem door_met (os : Os) (args : Array Value) : laidMetH Tryd.prog Rows.fnExactReadFramesRow.laid ((World.doorLaid Tryd.prog 73 os).forCall (fun _ _ => 0) ⟨#[], args, []⟩).memory :=
  laidMetH_of_parts3 (fuel := 8) (laidMet_of_run' 8 (by kernel_rfl) (by kernel_rfl)) (by kernel_rfl) (by kernel_rfl)
set_option maxRecDepth 100000 in
theorem lifted (os : Os) (started : os.Started) (H : Type) (enc : TypeId × Value → H) :
    ReturnsInHanded {} Tryd.checked os 3 .any (fun w args => (Rows.fnExactReadFramesSpec.pre enc Tryd.prog Tryd.f3 [] false w args ∧ laidMetH Tryd.prog Rows.fnExactReadFramesRow.laid w) ∧ sizedMet enc Tryd.prog Tryd.f3 (OpenSpec.ofChange Rows.fnExactReadFramesSpec) false w args)
      (Rows.fnExactReadFramesSpec.post enc Tryd.prog Tryd.f3 false true false false) := by
  refine returnsInHanded_of_change_and (C := Tryd.checked) (X := fun w _ => laidMetH Tryd.prog Rows.fnExactReadFramesRow.laid w) (fun _ _ _ hh h => h.of_heap hh) own started (by kernel_rfl) Tryd.func3
    (ChangeSpec.witness_shaped (enc := enc) (C := Tryd.checked) (os := os) (X := fun w _ => laidMetH Tryd.prog Rows.fnExactReadFramesRow.laid w) false (World.doorLaid Tryd.prog 73 os) #[.slice none 0 0] 8 rfl (World.shaped_of_RefB (by kernel_rfl) (by kernel_rfl)) (by kernel_rfl) (by kernel_rfl) (by kernel_rfl) (door_met os _)) ?_
  intro W base args ds gs before hval0 hW _ _ hL _
  have hval : ∀ (j : Nat) t v, Tryd.f3.params[j]? = some t → args[j]? = some v → Value.okWide Tryd.prog W .any base t v := hval0
  have hW' := hW
  obtain ⟨p, q, hA0, hV, rfl, hfz, hnd⟩ := hW
  have hA : DataW.TrodAll enc Tryd.prog W 0 (fun _ => true) true Tryd.f3.params.toList args.toList ds p := hA0
  rw [Tryd.params3] at hA hval
  obtain ⟨v0, vs0, d0, ds0, p0, q0, hargs, rfl, rfl, h0, r0⟩ := trodAll_cons hA
  obtain ⟨rfl, rfl, rfl⟩ := trodAll_nil r0
  obtain rfl : args = #[v0] := by cases args; simp_all
  obtain ⟨g1, g2, g3, rfl⟩ : ∃ d1x d2x d3x, gs = [d1x, d2x, d3x] := vars_len3 hV
  have k0 := h0
  have lt0 : ∀ x ∈ p0, x.block < W.heap.size := by obtain ⟨m, hm⟩ := k0; exact DataW.trod_lt m _ _ _ hm
  obtain ⟨a0, len0, cap0, rfl⟩ := okWide_slice Tryd.underlying22 (hval 0 22 v0 rfl rfl)
  obtain ⟨l0, e0, w0⟩ : ∃ l : List UInt8, l.length = len0 ∧ Row8 W a0 l := by
    obtain ⟨fuel, hf⟩ := h0
    rcases open_ints Tryd.underlying22 Tryd.underlying5 (by kernel_rfl) hf with ⟨hcs, _⟩ | ⟨x, l, c, zs, hcs, _, hl, hm, hz, _, hcell, hwz⟩
    · simp [Value.cells] at hcs
      obtain ⟨rfl, rfl, rfl⟩ := hcs
      exact ⟨[], rfl, .inl rfl⟩
    · simp [Value.cells] at hcs
      obtain ⟨rfl, rfl, rfl⟩ := hcs
      exact row8_ints hl (by simpa using hz) hcell hwz
  have hT := errs_laidR hL
  clear hA0 hval0
  refine (walk W a0 len0 cap0 l0 e0 w0 hT).mono fun e W' ⟨he, bel⟩ => ?_
  subst he
  exact ⟨_, rfl, _, _, _, [], _, _, hW', trodAll_mk1 (shut_bool Tryd.underlying4 _), (trodAll_cons_mk (Below.trod laidOut (by kernel_rfl) (of_decide_eq_true (by kernel_rfl)) k0 bel lt0) trodAll_mk0), Below.trodVars laidOut bel (by kernel_rfl) hV, bel.frame _, fun h => by cases h⟩

theorem said : Rows.FnExactReadFramesSaid :=
  OpenClaim.holds_of_wide 3 Tryd.f3 rfl rfl rfl rfl rfl rfl rfl ⟨rfl, rfl, rfl, rfl, rfl⟩ rfl rfl rfl rfl rfl (by kernel_rfl) Tryd.func3 (by kernel_rfl)
    (of_decide_eq_true (by kernel_rfl)) (by unfold Func.isWrapper; first | (rw [if_pos (by decide +kernel)]; kernel_rfl) | (rw [if_neg (by decide +kernel)]; exact ⟨rfl, rfl⟩))
    (fun os started H enc _ => lifted os started H enc)

theorem card : Rows.FnExactReadFramesCardSaid :=
  Claim7.holds_tied_plain_at .later [] _ _ _ _ said (fun _ h => by cases h) (by kernel_rfl) (fun _ h => by cases h) fnExactReadFrames_row_tie rfl ⟨rfl, rfl⟩ (by kernel_rfl) rfl
    (fun f fn hf hfn => by
      obtain rfl : f = 3 := Option.some.inj ((show Tryd.prog.funcNamed Tryd.f3.name = some 3 by kernel_rfl).symm.trans hf) |>.symm
      obtain rfl : fn = Tryd.f3 := (Option.some.inj (Tryd.func3.symm.trans hfn)).symm
      exact ⟨by kernel_rfl, fun j t ht => by
        rw [Tryd.params3] at ht
        have hm : t ∈ [22] := by simpa using Array.mem_of_getElem? ht
        have hall : ([22].all fun u => !Tryd.prog.wantsStandIn u) = true := by kernel_rfl
        exact (show Tryd.prog.wantsStandIn t = false by simpa using List.all_eq_true.1 hall t hm)⟩)
    (by kernel_rfl)
#print axioms card
end Go.Proofs.YtgcihpcogkeanaaDoor
