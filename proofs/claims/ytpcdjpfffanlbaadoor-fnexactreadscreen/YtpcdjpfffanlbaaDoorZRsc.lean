/- At every argument that can be read, with the listed variables as the program text lays them, the law FnExactReadScreen returns true and leaves its arguments as they were: the tied card. -/
import Derived.Test.YtpcdjpfffanlbaaDoorCards
import Derived.Test.YtpcdjpfffanlbaaDoorTie
import Derived.Test.YtpcdjpfffanlbaaDoorZG48
import Derived.WalkKit
import Derived.ProofKit
import Derived.OpenShut
import Derived.ShutString
import Derived.ChangeOld
import Derived.Below
import Derived.OpenVars
import Derived.LaidMore
import Derived.Lay
import Derived.Stop.Joined
namespace Go.Proofs.YtpcdjpfffanlbaaDoor
open Go.ChangeShapes Go.WideShapes Go.ChangeAt Go.RowKit
open Go.ChangeMaps (open_string shut_string)
set_option linter.unusedVariables false

set_option maxHeartbeats 4000000 in
set_option maxRecDepth 100000 in
theorem walk (w : World) (a0 : Option Addr) (len0 cap0 : Nat) (l0 : List UInt8) (e0 : l0.length = len0) (w0 : Row8 w a0 l0) (hT : ErrsIn w) :
  Calls Tryd.prog 3 #[.slice a0 len0 cap0] w fun e w' => e = .returned (.bool true) ∧ Below w.heap.size w w' := by
 subst e0
 have hr := row8_V w0
 clear w0
 rename List UInt8 => l
 have HE := hide hT
 clear hT
 by_cases big : 1048576 < l.length
 ·clear hr
  go_enter Tryd.func3, Tryd.ntmps3
  go_wp2_with fail
  go_ret
  exact ⟨rfl, Below.refl _ _⟩
 have hs : l.length ≤ 1048576 := by omega
 have HS := hide hs
 have HR := hide hr
 clear hr
 obtain ⟨i0, i1, i2, i3, i4, i5, i6, i7, i8, t, L, m, c, his⟩ := rs_ex l
 have hL := rs_len his
 have nc : (c != c) = false := by simp
 have HNL : Hid (L.length ≤ 500000) := by show _ ≤ _; omega
 have HNM : Hid (m.length ≤ 500000) := by show _ ≤ _; omega
 obtain ⟨q, hq⟩ : ∃ q : Int, q = ((1 + L.length * 2 + m.length : Nat) : Int) := ⟨_, rfl⟩
 have q1 : ¬ q < 0 := by omega
 have nq : (q != q) = false := by simp
 have HQ := hide hq
 obtain ⟨kx, hkx⟩ : ∃ kx : Int, kx = ((1 + l.length : Nat) : Int) := ⟨_, rfl⟩
 have HKX := hide hkx
 have hk0 : ¬ kx < 0 := by omega
 have TS := hide (fun a cap w1 hr => sreadscreen a cap l i0 i1 i2 i3 i4 i5 i6 i7 i8 t L m c his w1 hr)
 have TI := hide (fun a w1 hr hE => ireadscreen a l.length l hs (Nat.le_refl _) i0 i1 i2 i3 i4 i5 i6 i7 i8 t L m c his w1 hr hE)
 clear his hq hkx hL
 have B_1 := hide (Below.refl w.heap.size w)
 go_enter Tryd.func3, Tryd.ntmps3
 go_wp2_with fail
 refine (copyByte a0 cap0 l (unhide HS) _ ((unhide HR).below (unhide B_1))).mono ?_
 rintro e w1 ⟨rfl, o1, hb1⟩
 have zz1 := hb1.size
 have B_2 := hide ((unhide B_1).trans (hb1.mono (unhide B_1).size))
 clear B_1
 clear hb1
 have S_3 := hide (held_of o1)
 clear o1
 try simp only [World.size_alloc] at S_3 zz1
 go_wp2_with fail
 refine (unhide TS _ _ _ (unhide S_3).rowV).mono ?_
 rintro e w2 ⟨vW, uW, rfl, hoW, hpW, hb2⟩
 have z2 : w1.heap.size ≤ w2.heap.size := by have := hb2.size; (try simp at this); omega
 have B_4 := hide ((unhide B_2).trans (hb2.mono (unhide B_2).size))
 clear B_2
 have S_5 := hide ((unhide S_3).below hb2 (unhide S_3).le)
 clear S_3
 clear hb2
 clear S_5
 obtain ⟨aW, cW, rfl, -⟩ := ownZ_rowV hoW
 obtain ⟨bW, dW, rfl, -⟩ := ownZ_rowV hpW
 have W_0 := hide (ScrIn.laid (sc := #[.int .i64 i0, .int .i64 i1, .int .i64 i2, .int .i64 i3, .int .i64 i4, .int .i64 i5, .int .i64 i6, .int .i64 i7, .int .i64 i8, .string t, .slice aW L.length cW, .slice bW m.length dW]) hoW hpW)
 have B_6 := hide ((unhide B_4).alloc (unhide B_4).size (.cells #[.int .i64 i0, .int .i64 i1, .int .i64 i2, .int .i64 i3, .int .i64 i4, .int .i64 i5, .int .i64 i6, .int .i64 i7, .int .i64 i8, .string t, .slice aW L.length cW, .slice bW m.length dW] 26))
 clear B_4
 clear hoW hpW
 try simp only [World.size_alloc] at W_0
 go_wp2_with fail
 refine (copyByte a0 cap0 l (unhide HS) _ ((unhide HR).below (unhide B_6))).mono ?_
 rintro e w3 ⟨rfl, o3, hb3⟩
 have zz3 := hb3.size
 have B_7 := hide ((unhide B_6).trans (hb3.mono (unhide B_6).size))
 clear B_6
 have W_8 := hide ((unhide W_0).below hb3)
 clear W_0
 clear hb3
 have X_9 := hide (held_of o3)
 clear o3
 try simp only [World.size_alloc] at X_9 zz3
 go_wp2_with fail
 refine (unhide TI _ _ (unhide X_9).rowV ((unhide HE).below (unhide B_7))).mono ?_
 rintro e w4 ⟨vG, uG, rfl, hoG, hpG, hb4⟩
 have z4 : w3.heap.size ≤ w4.heap.size := by have := hb4.size; (try simp at this); omega
 have B_10 := hide ((unhide B_7).trans (hb4.mono (unhide B_7).size))
 clear B_7
 have W_11 := hide ((unhide W_8).below hb4)
 clear W_8
 have X_12 := hide ((unhide X_9).below hb4 (unhide X_9).le)
 clear X_9
 clear hb4
 obtain ⟨aG, cG, rfl, -⟩ := ownZ_rowV hoG
 obtain ⟨bG, dG, rfl, -⟩ := ownZ_rowV hpG
 have G_0 := hide (ScrIn.laid (sc := #[.int .i64 i0, .int .i64 i1, .int .i64 i2, .int .i64 i3, .int .i64 i4, .int .i64 i5, .int .i64 i6, .int .i64 i7, .int .i64 i8, .string t, .slice aG L.length cG, .slice bG m.length dG]) hoG hpG)
 have B_13 := hide ((unhide B_10).alloc (unhide B_10).size (.cells #[.int .i64 i0, .int .i64 i1, .int .i64 i2, .int .i64 i3, .int .i64 i4, .int .i64 i5, .int .i64 i6, .int .i64 i7, .int .i64 i8, .string t, .slice aG L.length cG, .slice bG m.length dG] 26))
 clear B_10
 have W_14 := hide ((unhide W_11).alloc (.cells #[.int .i64 i0, .int .i64 i1, .int .i64 i2, .int .i64 i3, .int .i64 i4, .int .i64 i5, .int .i64 i6, .int .i64 i7, .int .i64 i8, .string t, .slice aG L.length cG, .slice bG m.length dG] 26))
 clear W_11
 have X_15 := hide ((unhide X_12).below (Go.Joins.below_alloc1 _ (.cells #[.int .i64 i0, .int .i64 i1, .int .i64 i2, .int .i64 i3, .int .i64 i4, .int .i64 i5, .int .i64 i6, .int .i64 i7, .int .i64 i8, .string t, .slice aG L.length cG, .slice bG m.length dG] 26)) (unhide X_12).le)
 clear X_12
 clear hoG hpG
 try simp only [World.size_alloc] at G_0
 have kG := (unhide G_0).box
 have kW := (unhide W_14).box
 go_wp2_with fail
 refine (eqScr i0 i1 i2 i3 i4 i5 i6 i7 i8 t aG aW cG cW L bG bW dG dW m (Nat.le_trans (unhide HNL) (by decide)) (Nat.le_trans (unhide HNM) (by decide)) _ (unhide G_0).cells.rowV (unhide W_14).cells.rowV (unhide G_0).hist.rowV (unhide W_14).hist.rowV).mono ?_
 rintro e w5 ⟨rfl, hb5⟩
 clear kG kW
 have B_16 := hide ((unhide B_13).trans (hb5.mono (unhide B_13).size))
 clear B_13
 have W_17 := hide ((unhide W_14).below hb5)
 clear W_14
 have X_18 := hide ((unhide X_15).below hb5 (unhide X_15).le)
 clear X_15
 have G_19 := hide ((unhide G_0).below hb5)
 clear G_0
 clear hb5
 go_wp2_with fail
 refine (copyByte a0 cap0 l (unhide HS) _ ((unhide HR).below (unhide B_16))).mono ?_
 rintro e w6 ⟨rfl, o6, hb6⟩
 have zz6 := hb6.size
 have B_20 := hide ((unhide B_16).trans (hb6.mono (unhide B_16).size))
 clear B_16
 have W_21 := hide ((unhide W_17).below hb6)
 clear W_17
 have X_22 := hide ((unhide X_18).below hb6 (unhide X_18).le)
 clear X_18
 have G_23 := hide ((unhide G_19).below hb6)
 clear G_19
 clear hb6
 have T_24 := hide (held_of o6)
 clear o6
 try simp only [World.size_alloc] at T_24 zz6
 go_wp2_with fail
 refine (sameByte _ _ _ _ l (unhide HS) _ (unhide X_22).rowV (unhide T_24).rowV).mono ?_
 rintro e w7 ⟨rfl, hb7⟩
 have B_25 := hide ((unhide B_20).trans (hb7.mono (unhide B_20).size))
 clear B_20
 have W_26 := hide ((unhide W_21).below hb7)
 clear W_21
 have X_27 := hide ((unhide X_22).below hb7 (unhide X_22).le)
 clear X_22
 have G_28 := hide ((unhide G_23).below hb7)
 clear G_23
 have T_29 := hide ((unhide T_24).below hb7 (unhide T_24).le)
 clear T_24
 clear hb7
 clear T_29
 go_wp2_with fail
 refine (markByte1 _ l.length _ _ kx _ (unhide HKX) (Nat.le_trans (unhide HS) (by decide)) _ (unhide X_27)).mono ?_
 rintro e w8 ⟨rfl, h8, hg8⟩
 have B_30 := hide (Below.marked (unhide B_25) (unhide B_25).size (unhide X_27) (by omega) hg8)
 clear B_25
 have W_31 := hide ((unhide W_26).spared (Spared.of_grown hg8 (unhide X_27).blk) (.inl (by omega)) (.inl (by omega)))
 clear W_26
 have G_32 := hide ((unhide G_28).spared (Spared.of_grown hg8 (unhide X_27).blk) (.inr (by omega)) (.inr (by omega)))
 clear G_28
 clear h8 hg8 X_27
 have kG := (unhide G_32).box
 have kW := (unhide W_31).box
 go_wp2_with fail
 refine (eqScr i0 i1 i2 i3 i4 i5 i6 i7 i8 t aG aW cG cW L bG bW dG dW m (Nat.le_trans (unhide HNL) (by decide)) (Nat.le_trans (unhide HNM) (by decide)) _ (unhide G_32).cells.rowV (unhide W_31).cells.rowV (unhide G_32).hist.rowV (unhide W_31).hist.rowV).mono ?_
 rintro e w9 ⟨rfl, hb9⟩
 clear kG kW
 have B_33 := hide ((unhide B_30).trans (hb9.mono (unhide B_30).size))
 clear B_30
 have W_34 := hide ((unhide W_31).below hb9)
 clear W_31
 have G_35 := hide ((unhide G_32).below hb9)
 clear G_32
 clear hb9
 have kG := (unhide G_35).box
 go_wp2_with fail
 refine (markScr i0 i1 i2 i3 i4 i5 i6 i7 i8 t _ _ L.length m.length _ _ q _ _ (unhide HQ) (unhide HNL) (unhide HNM) _ (unhide G_35).cells (unhide G_35).hist).mono ?_
 rintro e w10 ⟨rfl, hc10, hh10, hs10⟩
 clear kG
 have G_m := hide ((unhide G_35).marked hs10 hc10 hh10)
 clear G_35
 have B_36 := hide ((unhide B_33).trans (hs10.below (by omega) (unhide B_33).size))
 clear B_33
 have W_37 := hide ((unhide W_34).spared hs10 (.inl (by omega)) (.inl (by omega)))
 clear W_34
 clear hs10 hc10 hh10
 have kG := (unhide G_m).box
 go_wp2_with fail
 refine (heldScr i0 i1 i2 i3 i4 i5 i6 i7 i8 t _ _ L.length m.length _ _ q (unhide HQ) (unhide HNL) (unhide HNM) _ (unhide G_m).cells (unhide G_m).hist).mono ?_
 rintro e w11 ⟨rfl, hb11⟩
 clear kG
 have B_38 := hide ((unhide B_36).trans (hb11.mono (unhide B_36).size))
 clear B_36
 have W_39 := hide ((unhide W_37).below hb11)
 clear W_37
 have G_40 := hide ((unhide G_m).below hb11)
 clear G_m
 clear hb11
 go_wp2_with fail
 refine (copyByte a0 cap0 l (unhide HS) _ ((unhide HR).below (unhide B_38))).mono ?_
 rintro e w12 ⟨rfl, o12, hb12⟩
 have zz12 := hb12.size
 have B_41 := hide ((unhide B_38).trans (hb12.mono (unhide B_38).size))
 clear B_38
 have W_42 := hide ((unhide W_39).below hb12)
 clear W_39
 have G_43 := hide ((unhide G_40).below hb12)
 clear G_40
 clear hb12
 have Y_44 := hide (held_of o12)
 clear o12
 try simp only [World.size_alloc] at Y_44 zz12
 go_wp2_with fail
 refine (unhide TI _ _ (unhide Y_44).rowV ((unhide HE).below (unhide B_41))).mono ?_
 rintro e w13 ⟨vH, uH, rfl, hoH, hpH, hb13⟩
 have B_45 := hide ((unhide B_41).trans (hb13.mono (unhide B_41).size))
 clear B_41
 have W_46 := hide ((unhide W_42).below hb13)
 clear W_42
 have G_47 := hide ((unhide G_43).below hb13)
 clear G_43
 have Y_48 := hide ((unhide Y_44).below hb13 (unhide Y_44).le)
 clear Y_44
 clear hb13
 obtain ⟨aH, cH, rfl, -⟩ := ownZ_rowV hoH
 obtain ⟨bH, dH, rfl, -⟩ := ownZ_rowV hpH
 have H_0 := hide (ScrIn.laid (sc := #[.int .i64 i0, .int .i64 i1, .int .i64 i2, .int .i64 i3, .int .i64 i4, .int .i64 i5, .int .i64 i6, .int .i64 i7, .int .i64 i8, .string t, .slice aH L.length cH, .slice bH m.length dH]) hoH hpH)
 have B_49 := hide ((unhide B_45).alloc (unhide B_45).size (.cells #[.int .i64 i0, .int .i64 i1, .int .i64 i2, .int .i64 i3, .int .i64 i4, .int .i64 i5, .int .i64 i6, .int .i64 i7, .int .i64 i8, .string t, .slice aH L.length cH, .slice bH m.length dH] 26))
 clear B_45
 have W_50 := hide ((unhide W_46).alloc (.cells #[.int .i64 i0, .int .i64 i1, .int .i64 i2, .int .i64 i3, .int .i64 i4, .int .i64 i5, .int .i64 i6, .int .i64 i7, .int .i64 i8, .string t, .slice aH L.length cH, .slice bH m.length dH] 26))
 clear W_46
 have G_51 := hide ((unhide G_47).alloc (.cells #[.int .i64 i0, .int .i64 i1, .int .i64 i2, .int .i64 i3, .int .i64 i4, .int .i64 i5, .int .i64 i6, .int .i64 i7, .int .i64 i8, .string t, .slice aH L.length cH, .slice bH m.length dH] 26))
 clear G_47
 have Y_52 := hide ((unhide Y_48).below (Go.Joins.below_alloc1 _ (.cells #[.int .i64 i0, .int .i64 i1, .int .i64 i2, .int .i64 i3, .int .i64 i4, .int .i64 i5, .int .i64 i6, .int .i64 i7, .int .i64 i8, .string t, .slice aH L.length cH, .slice bH m.length dH] 26)) (unhide Y_48).le)
 clear Y_48
 clear hoH hpH
 try simp only [World.size_alloc] at H_0
 have kH := (unhide H_0).box
 have kW := (unhide W_50).box
 go_wp2_with fail
 refine (eqScr i0 i1 i2 i3 i4 i5 i6 i7 i8 t aH aW cH cW L bH bW dH dW m (Nat.le_trans (unhide HNL) (by decide)) (Nat.le_trans (unhide HNM) (by decide)) _ (unhide H_0).cells.rowV (unhide W_50).cells.rowV (unhide H_0).hist.rowV (unhide W_50).hist.rowV).mono ?_
 rintro e w14 ⟨rfl, hb14⟩
 clear kH kW
 have B_53 := hide ((unhide B_49).trans (hb14.mono (unhide B_49).size))
 clear B_49
 have W_54 := hide ((unhide W_50).below hb14)
 clear W_50
 have G_55 := hide ((unhide G_51).below hb14)
 clear G_51
 have Y_56 := hide ((unhide Y_52).below hb14 (unhide Y_52).le)
 clear Y_52
 have H_57 := hide ((unhide H_0).below hb14)
 clear H_0
 clear hb14
 have kG := (unhide G_55).box
 go_wp2_with fail
 refine (heldScr i0 i1 i2 i3 i4 i5 i6 i7 i8 t _ _ L.length m.length _ _ q (unhide HQ) (unhide HNL) (unhide HNM) _ (unhide G_55).cells (unhide G_55).hist).mono ?_
 rintro e w15 ⟨rfl, hb15⟩
 clear kG
 have B_58 := hide ((unhide B_53).trans (hb15.mono (unhide B_53).size))
 clear B_53
 have W_59 := hide ((unhide W_54).below hb15)
 clear W_54
 have G_60 := hide ((unhide G_55).below hb15)
 clear G_55
 have Y_61 := hide ((unhide Y_56).below hb15 (unhide Y_56).le)
 clear Y_56
 have H_62 := hide ((unhide H_57).below hb15)
 clear H_57
 clear hb15
 go_wp2_with fail
 go_ret
 exact ⟨rfl, (unhide B_58)⟩

theorem own : ownKnob Tryd.prog.godebug = none := by kernel_rfl
theorem laidOut : laidOutB Tryd.prog = true := by kernel_rfl
theorem door_met (os : Os) (args : Array Value) : laidMetH Tryd.prog Rows.fnExactReadScreenRow.laid ((World.doorLaid Tryd.prog 73 os).forCall (fun _ _ => 0) ⟨#[], args, []⟩).memory :=
 laidMetH_of_parts3 (fuel := 8) (laidMet_of_run' 8 (by kernel_rfl) (by kernel_rfl)) (by kernel_rfl) (by kernel_rfl)
set_option maxRecDepth 100000 in
theorem lifted (os : Os) (started : os.Started) (H : Type) (enc : TypeId × Value → H) :
  ReturnsInHanded {} Tryd.checked os 3 .any (fun w args => (Rows.fnExactReadScreenSpec.pre enc Tryd.prog Tryd.f3 [] false w args ∧ laidMetH Tryd.prog Rows.fnExactReadScreenRow.laid w) ∧ sizedMet enc Tryd.prog Tryd.f3 (OpenSpec.ofChange Rows.fnExactReadScreenSpec) false w args)
   (Rows.fnExactReadScreenSpec.post enc Tryd.prog Tryd.f3 false true false false) := by
 refine returnsInHanded_of_change_and (C := Tryd.checked) (X := fun w _ => laidMetH Tryd.prog Rows.fnExactReadScreenRow.laid w) (fun _ _ _ hh h => h.of_heap hh) own started (by kernel_rfl) Tryd.func3
  (ChangeSpec.witness_shaped (enc := enc) (C := Tryd.checked) (os := os) (X := fun w _ => laidMetH Tryd.prog Rows.fnExactReadScreenRow.laid w) false (World.doorLaid Tryd.prog 73 os) #[.slice none 0 0] 8 rfl (World.shaped_of_RefB (by kernel_rfl) (by kernel_rfl)) (by kernel_rfl) (by kernel_rfl) (by kernel_rfl) (door_met os _)) ?_
 intro W base args ds gs before hval0 hW _ _ hL _
 have hval : ∀ (j : Nat) t v, Tryd.f3.params[j]? = some t → args[j]? = some v → Value.okWide Tryd.prog W .any base t v := hval0
 have hW' := hW
 obtain ⟨p, q, hA0, hV, rfl, hfz, hnd⟩ := hW
 have hA : DataW.TrodAll enc Tryd.prog W 0 (fun _ => true) true Tryd.f3.params.toList args.toList ds p := hA0
 rw [Tryd.params3] at hA hval
 obtain ⟨v0, vs0, d0, ds0, p0, q0, hargs, rfl, rfl, h0, r0⟩ := trodAll_cons hA
 obtain ⟨rfl, rfl, rfl⟩ := trodAll_nil r0
 obtain rfl : args = #[v0] := by cases args; simp_all
 obtain ⟨g1, g2, g3, rfl⟩ : ∃ d1x d2x d3x, gs = [d1x, d2x, d3x] := vars_len3 hV
 have k0 := h0
 have lt0 : ∀ x ∈ p0, x.block < W.heap.size := by obtain ⟨m, hm⟩ := k0; exact DataW.trod_lt m _ _ _ hm
 obtain ⟨a0, len0, cap0, rfl⟩ := okWide_slice Tryd.underlying22 (hval 0 22 v0 rfl rfl)
 obtain ⟨l0, e0, w0⟩ : ∃ l : List UInt8, l.length = len0 ∧ Row8 W a0 l := by
  obtain ⟨fuel, hf⟩ := h0
  rcases open_ints Tryd.underlying22 Tryd.underlying5 (by kernel_rfl) hf with ⟨hcs, _⟩ | ⟨x, l, c, zs, hcs, _, hl, hm, hz, _, hcell, hwz⟩
  ·simp [Value.cells] at hcs
   obtain ⟨rfl, rfl, rfl⟩ := hcs
   exact ⟨[], rfl, .inl rfl⟩
  ·simp [Value.cells] at hcs
   obtain ⟨rfl, rfl, rfl⟩ := hcs
   exact row8_ints hl (by simpa using hz) hcell hwz
 have hT := errs_laidS hL
 clear hA0 hval0
 refine (walk W a0 len0 cap0 l0 e0 w0 hT).mono fun e W' ⟨he, bel⟩ => ?_
 subst he
 exact ⟨_, rfl, _, _, _, [], _, _, hW', trodAll_mk1 (shut_bool Tryd.underlying4 _), (trodAll_cons_mk (Below.trod laidOut (by kernel_rfl) (of_decide_eq_true (by kernel_rfl)) k0 bel lt0) trodAll_mk0), Below.trodVars laidOut bel (by kernel_rfl) hV, bel.frame _, fun h => by cases h⟩

theorem said : Rows.FnExactReadScreenSaid :=
 OpenClaim.holds_of_wide 3 Tryd.f3 rfl rfl rfl rfl rfl rfl rfl ⟨rfl, rfl, rfl, rfl, rfl⟩ rfl rfl rfl rfl rfl (by kernel_rfl) Tryd.func3 (by kernel_rfl)
  (of_decide_eq_true (by kernel_rfl)) (by unfold Func.isWrapper; first | (rw [if_pos (by decide +kernel)]; kernel_rfl) | (rw [if_neg (by decide +kernel)]; exact ⟨rfl, rfl⟩))
  (fun os started H enc _ => lifted os started H enc)

theorem card : Rows.FnExactReadScreenCardSaid :=
 Claim7.holds_tied_plain_at .later [] _ _ _ _ said (fun _ h => by cases h) (by kernel_rfl) (fun _ h => by cases h) fnExactReadScreen_row_tie rfl ⟨rfl, rfl⟩ (by kernel_rfl) rfl
  (fun f fn hf hfn => by
   obtain rfl : f = 3 := Option.some.inj ((show Tryd.prog.funcNamed Tryd.f3.name = some 3 by kernel_rfl).symm.trans hf) |>.symm
   obtain rfl : fn = Tryd.f3 := (Option.some.inj (Tryd.func3.symm.trans hfn)).symm
   exact ⟨by kernel_rfl, fun j t ht => by
    rw [Tryd.params3] at ht
    have hm : t ∈ [22] := by simpa using Array.mem_of_getElem? ht
    have hall : ([22].all fun u => !Tryd.prog.wantsStandIn u) = true := by kernel_rfl
    exact (show Tryd.prog.wantsStandIn t = false by simpa using List.all_eq_true.1 hall t hm)⟩)
  (by kernel_rfl)
#print axioms card
end Go.Proofs.YtpcdjpfffanlbaaDoor
