/- At every argument that can be read, with the listed variables as the program text lays them, the law FnSplits returns true and leaves its arguments as they were: the tied card. -/
import Derived.Test.YtgnecacoehedkaaDoorCards
import Derived.Test.YtgnecacoehedkaaDoorTie
import Derived.Test.YtgnecacoehedkaaDoorZG48
import Derived.WalkKit
import Derived.ProofKit
import Derived.OpenShut
import Derived.ShutString
import Derived.ChangeOld
import Derived.Below
import Derived.OpenVars
import Derived.LaidMore
import Derived.Lay
import Derived.Stop.Joined
namespace Go.Proofs.YtgnecacoehedkaaDoor
open Go.ChangeShapes Go.WideShapes Go.ChangeAt Go.RowKit
open Go.ChangeMaps (open_string shut_string)
set_option linter.unusedVariables false

abbrev oFsp0 : Oper := { dst := some 65, op := .call { callee := .value (.func 4), args := #[.tmp 64, .const (.int .i64 3), .const (.int .i64 2)], argTypes := #[22, 3, 3] }, type := 3, pos := "laws.go:502", after := #[{ on := 4, ground := .data }], guard := none }
abbrev oFsp1 : Oper := { dst := some 11, op := .alloc 26, type := 0, pos := "laws.go:502", after := #[], guard := none }
abbrev oFsp2 : Oper := { dst := some 66, op := .binOp .eql 3 (.tmp 65) (.const (.int .i64 1)) 3, type := 4, pos := "laws.go:502", after := #[{ on := 5, ground := .data }], guard := none }
abbrev oFsp3 : Oper := { dst := some 67, op := .call { callee := .value (.func 7), args := #[.tmp 60, .tmp 61, .tmp 62, .tmp 63, .const (.int .i64 77), .tmp 66], argTypes := #[26, 3, 3, 3, 3, 4] }, type := 33, pos := "laws.go:502", after := #[{ on := 0, ground := .data }, { on := 1, ground := .data }, { on := 2, ground := .data }, { on := 3, ground := .data }, { on := 6, ground := .data }, { on := 5, ground := .chain }], guard := none }
abbrev oFsp4 : Oper := { dst := some 59, op := .move (.tmp 67), type := 33, pos := "laws.go:502", after := #[{ on := 7, ground := .data }], guard := none }
abbrev oFsp5 : Oper := { dst := some 68, op := .extract (.tmp 59) 0, type := 26, pos := "laws.go:502", after := #[{ on := 8, ground := .data }], guard := none }
abbrev oFsp6 : Oper := { dst := some 69, op := .extract (.tmp 59) 1, type := 3, pos := "laws.go:502", after := #[{ on := 8, ground := .data }, { on := 12, ground := .gcOnly Go.Departure.lateStores }], guard := none }
abbrev oFsp7 : Oper := { dst := none, op := .store 26 (.tmp 11) (.tmp 68), type := 0, pos := "laws.go:502", after := #[{ on := 11, ground := .data }, { on := 9, ground := .data }, { on := 7, ground := .chain }, { on := 0, ground := .phase }, { on := 1, ground := .phase }, { on := 2, ground := .phase }, { on := 3, ground := .phase }, { on := 4, ground := .phase }, { on := 5, ground := .phase }, { on := 6, ground := .phase }, { on := 7, ground := .phase }, { on := 8, ground := .phase }, { on := 9, ground := .phase }, { on := 10, ground := .textOnly Go.Departure.lateStores }, { on := 11, ground := .phase }], guard := none }
abbrev oFsp8 : Oper := { dst := some 12, op := .assign (.tmp 69), type := 3, pos := "laws.go:502", after := #[{ on := 10, ground := .data }, { on := 12, ground := .chain }, { on := 0, ground := .phase }, { on := 1, ground := .phase }, { on := 2, ground := .phase }, { on := 3, ground := .phase }, { on := 4, ground := .phase }, { on := 5, ground := .phase }, { on := 6, ground := .phase }, { on := 7, ground := .phase }, { on := 8, ground := .phase }, { on := 9, ground := .phase }, { on := 10, ground := .phase }, { on := 11, ground := .phase }, { on := 12, ground := .phase }], guard := none }
abbrev oFsp9 : Oper := { dst := some 76, op := .call { callee := .value (.func 4), args := #[.tmp 75, .const (.int .i64 3), .const (.int .i64 2)], argTypes := #[22, 3, 3] }, type := 3, pos := "laws.go:503", after := #[{ on := 4, ground := .data }], guard := none }
abbrev oFsp10 : Oper := { dst := some 13, op := .alloc 26, type := 0, pos := "laws.go:503", after := #[], guard := none }
abbrev oFsp11 : Oper := { dst := some 77, op := .binOp .eql 3 (.tmp 76) (.const (.int .i64 1)) 3, type := 4, pos := "laws.go:503", after := #[{ on := 5, ground := .data }], guard := none }
abbrev oFsp12 : Oper := { dst := some 78, op := .call { callee := .value (.func 8), args := #[.tmp 71, .tmp 72, .tmp 73, .tmp 74, .const (.int .i64 77), .tmp 77], argTypes := #[26, 3, 3, 3, 3, 4] }, type := 33, pos := "laws.go:503", after := #[{ on := 0, ground := .data }, { on := 1, ground := .data }, { on := 2, ground := .data }, { on := 3, ground := .data }, { on := 6, ground := .data }, { on := 5, ground := .chain }], guard := none }
abbrev oFsp13 : Oper := { dst := some 70, op := .move (.tmp 78), type := 33, pos := "laws.go:503", after := #[{ on := 7, ground := .data }], guard := none }
abbrev oFsp14 : Oper := { dst := some 79, op := .extract (.tmp 70) 0, type := 26, pos := "laws.go:503", after := #[{ on := 8, ground := .data }], guard := none }
abbrev oFsp15 : Oper := { dst := some 80, op := .extract (.tmp 70) 1, type := 3, pos := "laws.go:503", after := #[{ on := 8, ground := .data }, { on := 12, ground := .gcOnly Go.Departure.lateStores }], guard := none }
abbrev oFsp16 : Oper := { dst := none, op := .store 26 (.tmp 13) (.tmp 79), type := 0, pos := "laws.go:503", after := #[{ on := 11, ground := .data }, { on := 9, ground := .data }, { on := 7, ground := .chain }, { on := 0, ground := .phase }, { on := 1, ground := .phase }, { on := 2, ground := .phase }, { on := 3, ground := .phase }, { on := 4, ground := .phase }, { on := 5, ground := .phase }, { on := 6, ground := .phase }, { on := 7, ground := .phase }, { on := 8, ground := .phase }, { on := 9, ground := .phase }, { on := 10, ground := .textOnly Go.Departure.lateStores }, { on := 11, ground := .phase }], guard := none }
abbrev oFsp17 : Oper := { dst := some 14, op := .assign (.tmp 80), type := 3, pos := "laws.go:503", after := #[{ on := 10, ground := .data }, { on := 12, ground := .chain }, { on := 0, ground := .phase }, { on := 1, ground := .phase }, { on := 2, ground := .phase }, { on := 3, ground := .phase }, { on := 4, ground := .phase }, { on := 5, ground := .phase }, { on := 6, ground := .phase }, { on := 7, ground := .phase }, { on := 8, ground := .phase }, { on := 9, ground := .phase }, { on := 10, ground := .phase }, { on := 11, ground := .phase }, { on := 12, ground := .phase }], guard := none }
set_option maxHeartbeats 8000000 in
set_option maxRecDepth 100000 in
theorem walk (w : World) (a0 : Option Addr) (len0 cap0 : Nat) (l0 : List UInt8) (e0 : l0.length = len0) (w0 : Row8 w a0 l0) (a1 : Option Addr) (len1 cap1 : Nat) (l1 : List UInt8) (e1 : l1.length = len1) (w1 : Row8 w a1 l1) (hT : PowIn w) :
  Calls Tryd.prog 3 #[.slice a0 len0 cap0, .slice a1 len1 cap1] w fun e w' => e = .returned (.bool true) ∧ Below w.heap.size w w' := by
 subst e0 e1
 have r0 := w0
 have r1 := w1
 have HE := hide hT
 have HG := hide hT.pos
 clear w0 w1 hT
 by_cases big0 : 1048576 < l0.length
 ·have b0 : (1048576 : Int) < (l0.length : Int) := by omega
  clear r0 r1
  go_enter Tryd.func3, Tryd.ntmps3
  go_wp2_with fail
  go_ret
  exact ⟨rfl, Below.refl _ _⟩
 have b0 : ¬ (1048576 : Int) < (l0.length : Int) := by omega
 by_cases big1 : 1048576 < l1.length
 ·have b1 : (1048576 : Int) < (l1.length : Int) := by omega
  clear r0 r1
  go_enter Tryd.func3, Tryd.ntmps3
  go_wp2_with fail
  go_ret
  exact ⟨rfl, Below.refl _ _⟩
 have b1 : ¬ (1048576 : Int) < (l1.length : Int) := by omega
 have HS0 : Hid (l0.length ≤ 1048600) := by show _ ≤ _; omega
 have HS1 : Hid (l1.length ≤ 1048576) := by show _ ≤ _; omega
 have HR0 := hide r0
 have HR1 := hide (row8_V r1)
 clear r0 r1 big0 big1
 have T := lat a1 cap1 l1 0 21 (unhide HS1) (by decide) (by decide) (by decide) w (unhide HR1)
 change Calls _ _ #[_, .int .i64 0, .int .i64 21] _ _ at T
 have HT := hide T
 clear T
 go_enter Tryd.func3, Tryd.ntmps3
 go_wp2_with fail
 refine (unhide HT).mono ?_
 rintro e w1 ⟨v1, rfl, hv1, hb1⟩
 have B1 := hide hb1
 clear hb1 HT
 have T := lat a1 cap1 l1 1 7 (unhide HS1) (by decide) (by decide) (by decide) w1 ((unhide HR1).below (unhide B1))
 change Calls _ _ #[_, .int .i64 1, .int .i64 7] _ _ at T
 have HT := hide T
 clear T
 obtain ⟨W, hW⟩ : ∃ W : Nat, W = 4 + v1 := ⟨_, rfl⟩
 have W1 : (4 : Int) + (v1 : Int) = (W : Int) := by omega
 have Wb : 4 ≤ W ∧ W ≤ 24 := by omega
 clear hW hv1
 go_wp2_with fail
 refine (unhide HT).mono ?_
 rintro e w2 ⟨v2, rfl, hv2, hb2⟩
 have B2 := hide ((unhide B1).trans (hb2.mono (unhide B1).size))
 clear hb2 HT B1
 obtain ⟨H, hH⟩ : ∃ H : Nat, H = 4 + v2 := ⟨_, rfl⟩
 have H1 : (4 : Int) + (v2 : Int) = (H : Int) := by omega
 have Hb : 4 ≤ H ∧ H ≤ 10 := by omega
 clear hH hv2
 have HSZ : Hid (sizeB (W : Int) (H : Int) = true) := decide_eq_true (by omega)
 go_wp2_with fail
 refine (slayoutOf a0 cap0 l0 (unhide HS0) (W : Int) (H : Int) HSZ w2 ((unhide HR0).below (unhide B2))).mono ?_
 rintro e w3 ⟨l, t, a2, cap2, rfl, ht, ht6, ho3, hb3⟩
 have B3 := hide ((unhide B2).trans (hb3.mono (unhide B2).size))
 have L3 := hide (rowZ_at ho3)
 have HTT := hide ht
 have HT6 := hide ht6
 clear hb3 B2 ho3 ht ht6
 obtain ⟨A, hA⟩ : ∃ A, A = t.areas 0 0 (W : Int) (H : Int) := ⟨_, rfl⟩
 obtain ⟨e1, e2⟩ := arL_some (unhide HTT)
 rw [← hA] at e1
 have HAL : Hid (A = arL l (W : Int) (H : Int)) := e1.symm
 have HAC : Hid (0 = arC l (W : Int) (H : Int)) := e2.symm
 have HA := hide hA
 have hA6 : A.length ≤ 6 := by rw [hA]; exact areas_len6 (unhide HTT)
 have hA0 : 0 < A.length := by rw [hA]; exact areas_pos _ _ _ _ _
 have HL11 : Hid (l.length ≤ 1048576) := by show _ ≤ _; have := (tofS_ok (unhide HTT)).2.2.1; have := (tofS_ok (unhide HTT)).2.2.2.1; omega
 clear e1 e2 hA
 obtain ⟨zZ, hzZ⟩ : ∃ z, z = w3.heap.size := ⟨_, rfl⟩
 have B0 := B3
 have R0 := L3
 clear B3 L3
 have B1 : Hid (Below w.heap.size w (w3.alloc (.cells #[.slice a2 l.length cap2] 26))) := (unhide B0).trans ((Go.Joins.below_alloc1 w3 (.cells #[.slice a2 l.length cap2] 26)).mono (unhide B0).size)
 have R1 : Hid (RowV (w3.alloc (.cells #[.slice a2 l.length cap2] 26)) a2 (cPt l)) := (unhide R0).below (Go.Joins.below_alloc1 w3 (.cells #[.slice a2 l.length cap2] 26))
 clear B0 R0
 have Z1 : Hid (BF zZ #[.slice a2 l.length cap2] (w3.alloc (.cells #[.slice a2 l.length cap2] 26))) := by show BF _ _ _; rw [hzZ]; exact BF.new w3 #[.slice a2 l.length cap2] 26
 skip
 go_wp2_with fail
 rw [← hzZ]
 generalize (w3.alloc (.cells #[.slice a2 l.length cap2] 26)) = w4 at B1 R1 Z1 ⊢
 clear hzZ
 refine (slareas a2 cap2 l.length l rfl (unhide HL11) (W : Int) (H : Int) 0 A HAC HAL w4 (unhide R1)).mono ?_
 rintro e w5 ⟨aB, capB, rfl, hoB, hb⟩
 have B2 : Hid (Below w.heap.size w w5) := (unhide B1).trans (hb.mono (unhide B1).size)
 have R2 : Hid (RowV w5 a2 (cPt l)) := (unhide R1).below hb
 have Z2 : Hid (BF zZ #[.slice a2 l.length cap2] w5) := (unhide Z1).below hb
 clear B1 R1 Z1
 have A2 : Hid (RowV w5 aB (cAr A)) := rowZ_at hoB
 clear hoB hb
 have hz0 : ((A.length : Int) == 0) = false := beq_eq_false_iff_ne.2 (by omega)
 have hz1 : ¬ (A.length : Int) = 0 := by omega
 have T := latN a1 cap1 l1 2 A.length (unhide HS1) (by decide) hA0 (by omega) w5 ((unhide HR1).below (unhide B2))
 change Calls _ _ #[_, .int .i64 2, _] _ _ at T
 have HT := hide T
 clear T
 go_wp2_with fail
 refine (unhide HT).mono ?_
 rintro e w6 ⟨v, rfl, hv, hb⟩
 have B3 : Hid (Below w.heap.size w w6) := (unhide B2).trans (hb.mono (unhide B2).size)
 have R3 : Hid (RowV w6 a2 (cPt l)) := (unhide R2).below hb
 have Z3 : Hid (BF zZ #[.slice a2 l.length cap2] w6) := (unhide Z2).below hb
 have A3 : Hid (RowV w6 aB (cAr A)) := (unhide A2).below hb
 clear B2 R2 Z2 A2
 clear hb HT hz0 hz1
 obtain ⟨pn, hpn⟩ : ∃ pn, pn = A[v].pane := ⟨_, rfl⟩
 have HPN : Hid (pn ∈ t.panes) := by
  show _ ∈ _
  have e := unhide HA
  subst e
  rw [hpn]; exact area_pane hv
 obtain ⟨b, off, ha, hblt, hc⟩ := (unhide A3).at (by rw [cAr_len]; omega)
 have x0 := (rowAr hc v hv).1
 rw [← hpn] at x0
 have hv' : (v : Int) < (A.length : Int) := by omega
 have hv0 : (0 : Int) ≤ (v : Int) := by omega
 subst ha
 clear hc hpn
 obtain ⟨v3, hv3⟩ : ∃ v3, v3 = atV l1 3 2 := ⟨_, rfl⟩
 have HV3 := hide hv3
 obtain ⟨rws, hrw⟩ : ∃ b : Bool, b = ((v3 : Int) == 1) := ⟨_, rfl⟩
 have HF77 : Hid ((77 : Int) ∉ t.panes) := fun h => absurd (unhide HT6 77 h) (by decide)
 obtain ⟨l2, e2⟩ : ∃ l2, l2 = splitL l (W : Int) (H : Int) pn 77 rws := ⟨_, rfl⟩
 obtain ⟨c, ec⟩ : ∃ c, c = splitC l (W : Int) (H : Int) pn 77 rws := ⟨_, rfl⟩
 have HL2 := hide e2
 have HC := hide ec
 have HWY := hide (split_ways (unhide HTT) rws (unhide HPN) (unhide HF77) (show inB 77 1 1000 = true by decide))
 rw [← e2, ← ec] at HWY
 have HRW := hide hrw
 clear hv3 e2 ec hrw
 go_wp2_with fail
 clear x0 hblt hv0
 apply Code.wp_mono (Q := CutQ _ (fun P1 aM1 cM1 v' => Hid (Below w.heap.size w v') ∧ Hid (RowV v' a2 (cPt l)) ∧ Hid (BF zZ #[.slice a2 l.length cap2] v') ∧ Hid (RowV v' (some ⟨b, off, none⟩) (cAr A)) ∧ Hid (BF P1 #[.slice aM1 l2.length cM1] v') ∧ Hid (RowV v' aM1 (cPt l2))))
 rotate_left 1
 ·refine wp_region_held_drew (S := fun w' => ∀ o, w'.cell? ⟨zZ, o, none⟩ = (#[.slice a2 l.length cap2] : Array Value)[o]?) (by kernel_rfl) (unhide Z3).S (fun hHeld => ?_)
  have B4 : Hid (Below w.heap.size w w6.drew) := (unhide B3).trans (((Below.refl w6.heap.size w6).drew).mono (unhide B3).size)
  have R4 : Hid (RowV w6.drew a2 (cPt l)) := (unhide R3).below ((Below.refl w6.heap.size w6).drew)
  have Z4 : Hid (BF zZ #[.slice a2 l.length cap2] w6.drew) := (unhide Z3).below ((Below.refl w6.heap.size w6).drew)
  have A4 : Hid (RowV w6.drew (some ⟨b, off, none⟩) (cAr A)) := (unhide A3).below ((Below.refl w6.heap.size w6).drew)
  generalize w6.drew = q10 at B4 R4 Z4 A4 hHeld ⊢
  refine wtv 0 (oi := { dst := some 60, op := .load 26 (.tmp 7), type := 26, pos := "laws.go:502", after := #[], guard := none }) ?_
  refine wtv 1 (oi := { dst := some 61, op := .move (.tmp 5), type := 3, pos := "laws.go:502", after := #[], guard := none }) ?_
  refine wtv 2 (oi := { dst := some 62, op := .move (.tmp 6), type := 3, pos := "laws.go:502", after := #[], guard := none }) ?_
  refine wtv 3 (oi := { dst := some 63, op := .move (.tmp 10), type := 3, pos := "laws.go:502", after := #[], guard := none }) ?_
  refine wtv 4 (oi := { dst := some 64, op := .move (.tmp 1), type := 22, pos := "laws.go:502", after := #[], guard := none }) ?_
  refine wpAnyH_ready (rs := [5, 11]) (by kernel_rfl) (by simp) ?_
  refine AllReadyH.cons (o := oFsp0) rfl (fun K hK => ?_) (AllReadyH.cons (o := oFsp1) rfl (fun K hK => ?_) AllReadyH.nil)
  ·go_simp
   refine (latV a1 cap1 l1 3 2 v3 HV3 (unhide HS1) (by decide) (by decide) (by decide) q10 ((unhide HR1).below (unhide B4))).mono ?_
   rintro e x14 ⟨rfl, hb⟩
   have B5 : Hid (Below w.heap.size w x14) := (unhide B4).trans (hb.mono (unhide B4).size)
   have R5 : Hid (RowV x14 a2 (cPt l)) := (unhide R4).below hb
   have Z5 : Hid (BF zZ #[.slice a2 l.length cap2] x14) := (unhide Z4).below hb
   have A5 : Hid (RowV x14 (some ⟨b, off, none⟩) (cAr A)) := (unhide A4).below hb
   clear B4 R4 Z4 A4
   clear hb
   go_wp2_with fail
   refine hK.out _ _ ?_ (fun hHeld5 => ?_)
   ·exact (unhide Z5).S
   clear hK K
   try simp only [Act.put, qqA, qqB, qqC]
   refine wtv 6 (oi := oFsp2) ?_
   rw [← unhide HRW]
   refine wpAnyH_ready (rs := [7, 11]) (by kernel_rfl) (by simp) ?_
   refine AllReadyH.cons (o := oFsp3) rfl (fun K hK => ?_) (AllReadyH.cons (o := oFsp1) rfl (fun K hK => ?_) AllReadyH.nil)
   ·go_simp
    refine (isplitout a2 cap2 l.length l rfl (unhide HL11) (W : Int) (H : Int) pn 77 rws c l2 HC HL2 x14 (unhide R5)).mono ?_
    rintro e y15 ⟨aM1, cM1, rfl, ho, hb⟩
    have B6 : Hid (Below w.heap.size w y15) := (unhide B5).trans (hb.mono (unhide B5).size)
    have R6 : Hid (RowV y15 a2 (cPt l)) := (unhide R5).below hb
    have Z6 : Hid (BF zZ #[.slice a2 l.length cap2] y15) := (unhide Z5).below hb
    have A6 : Hid (RowV y15 (some ⟨b, off, none⟩) (cAr A)) := (unhide A5).below hb
    clear B5 R5 Z5 A5
    have R16 : Hid (RowV y15 aM1 (cPt l2)) := rowZ_at ho
    clear ho hb
    go_wp2_with fail
    refine hK.out _ _ ?_ (fun hHeld7 => ?_)
    ·exact (unhide Z6).S
    clear hK K
    try simp only [Act.put, qqA, qqB, qqC]
    refine wtv 8 (oi := oFsp4) ?_
    refine wtv 9 (oi := oFsp5) ?_
    refine wtv 10 (oi := oFsp6) ?_
    refine wpAnyH_ready (rs := [11]) (by kernel_rfl) (by simp) ?_
    refine AllReadyH.cons (o := oFsp1) rfl (fun K hK => ?_) AllReadyH.nil
    obtain ⟨P1, hP⟩ : ∃ P, P = y15.heap.size := ⟨_, rfl⟩
    have LPM1 : Hid (w.heap.size ≤ P1) := by show _ ≤ _; rw [hP]; exact (unhide B6).size
    have NEM1Z : Hid (zZ < P1) := by show _ < _; rw [hP]; exact (unhide Z6).lt
    have B7 : Hid (Below w.heap.size w (y15.alloc (.cells #[.slice none 0 0] 26))) := (unhide B6).trans ((Go.Joins.below_alloc1 y15 (.cells #[.slice none 0 0] 26)).mono (unhide B6).size)
    have R7 : Hid (RowV (y15.alloc (.cells #[.slice none 0 0] 26)) a2 (cPt l)) := (unhide R6).below (Go.Joins.below_alloc1 y15 (.cells #[.slice none 0 0] 26))
    have Z7 : Hid (BF zZ #[.slice a2 l.length cap2] (y15.alloc (.cells #[.slice none 0 0] 26))) := (unhide Z6).below (Go.Joins.below_alloc1 y15 (.cells #[.slice none 0 0] 26))
    have A7 : Hid (RowV (y15.alloc (.cells #[.slice none 0 0] 26)) (some ⟨b, off, none⟩) (cAr A)) := (unhide A6).below (Go.Joins.below_alloc1 y15 (.cells #[.slice none 0 0] 26))
    have R17 : Hid (RowV (y15.alloc (.cells #[.slice none 0 0] 26)) aM1 (cPt l2)) := (unhide R16).below (Go.Joins.below_alloc1 y15 (.cells #[.slice none 0 0] 26))
    clear B6 R6 Z6 A6 R16
    have M17 : Hid (BF P1 #[.slice none 0 0] (y15.alloc (.cells #[.slice none 0 0] 26))) := by show BF _ _ _; rw [hP]; exact BF.new y15 #[.slice none 0 0] 26
    go_simp
    rw [← hP]
    clear hP
    generalize (y15.alloc (.cells #[.slice none 0 0] 26)) = q17 at B7 R7 Z7 A7 R17 M17 ⊢
    refine hK.out _ _ ?_ (fun hHeld11 => ?_)
    ·exact (unhide Z7).S
    clear hK K
    try simp only [Act.put, qqA, qqB, qqC]
    refine wpAnyH_ready (rs := [12]) (by kernel_rfl) (by simp) ?_
    refine AllReadyH.cons (o := oFsp7) rfl (fun K hK => ?_) AllReadyH.nil
    have km := (unhide M17).S
    have kf := (unhide M17).F
    go_simp
    clear km kf
    have B8 : Hid (Below w.heap.size w (q17.setCell ⟨P1, 0, none⟩ (.slice aM1 l2.length cM1))) := (unhide B7).setCell (p := ⟨P1, 0, none⟩) (unhide LPM1) _
    have R8 : Hid (RowV (q17.setCell ⟨P1, 0, none⟩ (.slice aM1 l2.length cM1)) a2 (cPt l)) := rowP_set (unhide R7) (unhide M17) _
    have Z8 : Hid (BF zZ #[.slice a2 l.length cap2] (q17.setCell ⟨P1, 0, none⟩ (.slice aM1 l2.length cM1))) := (unhide Z7).far ⟨P1, 0, none⟩ _ (by have := unhide NEM1Z; show P1 ≠ _; omega)
    have A8 : Hid (RowV (q17.setCell ⟨P1, 0, none⟩ (.slice aM1 l2.length cM1)) (some ⟨b, off, none⟩) (cAr A)) := rowA_set (unhide A7) (unhide M17) _
    have R18 : Hid (RowV (q17.setCell ⟨P1, 0, none⟩ (.slice aM1 l2.length cM1)) aM1 (cPt l2)) := rowP_set (unhide R17) (unhide M17) _
    have M18 : Hid (BF P1 #[.slice aM1 l2.length cM1] (q17.setCell ⟨P1, 0, none⟩ (.slice aM1 l2.length cM1))) := (unhide M17).set 0 (by simp) _
    clear B7 R7 Z7 A7 R17 M17
    generalize (q17.setCell ⟨P1, 0, none⟩ (.slice aM1 l2.length cM1)) = s1 at B8 R8 Z8 A8 R18 M18 ⊢
    refine hK.out _ _ ?_ (fun hHeld12 => ?_)
    ·exact (unhide Z8).S
    clear hK K
    try simp only [Act.put, qqA, qqB, qqC]
    refine wtv 13 (oi := oFsp8) ?_
    refine wpAnyH_done (by kernel_rfl) ?_ _
    exact ⟨P1, aM1, cM1, rfl, B8, R8, Z8, A8, M18, R18⟩
   ·obtain ⟨P1, hP⟩ : ∃ P, P = x14.heap.size := ⟨_, rfl⟩
    have LPM1 : Hid (w.heap.size ≤ P1) := by show _ ≤ _; rw [hP]; exact (unhide B5).size
    have NEM1Z : Hid (zZ < P1) := by show _ < _; rw [hP]; exact (unhide Z5).lt
    have B6 : Hid (Below w.heap.size w (x14.alloc (.cells #[.slice none 0 0] 26))) := (unhide B5).trans ((Go.Joins.below_alloc1 x14 (.cells #[.slice none 0 0] 26)).mono (unhide B5).size)
    have R6 : Hid (RowV (x14.alloc (.cells #[.slice none 0 0] 26)) a2 (cPt l)) := (unhide R5).below (Go.Joins.below_alloc1 x14 (.cells #[.slice none 0 0] 26))
    have Z6 : Hid (BF zZ #[.slice a2 l.length cap2] (x14.alloc (.cells #[.slice none 0 0] 26))) := (unhide Z5).below (Go.Joins.below_alloc1 x14 (.cells #[.slice none 0 0] 26))
    have A6 : Hid (RowV (x14.alloc (.cells #[.slice none 0 0] 26)) (some ⟨b, off, none⟩) (cAr A)) := (unhide A5).below (Go.Joins.below_alloc1 x14 (.cells #[.slice none 0 0] 26))
    clear B5 R5 Z5 A5
    have M16 : Hid (BF P1 #[.slice none 0 0] (x14.alloc (.cells #[.slice none 0 0] 26))) := by show BF _ _ _; rw [hP]; exact BF.new x14 #[.slice none 0 0] 26
    go_simp
    rw [← hP]
    clear hP
    generalize (x14.alloc (.cells #[.slice none 0 0] 26)) = q16 at B6 R6 Z6 A6 M16 ⊢
    refine hK.out _ _ ?_ (fun hHeld11 => ?_)
    ·exact (unhide Z6).S
    clear hK K
    try simp only [Act.put, qqA, qqB, qqC]
    refine wpAnyH_ready (rs := [7]) (by kernel_rfl) (by simp) ?_
    refine AllReadyH.cons (o := oFsp3) rfl (fun K hK => ?_) AllReadyH.nil
    go_simp
    refine (isplitout a2 cap2 l.length l rfl (unhide HL11) (W : Int) (H : Int) pn 77 rws c l2 HC HL2 q16 (unhide R6)).mono ?_
    rintro e y16 ⟨aM1, cM1, rfl, ho, hb⟩
    have B7 : Hid (Below w.heap.size w y16) := (unhide B6).trans (hb.mono (unhide B6).size)
    have R7 : Hid (RowV y16 a2 (cPt l)) := (unhide R6).below hb
    have Z7 : Hid (BF zZ #[.slice a2 l.length cap2] y16) := (unhide Z6).below hb
    have A7 : Hid (RowV y16 (some ⟨b, off, none⟩) (cAr A)) := (unhide A6).below hb
    have M17 : Hid (BF P1 #[.slice none 0 0] y16) := (unhide M16).below hb
    clear B6 R6 Z6 A6 M16
    have R17 : Hid (RowV y16 aM1 (cPt l2)) := rowZ_at ho
    clear ho hb
    go_wp2_with fail
    refine hK.out _ _ ?_ (fun hHeld7 => ?_)
    ·exact (unhide Z7).S
    clear hK K
    try simp only [Act.put, qqA, qqB, qqC]
    refine wtv 8 (oi := oFsp4) ?_
    refine wtv 9 (oi := oFsp5) ?_
    refine wtv 10 (oi := oFsp6) ?_
    refine wpAnyH_ready (rs := [12]) (by kernel_rfl) (by simp) ?_
    refine AllReadyH.cons (o := oFsp7) rfl (fun K hK => ?_) AllReadyH.nil
    have km := (unhide M17).S
    have kf := (unhide M17).F
    go_simp
    clear km kf
    have B8 : Hid (Below w.heap.size w (y16.setCell ⟨P1, 0, none⟩ (.slice aM1 l2.length cM1))) := (unhide B7).setCell (p := ⟨P1, 0, none⟩) (unhide LPM1) _
    have R8 : Hid (RowV (y16.setCell ⟨P1, 0, none⟩ (.slice aM1 l2.length cM1)) a2 (cPt l)) := rowP_set (unhide R7) (unhide M17) _
    have Z8 : Hid (BF zZ #[.slice a2 l.length cap2] (y16.setCell ⟨P1, 0, none⟩ (.slice aM1 l2.length cM1))) := (unhide Z7).far ⟨P1, 0, none⟩ _ (by have := unhide NEM1Z; show P1 ≠ _; omega)
    have A8 : Hid (RowV (y16.setCell ⟨P1, 0, none⟩ (.slice aM1 l2.length cM1)) (some ⟨b, off, none⟩) (cAr A)) := rowA_set (unhide A7) (unhide M17) _
    have M18 : Hid (BF P1 #[.slice aM1 l2.length cM1] (y16.setCell ⟨P1, 0, none⟩ (.slice aM1 l2.length cM1))) := (unhide M17).set 0 (by simp) _
    have R18 : Hid (RowV (y16.setCell ⟨P1, 0, none⟩ (.slice aM1 l2.length cM1)) aM1 (cPt l2)) := rowP_set (unhide R17) (unhide M17) _
    clear B7 R7 Z7 A7 M17 R17
    generalize (y16.setCell ⟨P1, 0, none⟩ (.slice aM1 l2.length cM1)) = s1 at B8 R8 Z8 A8 M18 R18 ⊢
    refine hK.out _ _ ?_ (fun hHeld12 => ?_)
    ·exact (unhide Z8).S
    clear hK K
    try simp only [Act.put, qqA, qqB, qqC]
    refine wtv 13 (oi := oFsp8) ?_
    refine wpAnyH_done (by kernel_rfl) ?_ _
    exact ⟨P1, aM1, cM1, rfl, B8, R8, Z8, A8, M18, R18⟩
  ·obtain ⟨P1, hP⟩ : ∃ P, P = q10.heap.size := ⟨_, rfl⟩
   have LPM1 : Hid (w.heap.size ≤ P1) := by show _ ≤ _; rw [hP]; exact (unhide B4).size
   have NEM1Z : Hid (zZ < P1) := by show _ < _; rw [hP]; exact (unhide Z4).lt
   have B5 : Hid (Below w.heap.size w (q10.alloc (.cells #[.slice none 0 0] 26))) := (unhide B4).trans ((Go.Joins.below_alloc1 q10 (.cells #[.slice none 0 0] 26)).mono (unhide B4).size)
   have R5 : Hid (RowV (q10.alloc (.cells #[.slice none 0 0] 26)) a2 (cPt l)) := (unhide R4).below (Go.Joins.below_alloc1 q10 (.cells #[.slice none 0 0] 26))
   have Z5 : Hid (BF zZ #[.slice a2 l.length cap2] (q10.alloc (.cells #[.slice none 0 0] 26))) := (unhide Z4).below (Go.Joins.below_alloc1 q10 (.cells #[.slice none 0 0] 26))
   have A5 : Hid (RowV (q10.alloc (.cells #[.slice none 0 0] 26)) (some ⟨b, off, none⟩) (cAr A)) := (unhide A4).below (Go.Joins.below_alloc1 q10 (.cells #[.slice none 0 0] 26))
   clear B4 R4 Z4 A4
   have M15 : Hid (BF P1 #[.slice none 0 0] (q10.alloc (.cells #[.slice none 0 0] 26))) := by show BF _ _ _; rw [hP]; exact BF.new q10 #[.slice none 0 0] 26
   go_simp
   rw [← hP]
   clear hP
   generalize (q10.alloc (.cells #[.slice none 0 0] 26)) = q15 at B5 R5 Z5 A5 M15 ⊢
   refine hK.out _ _ ?_ (fun hHeld11 => ?_)
   ·exact (unhide Z5).S
   clear hK K
   try simp only [Act.put, qqA, qqB, qqC]
   refine wpAnyH_ready (rs := [5]) (by kernel_rfl) (by simp) ?_
   refine AllReadyH.cons (o := oFsp0) rfl (fun K hK => ?_) AllReadyH.nil
   go_simp
   refine (latV a1 cap1 l1 3 2 v3 HV3 (unhide HS1) (by decide) (by decide) (by decide) q15 ((unhide HR1).below (unhide B5))).mono ?_
   rintro e x15 ⟨rfl, hb⟩
   have B6 : Hid (Below w.heap.size w x15) := (unhide B5).trans (hb.mono (unhide B5).size)
   have R6 : Hid (RowV x15 a2 (cPt l)) := (unhide R5).below hb
   have Z6 : Hid (BF zZ #[.slice a2 l.length cap2] x15) := (unhide Z5).below hb
   have A6 : Hid (RowV x15 (some ⟨b, off, none⟩) (cAr A)) := (unhide A5).below hb
   have M16 : Hid (BF P1 #[.slice none 0 0] x15) := (unhide M15).below hb
   clear B5 R5 Z5 A5 M15
   clear hb
   go_wp2_with fail
   refine hK.out _ _ ?_ (fun hHeld5 => ?_)
   ·exact (unhide Z6).S
   clear hK K
   try simp only [Act.put, qqA, qqB, qqC]
   refine wtv 6 (oi := oFsp2) ?_
   rw [← unhide HRW]
   refine wpAnyH_ready (rs := [7]) (by kernel_rfl) (by simp) ?_
   refine AllReadyH.cons (o := oFsp3) rfl (fun K hK => ?_) AllReadyH.nil
   go_simp
   refine (isplitout a2 cap2 l.length l rfl (unhide HL11) (W : Int) (H : Int) pn 77 rws c l2 HC HL2 x15 (unhide R6)).mono ?_
   rintro e y16 ⟨aM1, cM1, rfl, ho, hb⟩
   have B7 : Hid (Below w.heap.size w y16) := (unhide B6).trans (hb.mono (unhide B6).size)
   have R7 : Hid (RowV y16 a2 (cPt l)) := (unhide R6).below hb
   have Z7 : Hid (BF zZ #[.slice a2 l.length cap2] y16) := (unhide Z6).below hb
   have A7 : Hid (RowV y16 (some ⟨b, off, none⟩) (cAr A)) := (unhide A6).below hb
   have M17 : Hid (BF P1 #[.slice none 0 0] y16) := (unhide M16).below hb
   clear B6 R6 Z6 A6 M16
   have R17 : Hid (RowV y16 aM1 (cPt l2)) := rowZ_at ho
   clear ho hb
   go_wp2_with fail
   refine hK.out _ _ ?_ (fun hHeld7 => ?_)
   ·exact (unhide Z7).S
   clear hK K
   try simp only [Act.put, qqA, qqB, qqC]
   refine wtv 8 (oi := oFsp4) ?_
   refine wtv 9 (oi := oFsp5) ?_
   refine wtv 10 (oi := oFsp6) ?_
   refine wpAnyH_ready (rs := [12]) (by kernel_rfl) (by simp) ?_
   refine AllReadyH.cons (o := oFsp7) rfl (fun K hK => ?_) AllReadyH.nil
   have km := (unhide M17).S
   have kf := (unhide M17).F
   go_simp
   clear km kf
   have B8 : Hid (Below w.heap.size w (y16.setCell ⟨P1, 0, none⟩ (.slice aM1 l2.length cM1))) := (unhide B7).setCell (p := ⟨P1, 0, none⟩) (unhide LPM1) _
   have R8 : Hid (RowV (y16.setCell ⟨P1, 0, none⟩ (.slice aM1 l2.length cM1)) a2 (cPt l)) := rowP_set (unhide R7) (unhide M17) _
   have Z8 : Hid (BF zZ #[.slice a2 l.length cap2] (y16.setCell ⟨P1, 0, none⟩ (.slice aM1 l2.length cM1))) := (unhide Z7).far ⟨P1, 0, none⟩ _ (by have := unhide NEM1Z; show P1 ≠ _; omega)
   have A8 : Hid (RowV (y16.setCell ⟨P1, 0, none⟩ (.slice aM1 l2.length cM1)) (some ⟨b, off, none⟩) (cAr A)) := rowA_set (unhide A7) (unhide M17) _
   have M18 : Hid (BF P1 #[.slice aM1 l2.length cM1] (y16.setCell ⟨P1, 0, none⟩ (.slice aM1 l2.length cM1))) := (unhide M17).set 0 (by simp) _
   have R18 : Hid (RowV (y16.setCell ⟨P1, 0, none⟩ (.slice aM1 l2.length cM1)) aM1 (cPt l2)) := rowP_set (unhide R17) (unhide M17) _
   clear B7 R7 Z7 A7 M17 R17
   generalize (y16.setCell ⟨P1, 0, none⟩ (.slice aM1 l2.length cM1)) = s1 at B8 R8 Z8 A8 M18 R18 ⊢
   refine hK.out _ _ ?_ (fun hHeld12 => ?_)
   ·exact (unhide Z8).S
   clear hK K
   try simp only [Act.put, qqA, qqB, qqC]
   refine wtv 13 (oi := oFsp8) ?_
   refine wpAnyH_done (by kernel_rfl) ?_ _
   exact ⟨P1, aM1, cM1, rfl, B8, R8, Z8, A8, M18, R18⟩
 intro x a' V1 h
 cases x
 all_goals try exact False.elim h
 obtain ⟨P1, aM1, cM1, rfl, B4, R4, Z4, A4, M14, R14⟩ := h
 clear B3 R3 Z3 A3
 go_wp2_with fail
 apply Code.wp_mono (Q := CutQ _ (fun P2 aM2 cM2 v' => Hid (Below w.heap.size w v') ∧ Hid (RowV v' a2 (cPt l)) ∧ Hid (BF zZ #[.slice a2 l.length cap2] v') ∧ Hid (RowV v' (some ⟨b, off, none⟩) (cAr A)) ∧ Hid (BF P1 #[.slice aM1 l2.length cM1] v') ∧ Hid (RowV v' aM1 (cPt l2)) ∧ Hid (BF P2 #[.slice aM2 l2.length cM2] v') ∧ Hid (RowV v' aM2 (cPt l2))))
 rotate_left 1
 ·refine wp_region_held_drew (S := fun w' => ∀ o, w'.cell? ⟨zZ, o, none⟩ = (#[.slice a2 l.length cap2] : Array Value)[o]?) (by kernel_rfl) (unhide Z4).S (fun hHeld => ?_)
  have B5 : Hid (Below w.heap.size w V1.drew) := (unhide B4).trans (((Below.refl V1.heap.size V1).drew).mono (unhide B4).size)
  have R5 : Hid (RowV V1.drew a2 (cPt l)) := (unhide R4).below ((Below.refl V1.heap.size V1).drew)
  have Z5 : Hid (BF zZ #[.slice a2 l.length cap2] V1.drew) := (unhide Z4).below ((Below.refl V1.heap.size V1).drew)
  have A5 : Hid (RowV V1.drew (some ⟨b, off, none⟩) (cAr A)) := (unhide A4).below ((Below.refl V1.heap.size V1).drew)
  have M15 : Hid (BF P1 #[.slice aM1 l2.length cM1] V1.drew) := (unhide M14).below ((Below.refl V1.heap.size V1).drew)
  have R15 : Hid (RowV V1.drew aM1 (cPt l2)) := (unhide R14).below ((Below.refl V1.heap.size V1).drew)
  generalize V1.drew = q20 at B5 R5 Z5 A5 M15 R15 hHeld ⊢
  refine wtv 0 (oi := { dst := some 71, op := .load 26 (.tmp 7), type := 26, pos := "laws.go:503", after := #[], guard := none }) ?_
  refine wtv 1 (oi := { dst := some 72, op := .move (.tmp 5), type := 3, pos := "laws.go:503", after := #[], guard := none }) ?_
  refine wtv 2 (oi := { dst := some 73, op := .move (.tmp 6), type := 3, pos := "laws.go:503", after := #[], guard := none }) ?_
  refine wtv 3 (oi := { dst := some 74, op := .move (.tmp 10), type := 3, pos := "laws.go:503", after := #[], guard := none }) ?_
  refine wtv 4 (oi := { dst := some 75, op := .move (.tmp 1), type := 22, pos := "laws.go:503", after := #[], guard := none }) ?_
  refine wpAnyH_ready (rs := [5, 11]) (by kernel_rfl) (by simp) ?_
  refine AllReadyH.cons (o := oFsp9) rfl (fun K hK => ?_) (AllReadyH.cons (o := oFsp10) rfl (fun K hK => ?_) AllReadyH.nil)
  ·go_simp
   refine (latV a1 cap1 l1 3 2 v3 HV3 (unhide HS1) (by decide) (by decide) (by decide) q20 ((unhide HR1).below (unhide B5))).mono ?_
   rintro e x25 ⟨rfl, hb⟩
   have B6 : Hid (Below w.heap.size w x25) := (unhide B5).trans (hb.mono (unhide B5).size)
   have R6 : Hid (RowV x25 a2 (cPt l)) := (unhide R5).below hb
   have Z6 : Hid (BF zZ #[.slice a2 l.length cap2] x25) := (unhide Z5).below hb
   have A6 : Hid (RowV x25 (some ⟨b, off, none⟩) (cAr A)) := (unhide A5).below hb
   have M16 : Hid (BF P1 #[.slice aM1 l2.length cM1] x25) := (unhide M15).below hb
   have R16 : Hid (RowV x25 aM1 (cPt l2)) := (unhide R15).below hb
   clear B5 R5 Z5 A5 M15 R15
   clear hb
   go_wp2_with fail
   refine hK.out _ _ ?_ (fun hHeld5 => ?_)
   ·exact (unhide Z6).S
   clear hK K
   try simp only [Act.put, qqA, qqB, qqC]
   refine wtv 6 (oi := oFsp11) ?_
   rw [← unhide HRW]
   refine wpAnyH_ready (rs := [7, 11]) (by kernel_rfl) (by simp) ?_
   refine AllReadyH.cons (o := oFsp12) rfl (fun K hK => ?_) (AllReadyH.cons (o := oFsp10) rfl (fun K hK => ?_) AllReadyH.nil)
   ·go_simp
    refine (ssplitout a2 cap2 l.length l rfl (unhide HL11) (W : Int) (H : Int) pn 77 rws c l2 HC HL2 x25 (unhide R6)).mono ?_
    rintro e y26 ⟨aM2, cM2, rfl, ho, hb⟩
    have B7 : Hid (Below w.heap.size w y26) := (unhide B6).trans (hb.mono (unhide B6).size)
    have R7 : Hid (RowV y26 a2 (cPt l)) := (unhide R6).below hb
    have Z7 : Hid (BF zZ #[.slice a2 l.length cap2] y26) := (unhide Z6).below hb
    have A7 : Hid (RowV y26 (some ⟨b, off, none⟩) (cAr A)) := (unhide A6).below hb
    have M17 : Hid (BF P1 #[.slice aM1 l2.length cM1] y26) := (unhide M16).below hb
    have R17 : Hid (RowV y26 aM1 (cPt l2)) := (unhide R16).below hb
    clear B6 R6 Z6 A6 M16 R16
    have R27 : Hid (RowV y26 aM2 (cPt l2)) := rowZ_at ho
    clear ho hb
    go_wp2_with fail
    refine hK.out _ _ ?_ (fun hHeld7 => ?_)
    ·exact (unhide Z7).S
    clear hK K
    try simp only [Act.put, qqA, qqB, qqC]
    refine wtv 8 (oi := oFsp13) ?_
    refine wtv 9 (oi := oFsp14) ?_
    refine wtv 10 (oi := oFsp15) ?_
    refine wpAnyH_ready (rs := [11]) (by kernel_rfl) (by simp) ?_
    refine AllReadyH.cons (o := oFsp10) rfl (fun K hK => ?_) AllReadyH.nil
    obtain ⟨P2, hP⟩ : ∃ P, P = y26.heap.size := ⟨_, rfl⟩
    have LPM2 : Hid (w.heap.size ≤ P2) := by show _ ≤ _; rw [hP]; exact (unhide B7).size
    have NEM2Z : Hid (zZ < P2) := by show _ < _; rw [hP]; exact (unhide Z7).lt
    have NEM2M1 : Hid (P1 < P2) := by show _ < _; rw [hP]; exact (unhide M17).lt
    have B8 : Hid (Below w.heap.size w (y26.alloc (.cells #[.slice none 0 0] 26))) := (unhide B7).trans ((Go.Joins.below_alloc1 y26 (.cells #[.slice none 0 0] 26)).mono (unhide B7).size)
    have R8 : Hid (RowV (y26.alloc (.cells #[.slice none 0 0] 26)) a2 (cPt l)) := (unhide R7).below (Go.Joins.below_alloc1 y26 (.cells #[.slice none 0 0] 26))
    have Z8 : Hid (BF zZ #[.slice a2 l.length cap2] (y26.alloc (.cells #[.slice none 0 0] 26))) := (unhide Z7).below (Go.Joins.below_alloc1 y26 (.cells #[.slice none 0 0] 26))
    have A8 : Hid (RowV (y26.alloc (.cells #[.slice none 0 0] 26)) (some ⟨b, off, none⟩) (cAr A)) := (unhide A7).below (Go.Joins.below_alloc1 y26 (.cells #[.slice none 0 0] 26))
    have M18 : Hid (BF P1 #[.slice aM1 l2.length cM1] (y26.alloc (.cells #[.slice none 0 0] 26))) := (unhide M17).below (Go.Joins.below_alloc1 y26 (.cells #[.slice none 0 0] 26))
    have R18 : Hid (RowV (y26.alloc (.cells #[.slice none 0 0] 26)) aM1 (cPt l2)) := (unhide R17).below (Go.Joins.below_alloc1 y26 (.cells #[.slice none 0 0] 26))
    have R28 : Hid (RowV (y26.alloc (.cells #[.slice none 0 0] 26)) aM2 (cPt l2)) := (unhide R27).below (Go.Joins.below_alloc1 y26 (.cells #[.slice none 0 0] 26))
    clear B7 R7 Z7 A7 M17 R17 R27
    have M28 : Hid (BF P2 #[.slice none 0 0] (y26.alloc (.cells #[.slice none 0 0] 26))) := by show BF _ _ _; rw [hP]; exact BF.new y26 #[.slice none 0 0] 26
    go_simp
    rw [← hP]
    clear hP
    generalize (y26.alloc (.cells #[.slice none 0 0] 26)) = q28 at B8 R8 Z8 A8 M18 R18 R28 M28 ⊢
    refine hK.out _ _ ?_ (fun hHeld11 => ?_)
    ·exact (unhide Z8).S
    clear hK K
    try simp only [Act.put, qqA, qqB, qqC]
    refine wpAnyH_ready (rs := [12]) (by kernel_rfl) (by simp) ?_
    refine AllReadyH.cons (o := oFsp16) rfl (fun K hK => ?_) AllReadyH.nil
    have km := (unhide M28).S
    have kf := (unhide M28).F
    go_simp
    clear km kf
    have B9 : Hid (Below w.heap.size w (q28.setCell ⟨P2, 0, none⟩ (.slice aM2 l2.length cM2))) := (unhide B8).setCell (p := ⟨P2, 0, none⟩) (unhide LPM2) _
    have R9 : Hid (RowV (q28.setCell ⟨P2, 0, none⟩ (.slice aM2 l2.length cM2)) a2 (cPt l)) := rowP_set (unhide R8) (unhide M28) _
    have Z9 : Hid (BF zZ #[.slice a2 l.length cap2] (q28.setCell ⟨P2, 0, none⟩ (.slice aM2 l2.length cM2))) := (unhide Z8).far ⟨P2, 0, none⟩ _ (by have := unhide NEM2Z; show P2 ≠ _; omega)
    have A9 : Hid (RowV (q28.setCell ⟨P2, 0, none⟩ (.slice aM2 l2.length cM2)) (some ⟨b, off, none⟩) (cAr A)) := rowA_set (unhide A8) (unhide M28) _
    have M19 : Hid (BF P1 #[.slice aM1 l2.length cM1] (q28.setCell ⟨P2, 0, none⟩ (.slice aM2 l2.length cM2))) := (unhide M18).far ⟨P2, 0, none⟩ _ (by have := unhide NEM2M1; show P2 ≠ _; omega)
    have R19 : Hid (RowV (q28.setCell ⟨P2, 0, none⟩ (.slice aM2 l2.length cM2)) aM1 (cPt l2)) := rowP_set (unhide R18) (unhide M28) _
    have R29 : Hid (RowV (q28.setCell ⟨P2, 0, none⟩ (.slice aM2 l2.length cM2)) aM2 (cPt l2)) := rowP_set (unhide R28) (unhide M28) _
    have M29 : Hid (BF P2 #[.slice aM2 l2.length cM2] (q28.setCell ⟨P2, 0, none⟩ (.slice aM2 l2.length cM2))) := (unhide M28).set 0 (by simp) _
    clear B8 R8 Z8 A8 M18 R18 R28 M28
    generalize (q28.setCell ⟨P2, 0, none⟩ (.slice aM2 l2.length cM2)) = s2 at B9 R9 Z9 A9 M19 R19 R29 M29 ⊢
    refine hK.out _ _ ?_ (fun hHeld12 => ?_)
    ·exact (unhide Z9).S
    clear hK K
    try simp only [Act.put, qqA, qqB, qqC]
    refine wtv 13 (oi := oFsp17) ?_
    refine wpAnyH_done (by kernel_rfl) ?_ _
    exact ⟨P2, aM2, cM2, rfl, B9, R9, Z9, A9, M19, R19, M29, R29⟩
   ·obtain ⟨P2, hP⟩ : ∃ P, P = x25.heap.size := ⟨_, rfl⟩
    have LPM2 : Hid (w.heap.size ≤ P2) := by show _ ≤ _; rw [hP]; exact (unhide B6).size
    have NEM2Z : Hid (zZ < P2) := by show _ < _; rw [hP]; exact (unhide Z6).lt
    have NEM2M1 : Hid (P1 < P2) := by show _ < _; rw [hP]; exact (unhide M16).lt
    have B7 : Hid (Below w.heap.size w (x25.alloc (.cells #[.slice none 0 0] 26))) := (unhide B6).trans ((Go.Joins.below_alloc1 x25 (.cells #[.slice none 0 0] 26)).mono (unhide B6).size)
    have R7 : Hid (RowV (x25.alloc (.cells #[.slice none 0 0] 26)) a2 (cPt l)) := (unhide R6).below (Go.Joins.below_alloc1 x25 (.cells #[.slice none 0 0] 26))
    have Z7 : Hid (BF zZ #[.slice a2 l.length cap2] (x25.alloc (.cells #[.slice none 0 0] 26))) := (unhide Z6).below (Go.Joins.below_alloc1 x25 (.cells #[.slice none 0 0] 26))
    have A7 : Hid (RowV (x25.alloc (.cells #[.slice none 0 0] 26)) (some ⟨b, off, none⟩) (cAr A)) := (unhide A6).below (Go.Joins.below_alloc1 x25 (.cells #[.slice none 0 0] 26))
    have M17 : Hid (BF P1 #[.slice aM1 l2.length cM1] (x25.alloc (.cells #[.slice none 0 0] 26))) := (unhide M16).below (Go.Joins.below_alloc1 x25 (.cells #[.slice none 0 0] 26))
    have R17 : Hid (RowV (x25.alloc (.cells #[.slice none 0 0] 26)) aM1 (cPt l2)) := (unhide R16).below (Go.Joins.below_alloc1 x25 (.cells #[.slice none 0 0] 26))
    clear B6 R6 Z6 A6 M16 R16
    have M27 : Hid (BF P2 #[.slice none 0 0] (x25.alloc (.cells #[.slice none 0 0] 26))) := by show BF _ _ _; rw [hP]; exact BF.new x25 #[.slice none 0 0] 26
    go_simp
    rw [← hP]
    clear hP
    generalize (x25.alloc (.cells #[.slice none 0 0] 26)) = q27 at B7 R7 Z7 A7 M17 R17 M27 ⊢
    refine hK.out _ _ ?_ (fun hHeld11 => ?_)
    ·exact (unhide Z7).S
    clear hK K
    try simp only [Act.put, qqA, qqB, qqC]
    refine wpAnyH_ready (rs := [7]) (by kernel_rfl) (by simp) ?_
    refine AllReadyH.cons (o := oFsp12) rfl (fun K hK => ?_) AllReadyH.nil
    go_simp
    refine (ssplitout a2 cap2 l.length l rfl (unhide HL11) (W : Int) (H : Int) pn 77 rws c l2 HC HL2 q27 (unhide R7)).mono ?_
    rintro e y27 ⟨aM2, cM2, rfl, ho, hb⟩
    have B8 : Hid (Below w.heap.size w y27) := (unhide B7).trans (hb.mono (unhide B7).size)
    have R8 : Hid (RowV y27 a2 (cPt l)) := (unhide R7).below hb
    have Z8 : Hid (BF zZ #[.slice a2 l.length cap2] y27) := (unhide Z7).below hb
    have A8 : Hid (RowV y27 (some ⟨b, off, none⟩) (cAr A)) := (unhide A7).below hb
    have M18 : Hid (BF P1 #[.slice aM1 l2.length cM1] y27) := (unhide M17).below hb
    have R18 : Hid (RowV y27 aM1 (cPt l2)) := (unhide R17).below hb
    have M28 : Hid (BF P2 #[.slice none 0 0] y27) := (unhide M27).below hb
    clear B7 R7 Z7 A7 M17 R17 M27
    have R28 : Hid (RowV y27 aM2 (cPt l2)) := rowZ_at ho
    clear ho hb
    go_wp2_with fail
    refine hK.out _ _ ?_ (fun hHeld7 => ?_)
    ·exact (unhide Z8).S
    clear hK K
    try simp only [Act.put, qqA, qqB, qqC]
    refine wtv 8 (oi := oFsp13) ?_
    refine wtv 9 (oi := oFsp14) ?_
    refine wtv 10 (oi := oFsp15) ?_
    refine wpAnyH_ready (rs := [12]) (by kernel_rfl) (by simp) ?_
    refine AllReadyH.cons (o := oFsp16) rfl (fun K hK => ?_) AllReadyH.nil
    have km := (unhide M28).S
    have kf := (unhide M28).F
    go_simp
    clear km kf
    have B9 : Hid (Below w.heap.size w (y27.setCell ⟨P2, 0, none⟩ (.slice aM2 l2.length cM2))) := (unhide B8).setCell (p := ⟨P2, 0, none⟩) (unhide LPM2) _
    have R9 : Hid (RowV (y27.setCell ⟨P2, 0, none⟩ (.slice aM2 l2.length cM2)) a2 (cPt l)) := rowP_set (unhide R8) (unhide M28) _
    have Z9 : Hid (BF zZ #[.slice a2 l.length cap2] (y27.setCell ⟨P2, 0, none⟩ (.slice aM2 l2.length cM2))) := (unhide Z8).far ⟨P2, 0, none⟩ _ (by have := unhide NEM2Z; show P2 ≠ _; omega)
    have A9 : Hid (RowV (y27.setCell ⟨P2, 0, none⟩ (.slice aM2 l2.length cM2)) (some ⟨b, off, none⟩) (cAr A)) := rowA_set (unhide A8) (unhide M28) _
    have M19 : Hid (BF P1 #[.slice aM1 l2.length cM1] (y27.setCell ⟨P2, 0, none⟩ (.slice aM2 l2.length cM2))) := (unhide M18).far ⟨P2, 0, none⟩ _ (by have := unhide NEM2M1; show P2 ≠ _; omega)
    have R19 : Hid (RowV (y27.setCell ⟨P2, 0, none⟩ (.slice aM2 l2.length cM2)) aM1 (cPt l2)) := rowP_set (unhide R18) (unhide M28) _
    have M29 : Hid (BF P2 #[.slice aM2 l2.length cM2] (y27.setCell ⟨P2, 0, none⟩ (.slice aM2 l2.length cM2))) := (unhide M28).set 0 (by simp) _
    have R29 : Hid (RowV (y27.setCell ⟨P2, 0, none⟩ (.slice aM2 l2.length cM2)) aM2 (cPt l2)) := rowP_set (unhide R28) (unhide M28) _
    clear B8 R8 Z8 A8 M18 R18 M28 R28
    generalize (y27.setCell ⟨P2, 0, none⟩ (.slice aM2 l2.length cM2)) = s2 at B9 R9 Z9 A9 M19 R19 M29 R29 ⊢
    refine hK.out _ _ ?_ (fun hHeld12 => ?_)
    ·exact (unhide Z9).S
    clear hK K
    try simp only [Act.put, qqA, qqB, qqC]
    refine wtv 13 (oi := oFsp17) ?_
    refine wpAnyH_done (by kernel_rfl) ?_ _
    exact ⟨P2, aM2, cM2, rfl, B9, R9, Z9, A9, M19, R19, M29, R29⟩
  ·obtain ⟨P2, hP⟩ : ∃ P, P = q20.heap.size := ⟨_, rfl⟩
   have LPM2 : Hid (w.heap.size ≤ P2) := by show _ ≤ _; rw [hP]; exact (unhide B5).size
   have NEM2Z : Hid (zZ < P2) := by show _ < _; rw [hP]; exact (unhide Z5).lt
   have NEM2M1 : Hid (P1 < P2) := by show _ < _; rw [hP]; exact (unhide M15).lt
   have B6 : Hid (Below w.heap.size w (q20.alloc (.cells #[.slice none 0 0] 26))) := (unhide B5).trans ((Go.Joins.below_alloc1 q20 (.cells #[.slice none 0 0] 26)).mono (unhide B5).size)
   have R6 : Hid (RowV (q20.alloc (.cells #[.slice none 0 0] 26)) a2 (cPt l)) := (unhide R5).below (Go.Joins.below_alloc1 q20 (.cells #[.slice none 0 0] 26))
   have Z6 : Hid (BF zZ #[.slice a2 l.length cap2] (q20.alloc (.cells #[.slice none 0 0] 26))) := (unhide Z5).below (Go.Joins.below_alloc1 q20 (.cells #[.slice none 0 0] 26))
   have A6 : Hid (RowV (q20.alloc (.cells #[.slice none 0 0] 26)) (some ⟨b, off, none⟩) (cAr A)) := (unhide A5).below (Go.Joins.below_alloc1 q20 (.cells #[.slice none 0 0] 26))
   have M16 : Hid (BF P1 #[.slice aM1 l2.length cM1] (q20.alloc (.cells #[.slice none 0 0] 26))) := (unhide M15).below (Go.Joins.below_alloc1 q20 (.cells #[.slice none 0 0] 26))
   have R16 : Hid (RowV (q20.alloc (.cells #[.slice none 0 0] 26)) aM1 (cPt l2)) := (unhide R15).below (Go.Joins.below_alloc1 q20 (.cells #[.slice none 0 0] 26))
   clear B5 R5 Z5 A5 M15 R15
   have M26 : Hid (BF P2 #[.slice none 0 0] (q20.alloc (.cells #[.slice none 0 0] 26))) := by show BF _ _ _; rw [hP]; exact BF.new q20 #[.slice none 0 0] 26
   go_simp
   rw [← hP]
   clear hP
   generalize (q20.alloc (.cells #[.slice none 0 0] 26)) = q26 at B6 R6 Z6 A6 M16 R16 M26 ⊢
   refine hK.out _ _ ?_ (fun hHeld11 => ?_)
   ·exact (unhide Z6).S
   clear hK K
   try simp only [Act.put, qqA, qqB, qqC]
   refine wpAnyH_ready (rs := [5]) (by kernel_rfl) (by simp) ?_
   refine AllReadyH.cons (o := oFsp9) rfl (fun K hK => ?_) AllReadyH.nil
   go_simp
   refine (latV a1 cap1 l1 3 2 v3 HV3 (unhide HS1) (by decide) (by decide) (by decide) q26 ((unhide HR1).below (unhide B6))).mono ?_
   rintro e x26 ⟨rfl, hb⟩
   have B7 : Hid (Below w.heap.size w x26) := (unhide B6).trans (hb.mono (unhide B6).size)
   have R7 : Hid (RowV x26 a2 (cPt l)) := (unhide R6).below hb
   have Z7 : Hid (BF zZ #[.slice a2 l.length cap2] x26) := (unhide Z6).below hb
   have A7 : Hid (RowV x26 (some ⟨b, off, none⟩) (cAr A)) := (unhide A6).below hb
   have M17 : Hid (BF P1 #[.slice aM1 l2.length cM1] x26) := (unhide M16).below hb
   have R17 : Hid (RowV x26 aM1 (cPt l2)) := (unhide R16).below hb
   have M27 : Hid (BF P2 #[.slice none 0 0] x26) := (unhide M26).below hb
   clear B6 R6 Z6 A6 M16 R16 M26
   clear hb
   go_wp2_with fail
   refine hK.out _ _ ?_ (fun hHeld5 => ?_)
   ·exact (unhide Z7).S
   clear hK K
   try simp only [Act.put, qqA, qqB, qqC]
   refine wtv 6 (oi := oFsp11) ?_
   rw [← unhide HRW]
   refine wpAnyH_ready (rs := [7]) (by kernel_rfl) (by simp) ?_
   refine AllReadyH.cons (o := oFsp12) rfl (fun K hK => ?_) AllReadyH.nil
   go_simp
   refine (ssplitout a2 cap2 l.length l rfl (unhide HL11) (W : Int) (H : Int) pn 77 rws c l2 HC HL2 x26 (unhide R7)).mono ?_
   rintro e y27 ⟨aM2, cM2, rfl, ho, hb⟩
   have B8 : Hid (Below w.heap.size w y27) := (unhide B7).trans (hb.mono (unhide B7).size)
   have R8 : Hid (RowV y27 a2 (cPt l)) := (unhide R7).below hb
   have Z8 : Hid (BF zZ #[.slice a2 l.length cap2] y27) := (unhide Z7).below hb
   have A8 : Hid (RowV y27 (some ⟨b, off, none⟩) (cAr A)) := (unhide A7).below hb
   have M18 : Hid (BF P1 #[.slice aM1 l2.length cM1] y27) := (unhide M17).below hb
   have R18 : Hid (RowV y27 aM1 (cPt l2)) := (unhide R17).below hb
   have M28 : Hid (BF P2 #[.slice none 0 0] y27) := (unhide M27).below hb
   clear B7 R7 Z7 A7 M17 R17 M27
   have R28 : Hid (RowV y27 aM2 (cPt l2)) := rowZ_at ho
   clear ho hb
   go_wp2_with fail
   refine hK.out _ _ ?_ (fun hHeld7 => ?_)
   ·exact (unhide Z8).S
   clear hK K
   try simp only [Act.put, qqA, qqB, qqC]
   refine wtv 8 (oi := oFsp13) ?_
   refine wtv 9 (oi := oFsp14) ?_
   refine wtv 10 (oi := oFsp15) ?_
   refine wpAnyH_ready (rs := [12]) (by kernel_rfl) (by simp) ?_
   refine AllReadyH.cons (o := oFsp16) rfl (fun K hK => ?_) AllReadyH.nil
   have km := (unhide M28).S
   have kf := (unhide M28).F
   go_simp
   clear km kf
   have B9 : Hid (Below w.heap.size w (y27.setCell ⟨P2, 0, none⟩ (.slice aM2 l2.length cM2))) := (unhide B8).setCell (p := ⟨P2, 0, none⟩) (unhide LPM2) _
   have R9 : Hid (RowV (y27.setCell ⟨P2, 0, none⟩ (.slice aM2 l2.length cM2)) a2 (cPt l)) := rowP_set (unhide R8) (unhide M28) _
   have Z9 : Hid (BF zZ #[.slice a2 l.length cap2] (y27.setCell ⟨P2, 0, none⟩ (.slice aM2 l2.length cM2))) := (unhide Z8).far ⟨P2, 0, none⟩ _ (by have := unhide NEM2Z; show P2 ≠ _; omega)
   have A9 : Hid (RowV (y27.setCell ⟨P2, 0, none⟩ (.slice aM2 l2.length cM2)) (some ⟨b, off, none⟩) (cAr A)) := rowA_set (unhide A8) (unhide M28) _
   have M19 : Hid (BF P1 #[.slice aM1 l2.length cM1] (y27.setCell ⟨P2, 0, none⟩ (.slice aM2 l2.length cM2))) := (unhide M18).far ⟨P2, 0, none⟩ _ (by have := unhide NEM2M1; show P2 ≠ _; omega)
   have R19 : Hid (RowV (y27.setCell ⟨P2, 0, none⟩ (.slice aM2 l2.length cM2)) aM1 (cPt l2)) := rowP_set (unhide R18) (unhide M28) _
   have M29 : Hid (BF P2 #[.slice aM2 l2.length cM2] (y27.setCell ⟨P2, 0, none⟩ (.slice aM2 l2.length cM2))) := (unhide M28).set 0 (by simp) _
   have R29 : Hid (RowV (y27.setCell ⟨P2, 0, none⟩ (.slice aM2 l2.length cM2)) aM2 (cPt l2)) := rowP_set (unhide R28) (unhide M28) _
   clear B8 R8 Z8 A8 M18 R18 M28 R28
   generalize (y27.setCell ⟨P2, 0, none⟩ (.slice aM2 l2.length cM2)) = s2 at B9 R9 Z9 A9 M19 R19 M29 R29 ⊢
   refine hK.out _ _ ?_ (fun hHeld12 => ?_)
   ·exact (unhide Z9).S
   clear hK K
   try simp only [Act.put, qqA, qqB, qqC]
   refine wtv 13 (oi := oFsp17) ?_
   refine wpAnyH_done (by kernel_rfl) ?_ _
   exact ⟨P2, aM2, cM2, rfl, B9, R9, Z9, A9, M19, R19, M29, R29⟩
 intro x a' V2 h
 cases x
 all_goals try exact False.elim h
 obtain ⟨P2, aM2, cM2, rfl, B5, R5, Z5, A5, M15, R15, M25, R25⟩ := h
 clear B4 R4 Z4 A4 M14 R14
 have HL2L : Hid (l2.length ≤ 1048576) := by show _ ≤ _; rw [unhide HL2]; have := splitL_le l (W : Int) (H : Int) pn 77 rws; omega
 have ncc : (c != c) = false := by simp
 have k1 := (unhide M15).S
 have k2 := (unhide M25).S
 go_wp2_with fail
 clear k1 k2
 refine (sameParts aM1 aM2 cM1 cM2 l2 (unhide HL2L) _ (unhide R15) (unhide R25)).mono ?_
 rintro e u1 ⟨rfl, hb⟩
 have B6 : Hid (Below w.heap.size w u1) := (unhide B5).trans (hb.mono (unhide B5).size)
 have R6 : Hid (RowV u1 a2 (cPt l)) := (unhide R5).below hb
 have Z6 : Hid (BF zZ #[.slice a2 l.length cap2] u1) := (unhide Z5).below hb
 have A6 : Hid (RowV u1 (some ⟨b, off, none⟩) (cAr A)) := (unhide A5).below hb
 have M16 : Hid (BF P1 #[.slice aM1 l2.length cM1] u1) := (unhide M15).below hb
 have R16 : Hid (RowV u1 aM1 (cPt l2)) := (unhide R15).below hb
 have M26 : Hid (BF P2 #[.slice aM2 l2.length cM2] u1) := (unhide M25).below hb
 have R26 : Hid (RowV u1 aM2 (cPt l2)) := (unhide R25).below hb
 clear B5 R5 Z5 A5 M15 R15 M25 R25
 clear hb ncc
 rcases unhide HWY with ⟨hc, hl⟩ | ⟨hc, t2, ht2, hpl, hk0, hkl⟩
 ·have HL := hide hl
  have k1 := (unhide M16).S
  have kz := (unhide Z6).S
  clear hl
  rcases hc with rfl | rfl
  ·go_wp2_with fail
   have e := unhide HL
   have RL := (unhide R6)
   have RM := (unhide R16)
   rw [e] at RM ⊢
   refine (sameParts aM1 a2 cM1 cap2 l (unhide HL11) _ RM RL).mono ?_
   rintro e uz ⟨rfl, hb⟩
   have BZ := (unhide B6).trans (hb.mono (unhide B6).size)
   go_wp2_with fail
   go_ret
   exact ⟨rfl, BZ⟩
  ·go_wp2_with fail
   have e := unhide HL
   have RL := (unhide R6)
   have RM := (unhide R16)
   rw [e] at RM ⊢
   refine (sameParts aM1 a2 cM1 cap2 l (unhide HL11) _ RM RL).mono ?_
   rintro e uz ⟨rfl, hb⟩
   have BZ := (unhide B6).trans (hb.mono (unhide B6).size)
   go_wp2_with fail
   go_ret
   exact ⟨rfl, BZ⟩
 ·subst hc
  obtain ⟨A2, hA2⟩ : ∃ A, A = t2.areas 0 0 (W : Int) (H : Int) := ⟨_, rfl⟩
  obtain ⟨e1, e2⟩ := arL_some ht2
  rw [← hA2] at e1
  have HAL2 : Hid (A2 = arL l2 (W : Int) (H : Int)) := e1.symm
  have HAC2 : Hid (0 = arC l2 (W : Int) (H : Int)) := e2.symm
  have hA2l : ((A2.length : Nat) : Int) = (A.length : Int) + 1 := by
   rw [hA2, unhide HA, areas_len, areas_len, hpl]; push_cast; rfl
  have HA2L := hide hA2l
  have wA : IntKind.i64.wrap ((A.length : Int) + 1) = (A.length : Int) + 1 := wrapi _ (by omega) (by omega)
  obtain ⟨l3, e3⟩ : ∃ l3, l3 = killL l2 (W : Int) (H : Int) 77 := ⟨_, rfl⟩
  have HL3 := hide e3
  have HK0 : Hid (0 = killC l2 (W : Int) (H : Int) 77) := hk0.symm
  have HL3E : Hid (l3 = l) := e3.trans hkl
  obtain ⟨T, eT⟩ : ∃ T, T = ltT l (W : Int) (H : Int) := ⟨_, rfl⟩
  have HTx := hide eT
  have HTc : Hid (0 = ltC l (W : Int) (H : Int)) := by show _ = _; unfold ltC; rw [unhide HTT]
  have HTx3 : Hid (T = ltT l3 (W : Int) (H : Int)) := by show _ = _; rw [unhide HL3E]; exact eT
  have HTc3 : Hid (0 = ltC l3 (W : Int) (H : Int)) := by show _ = _; rw [unhide HL3E]; exact unhide HTc
  have HL3L : Hid (l3.length ≤ 1048576) := by show _ ≤ _; rw [unhide HL3E]; exact unhide HL11
  have nT : (T.toList == T.toList) = true := by simp
  clear hA2 ht2 hpl hk0 hkl e1 e2 hA2l e3 eT
  have k1 := (unhide M16).S
  go_wp2_with fail
  clear k1
  refine (ilareas aM1 cM1 l2.length l2 rfl (unhide HL2L) (W : Int) (H : Int) 0 A2 HAC2 HAL2 _ (unhide R16)).mono ?_
  rintro e u2 ⟨aC, capC, rfl, hoC, hb⟩
  have B7 : Hid (Below w.heap.size w u2) := (unhide B6).trans (hb.mono (unhide B6).size)
  have R7 : Hid (RowV u2 a2 (cPt l)) := (unhide R6).below hb
  have Z7 : Hid (BF zZ #[.slice a2 l.length cap2] u2) := (unhide Z6).below hb
  have A7 : Hid (RowV u2 (some ⟨b, off, none⟩) (cAr A)) := (unhide A6).below hb
  have M17 : Hid (BF P1 #[.slice aM1 l2.length cM1] u2) := (unhide M16).below hb
  have R17 : Hid (RowV u2 aM1 (cPt l2)) := (unhide R16).below hb
  have M27 : Hid (BF P2 #[.slice aM2 l2.length cM2] u2) := (unhide M26).below hb
  have R27 : Hid (RowV u2 aM2 (cPt l2)) := (unhide R26).below hb
  clear B6 R6 Z6 A6 M16 R16 M26 R26
  clear hoC hb
  have k1 := (unhide M17).S
  go_wp2_with fail
  clear k1
  refine (ikillout aM1 cM1 l2.length l2 rfl (unhide HL2L) (W : Int) (H : Int) 77 0 l3 HK0 HL3 _ (unhide R17)).mono ?_
  rintro e u3 ⟨aM3, cM3, rfl, ho, hb⟩
  have B8 : Hid (Below w.heap.size w u3) := (unhide B7).trans (hb.mono (unhide B7).size)
  have R8 : Hid (RowV u3 a2 (cPt l)) := (unhide R7).below hb
  have Z8 : Hid (BF zZ #[.slice a2 l.length cap2] u3) := (unhide Z7).below hb
  have A8 : Hid (RowV u3 (some ⟨b, off, none⟩) (cAr A)) := (unhide A7).below hb
  have M18 : Hid (BF P1 #[.slice aM1 l2.length cM1] u3) := (unhide M17).below hb
  have R18 : Hid (RowV u3 aM1 (cPt l2)) := (unhide R17).below hb
  have M28 : Hid (BF P2 #[.slice aM2 l2.length cM2] u3) := (unhide M27).below hb
  have R28 : Hid (RowV u3 aM2 (cPt l2)) := (unhide R27).below hb
  clear B7 R7 Z7 A7 M17 R17 M27 R27
  have R38 : Hid (RowV u3 aM3 (cPt l3)) := rowZ_at ho
  clear ho hb
  obtain ⟨P3, hP⟩ : ∃ P, P = u3.heap.size := ⟨_, rfl⟩
  have B9 : Hid (Below w.heap.size w (u3.alloc (.cells #[.slice aM3 l3.length cM3] 26))) := (unhide B8).trans ((Go.Joins.below_alloc1 u3 (.cells #[.slice aM3 l3.length cM3] 26)).mono (unhide B8).size)
  have R9 : Hid (RowV (u3.alloc (.cells #[.slice aM3 l3.length cM3] 26)) a2 (cPt l)) := (unhide R8).below (Go.Joins.below_alloc1 u3 (.cells #[.slice aM3 l3.length cM3] 26))
  have Z9 : Hid (BF zZ #[.slice a2 l.length cap2] (u3.alloc (.cells #[.slice aM3 l3.length cM3] 26))) := (unhide Z8).below (Go.Joins.below_alloc1 u3 (.cells #[.slice aM3 l3.length cM3] 26))
  have A9 : Hid (RowV (u3.alloc (.cells #[.slice aM3 l3.length cM3] 26)) (some ⟨b, off, none⟩) (cAr A)) := (unhide A8).below (Go.Joins.below_alloc1 u3 (.cells #[.slice aM3 l3.length cM3] 26))
  have M19 : Hid (BF P1 #[.slice aM1 l2.length cM1] (u3.alloc (.cells #[.slice aM3 l3.length cM3] 26))) := (unhide M18).below (Go.Joins.below_alloc1 u3 (.cells #[.slice aM3 l3.length cM3] 26))
  have R19 : Hid (RowV (u3.alloc (.cells #[.slice aM3 l3.length cM3] 26)) aM1 (cPt l2)) := (unhide R18).below (Go.Joins.below_alloc1 u3 (.cells #[.slice aM3 l3.length cM3] 26))
  have M29 : Hid (BF P2 #[.slice aM2 l2.length cM2] (u3.alloc (.cells #[.slice aM3 l3.length cM3] 26))) := (unhide M28).below (Go.Joins.below_alloc1 u3 (.cells #[.slice aM3 l3.length cM3] 26))
  have R29 : Hid (RowV (u3.alloc (.cells #[.slice aM3 l3.length cM3] 26)) aM2 (cPt l2)) := (unhide R28).below (Go.Joins.below_alloc1 u3 (.cells #[.slice aM3 l3.length cM3] 26))
  have R39 : Hid (RowV (u3.alloc (.cells #[.slice aM3 l3.length cM3] 26)) aM3 (cPt l3)) := (unhide R38).below (Go.Joins.below_alloc1 u3 (.cells #[.slice aM3 l3.length cM3] 26))
  clear B8 R8 Z8 A8 M18 R18 M28 R28 R38
  have M39 : Hid (BF P3 #[.slice aM3 l3.length cM3] (u3.alloc (.cells #[.slice aM3 l3.length cM3] 26))) := by show BF _ _ _; rw [hP]; exact BF.new u3 #[.slice aM3 l3.length cM3] 26
  have HPk := hide hP
  clear hP
  have kz := (unhide Z9).S
  go_wp2_with fail
  rw [← unhide HPk]
  clear HPk kz
  generalize (u3.alloc (.cells #[.slice aM3 l3.length cM3] 26)) = u4 at B9 R9 Z9 A9 M19 R19 M29 R29 R39 M39 ⊢
  refine (iltext a2 cap2 l.length l rfl (unhide HL11) (W : Int) (H : Int) 0 T HTc HTx _ (unhide R9) ((unhide HE).below (unhide B9) (unhide HG)) (Nat.lt_of_lt_of_le (unhide HG) (unhide B9).size)).mono ?_
  rintro e u5 ⟨rfl, hb⟩
  have B10 : Hid (Below w.heap.size w u5) := (unhide B9).trans (hb.mono (unhide B9).size)
  have R10 : Hid (RowV u5 a2 (cPt l)) := (unhide R9).below hb
  have Z10 : Hid (BF zZ #[.slice a2 l.length cap2] u5) := (unhide Z9).below hb
  have A10 : Hid (RowV u5 (some ⟨b, off, none⟩) (cAr A)) := (unhide A9).below hb
  have M110 : Hid (BF P1 #[.slice aM1 l2.length cM1] u5) := (unhide M19).below hb
  have R110 : Hid (RowV u5 aM1 (cPt l2)) := (unhide R19).below hb
  have M210 : Hid (BF P2 #[.slice aM2 l2.length cM2] u5) := (unhide M29).below hb
  have R210 : Hid (RowV u5 aM2 (cPt l2)) := (unhide R29).below hb
  have R310 : Hid (RowV u5 aM3 (cPt l3)) := (unhide R39).below hb
  have M310 : Hid (BF P3 #[.slice aM3 l3.length cM3] u5) := (unhide M39).below hb
  clear B9 R9 Z9 A9 M19 R19 M29 R29 R39 M39
  clear hb
  have k1 := (unhide M310).S
  go_wp2_with fail
  clear k1
  refine (iltext aM3 cM3 l3.length l3 rfl (unhide HL3L) (W : Int) (H : Int) 0 T HTc3 HTx3 _ (unhide R310) ((unhide HE).below (unhide B10) (unhide HG)) (Nat.lt_of_lt_of_le (unhide HG) (unhide B10).size)).mono ?_
  rintro e u6 ⟨rfl, hb⟩
  have B11 : Hid (Below w.heap.size w u6) := (unhide B10).trans (hb.mono (unhide B10).size)
  have R11 : Hid (RowV u6 a2 (cPt l)) := (unhide R10).below hb
  have Z11 : Hid (BF zZ #[.slice a2 l.length cap2] u6) := (unhide Z10).below hb
  have A11 : Hid (RowV u6 (some ⟨b, off, none⟩) (cAr A)) := (unhide A10).below hb
  have M111 : Hid (BF P1 #[.slice aM1 l2.length cM1] u6) := (unhide M110).below hb
  have R111 : Hid (RowV u6 aM1 (cPt l2)) := (unhide R110).below hb
  have M211 : Hid (BF P2 #[.slice aM2 l2.length cM2] u6) := (unhide M210).below hb
  have R211 : Hid (RowV u6 aM2 (cPt l2)) := (unhide R210).below hb
  have R311 : Hid (RowV u6 aM3 (cPt l3)) := (unhide R310).below hb
  have M311 : Hid (BF P3 #[.slice aM3 l3.length cM3] u6) := (unhide M310).below hb
  clear B10 R10 Z10 A10 M110 R110 M210 R210 R310 M310
  clear hb
  have hA2l := unhide HA2L
  have BZ := hide (unhide B11)
  clear B11 R11 Z11 A11 M111 R111 M211 R211 R311 M311
  go_wp2_with fail
  go_ret
  exact ⟨rfl, unhide BZ⟩

theorem own : ownKnob Tryd.prog.godebug = none := by kernel_rfl
theorem laidOut : laidOutB Tryd.prog = true := by kernel_rfl
theorem door_met (os : Os) (args : Array Value) : laidMetH Tryd.prog Rows.fnSplitsRow.laid ((World.doorLaid Tryd.prog 24 os).forCall (fun _ _ => 0) ⟨#[], args, []⟩).memory :=
 laidMetH_of_parts3 (fuel := 8) (laidMet_of_run' 8 (by kernel_rfl) (by kernel_rfl)) (by kernel_rfl) (by kernel_rfl)
set_option maxRecDepth 100000 in
theorem lifted (os : Os) (started : os.Started) (H : Type) (enc : TypeId × Value → H) :
  ReturnsInHanded {} Tryd.checked os 3 .any (fun w args => (Rows.fnSplitsSpec.pre enc Tryd.prog Tryd.f3 [] false w args ∧ laidMetH Tryd.prog Rows.fnSplitsRow.laid w) ∧ sizedMet enc Tryd.prog Tryd.f3 (OpenSpec.ofChange Rows.fnSplitsSpec) false w args)
   (Rows.fnSplitsSpec.post enc Tryd.prog Tryd.f3 false true false false) := by
 refine returnsInHanded_of_change_and (C := Tryd.checked) (X := fun w _ => laidMetH Tryd.prog Rows.fnSplitsRow.laid w) (fun _ _ _ hh h => h.of_heap hh) own started (by kernel_rfl) Tryd.func3
  (ChangeSpec.witness_shaped (enc := enc) (C := Tryd.checked) (os := os) (X := fun w _ => laidMetH Tryd.prog Rows.fnSplitsRow.laid w) false (World.doorLaid Tryd.prog 24 os) #[.slice none 0 0, .slice none 0 0] 8 rfl (World.shaped_of_RefB (by kernel_rfl) (by kernel_rfl)) (by kernel_rfl) (by kernel_rfl) (by kernel_rfl) (door_met os _)) ?_
 intro W base args ds gs before hval0 hW _ _ hL _
 have hval : ∀ (j : Nat) t v, Tryd.f3.params[j]? = some t → args[j]? = some v → Value.okWide Tryd.prog W .any base t v := hval0
 have hW' := hW
 obtain ⟨p, q, hA0, hV, rfl, hfz, hnd⟩ := hW
 have hA : DataW.TrodAll enc Tryd.prog W 0 (fun _ => true) true Tryd.f3.params.toList args.toList ds p := hA0
 rw [Tryd.params3] at hA hval
 obtain ⟨v0, vs0, d0, ds0, p0, q0, hargs, rfl, rfl, h0, r0⟩ := trodAll_cons hA
 obtain ⟨v1, vs1, d1, ds1, p1, q1, rfl, rfl, rfl, h1, r1⟩ := trodAll_cons r0
 obtain ⟨rfl, rfl, rfl⟩ := trodAll_nil r1
 obtain rfl : args = #[v0, v1] := by cases args; simp_all
 obtain ⟨rfl, rfl⟩ := trodVars_none hV
 have k0 := h0
 have lt0 : ∀ x ∈ p0, x.block < W.heap.size := by obtain ⟨m, hm⟩ := k0; exact DataW.trod_lt m _ _ _ hm
 have k1 := h1
 have lt1 : ∀ x ∈ p1, x.block < W.heap.size := by obtain ⟨m, hm⟩ := k1; exact DataW.trod_lt m _ _ _ hm
 obtain ⟨a0, len0, cap0, rfl⟩ := okWide_slice Tryd.underlying22 (hval 0 22 v0 rfl rfl)
 obtain ⟨l0, e0, w0⟩ : ∃ l : List UInt8, l.length = len0 ∧ Row8 W a0 l := by
  obtain ⟨fuel, hf⟩ := h0
  rcases open_ints Tryd.underlying22 Tryd.underlying5 (by kernel_rfl) hf with ⟨hcs, _⟩ | ⟨x, l, c, zs, hcs, _, hl, hm, hz, _, hcell, hwz⟩
  ·simp [Value.cells] at hcs
   obtain ⟨rfl, rfl, rfl⟩ := hcs
   exact ⟨[], rfl, .inl rfl⟩
  ·simp [Value.cells] at hcs
   obtain ⟨rfl, rfl, rfl⟩ := hcs
   exact row8_ints hl (by simpa using hz) hcell hwz
 obtain ⟨a1, len1, cap1, rfl⟩ := okWide_slice Tryd.underlying22 (hval 1 22 v1 rfl rfl)
 obtain ⟨l1, e1, w1⟩ : ∃ l : List UInt8, l.length = len1 ∧ Row8 W a1 l := by
  obtain ⟨fuel, hf⟩ := h1
  rcases open_ints Tryd.underlying22 Tryd.underlying5 (by kernel_rfl) hf with ⟨hcs, _⟩ | ⟨x, l, c, zs, hcs, _, hl, hm, hz, _, hcell, hwz⟩
  ·simp [Value.cells] at hcs
   obtain ⟨rfl, rfl, rfl⟩ := hcs
   exact ⟨[], rfl, .inl rfl⟩
  ·simp [Value.cells] at hcs
   obtain ⟨rfl, rfl, rfl⟩ := hcs
   exact row8_ints hl (by simpa using hz) hcell hwz
 have hT := sp_laid hL
 clear hA0 hval0
 refine (walk W a0 len0 cap0 l0 e0 w0 a1 len1 cap1 l1 e1 w1 hT).mono fun e W' ⟨he, bel⟩ => ?_
 subst he
 exact ⟨_, rfl, _, _, _, [], _, [], hW', trodAll_mk1 (shut_bool Tryd.underlying4 _), (trodAll_cons_mk (Below.trod laidOut (by kernel_rfl) (of_decide_eq_true (by kernel_rfl)) k0 bel lt0) (trodAll_cons_mk (Below.trod laidOut (by kernel_rfl) (of_decide_eq_true (by kernel_rfl)) k1 bel lt1) trodAll_mk0)), rfl, bel.frame _, fun h => by cases h⟩

theorem said : Rows.FnSplitsSaid :=
 OpenClaim.holds_of_wide 3 Tryd.f3 rfl rfl rfl rfl rfl rfl rfl ⟨rfl, rfl, rfl, rfl, rfl⟩ rfl rfl rfl rfl rfl (by kernel_rfl) Tryd.func3 (by kernel_rfl)
  (of_decide_eq_true (by kernel_rfl)) (by unfold Func.isWrapper; first | (rw [if_pos (by decide +kernel)]; kernel_rfl) | (rw [if_neg (by decide +kernel)]; exact ⟨rfl, rfl⟩))
  (fun os started H enc _ => lifted os started H enc)

theorem card : Rows.FnSplitsCardSaid :=
 Claim7.holds_tied_plain_at .later [] _ _ _ _ said (fun _ h => by cases h) (by kernel_rfl) (fun _ h => by cases h) fnSplits_row_tie rfl ⟨rfl, rfl⟩ (by kernel_rfl) rfl
  (fun f fn hf hfn => by
   obtain rfl : f = 3 := Option.some.inj ((show Tryd.prog.funcNamed Tryd.f3.name = some 3 by kernel_rfl).symm.trans hf) |>.symm
   obtain rfl : fn = Tryd.f3 := (Option.some.inj (Tryd.func3.symm.trans hfn)).symm
   exact ⟨by kernel_rfl, fun j t ht => by
    rw [Tryd.params3] at ht
    have hm : t ∈ [22, 22] := by simpa using Array.mem_of_getElem? ht
    have hall : ([22, 22].all fun u => !Tryd.prog.wantsStandIn u) = true := by kernel_rfl
    exact (show Tryd.prog.wantsStandIn t = false by simpa using List.all_eq_true.1 hall t hm)⟩)
  (by kernel_rfl)
#print axioms card
end Go.Proofs.YtgnecacoehedkaaDoor
