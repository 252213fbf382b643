/- At every argument that can be read, the law FnMoves returns true and leaves its arguments as they were: no condition. -/
import Derived.Test.YtlngajonfbnhiaaZG48
import Derived.WalkKit
import Derived.ProofKit
import Derived.OpenShut
import Derived.ShutString
import Derived.ChangeOld
import Derived.Below
namespace Go.Proofs.Ytlngajonfbnhiaa
open Go.ChangeShapes Go.WideShapes Go.ChangeAt Go.RowKit
open Go.ChangeMaps (open_string shut_string)
set_option linter.unusedVariables false

abbrev oFmo0 : Oper := { dst := some 67, op := .call { callee := .value (.func 4), args := #[.tmp 66, .const (.int .i64 3), .const (.int .i64 21)], argTypes := #[22, 3, 3] }, type := 3, pos := "laws.go:530", after := #[{ on := 4, ground := .data }], guard := none }
abbrev oFmo1 : Oper := { dst := some 11, op := .alloc 26, type := 0, pos := "laws.go:530", after := #[], guard := none }
abbrev oFmo2 : Oper := { dst := some 68, op := .binOp .sub 3 (.tmp 67) (.const (.int .i64 10)) 3, type := 3, pos := "laws.go:530", after := #[{ on := 5, ground := .data }], guard := none }
abbrev oFmo3 : Oper := { dst := some 69, op := .call { callee := .value (.func 7), args := #[.tmp 62, .tmp 63, .tmp 64, .tmp 65, .tmp 68], argTypes := #[26, 3, 3, 3, 3] }, type := 33, pos := "laws.go:530", after := #[{ on := 0, ground := .data }, { on := 1, ground := .data }, { on := 2, ground := .data }, { on := 3, ground := .data }, { on := 6, ground := .data }, { on := 5, ground := .chain }], guard := none }
abbrev oFmo4 : Oper := { dst := some 61, op := .move (.tmp 69), type := 33, pos := "laws.go:530", after := #[{ on := 7, ground := .data }], guard := none }
abbrev oFmo5 : Oper := { dst := some 70, op := .extract (.tmp 61) 0, type := 26, pos := "laws.go:530", after := #[{ on := 8, ground := .data }], guard := none }
abbrev oFmo6 : Oper := { dst := some 71, op := .extract (.tmp 61) 1, type := 3, pos := "laws.go:530", after := #[{ on := 8, ground := .data }, { on := 12, ground := .gcOnly Go.Departure.lateStores }], guard := none }
abbrev oFmo7 : Oper := { dst := none, op := .store 26 (.tmp 11) (.tmp 70), type := 0, pos := "laws.go:530", after := #[{ on := 11, ground := .data }, { on := 9, ground := .data }, { on := 7, ground := .chain }, { on := 0, ground := .phase }, { on := 1, ground := .phase }, { on := 2, ground := .phase }, { on := 3, ground := .phase }, { on := 4, ground := .phase }, { on := 5, ground := .phase }, { on := 6, ground := .phase }, { on := 7, ground := .phase }, { on := 8, ground := .phase }, { on := 9, ground := .phase }, { on := 10, ground := .textOnly Go.Departure.lateStores }, { on := 11, ground := .phase }], guard := none }
abbrev oFmo8 : Oper := { dst := some 12, op := .assign (.tmp 71), type := 3, pos := "laws.go:530", after := #[{ on := 10, ground := .data }, { on := 12, ground := .chain }, { on := 0, ground := .phase }, { on := 1, ground := .phase }, { on := 2, ground := .phase }, { on := 3, ground := .phase }, { on := 4, ground := .phase }, { on := 5, ground := .phase }, { on := 6, ground := .phase }, { on := 7, ground := .phase }, { on := 8, ground := .phase }, { on := 9, ground := .phase }, { on := 10, ground := .phase }, { on := 11, ground := .phase }, { on := 12, ground := .phase }], guard := none }
abbrev oFmo9 : Oper := { dst := some 78, op := .call { callee := .value (.func 4), args := #[.tmp 77, .const (.int .i64 3), .const (.int .i64 21)], argTypes := #[22, 3, 3] }, type := 3, pos := "laws.go:531", after := #[{ on := 4, ground := .data }], guard := none }
abbrev oFmo10 : Oper := { dst := some 13, op := .alloc 26, type := 0, pos := "laws.go:531", after := #[], guard := none }
abbrev oFmo11 : Oper := { dst := some 79, op := .binOp .sub 3 (.tmp 78) (.const (.int .i64 10)) 3, type := 3, pos := "laws.go:531", after := #[{ on := 5, ground := .data }], guard := none }
abbrev oFmo12 : Oper := { dst := some 80, op := .call { callee := .value (.func 8), args := #[.tmp 73, .tmp 74, .tmp 75, .tmp 76, .tmp 79], argTypes := #[26, 3, 3, 3, 3] }, type := 33, pos := "laws.go:531", after := #[{ on := 0, ground := .data }, { on := 1, ground := .data }, { on := 2, ground := .data }, { on := 3, ground := .data }, { on := 6, ground := .data }, { on := 5, ground := .chain }], guard := none }
abbrev oFmo13 : Oper := { dst := some 72, op := .move (.tmp 80), type := 33, pos := "laws.go:531", after := #[{ on := 7, ground := .data }], guard := none }
abbrev oFmo14 : Oper := { dst := some 81, op := .extract (.tmp 72) 0, type := 26, pos := "laws.go:531", after := #[{ on := 8, ground := .data }], guard := none }
abbrev oFmo15 : Oper := { dst := some 82, op := .extract (.tmp 72) 1, type := 3, pos := "laws.go:531", after := #[{ on := 8, ground := .data }, { on := 12, ground := .gcOnly Go.Departure.lateStores }], guard := none }
abbrev oFmo16 : Oper := { dst := none, op := .store 26 (.tmp 13) (.tmp 81), type := 0, pos := "laws.go:531", after := #[{ on := 11, ground := .data }, { on := 9, ground := .data }, { on := 7, ground := .chain }, { on := 0, ground := .phase }, { on := 1, ground := .phase }, { on := 2, ground := .phase }, { on := 3, ground := .phase }, { on := 4, ground := .phase }, { on := 5, ground := .phase }, { on := 6, ground := .phase }, { on := 7, ground := .phase }, { on := 8, ground := .phase }, { on := 9, ground := .phase }, { on := 10, ground := .textOnly Go.Departure.lateStores }, { on := 11, ground := .phase }], guard := none }
abbrev oFmo17 : Oper := { dst := some 14, op := .assign (.tmp 82), type := 3, pos := "laws.go:531", after := #[{ on := 10, ground := .data }, { on := 12, ground := .chain }, { on := 0, ground := .phase }, { on := 1, ground := .phase }, { on := 2, ground := .phase }, { on := 3, ground := .phase }, { on := 4, ground := .phase }, { on := 5, ground := .phase }, { on := 6, ground := .phase }, { on := 7, ground := .phase }, { on := 8, ground := .phase }, { on := 9, ground := .phase }, { on := 10, ground := .phase }, { on := 11, ground := .phase }, { on := 12, ground := .phase }], guard := none }
theorem own : ownKnob Try.prog.godebug = none := by kernel_rfl
theorem laidOut : laidOutB Try.prog = true := by kernel_rfl

def IsRow (k : IntKind) (w : World) (a : Option Addr) (len cap : Nat) (zs : List Int) : Prop :=
 (a = none ∧ len = 0 ∧ cap = 0 ∧ zs = []) ∨
 ∃ x, a = some x ∧ len ≤ cap ∧ cap ≤ maxLen ∧ zs.length = cap ∧ (∀ i, i < zs.length → w.cell? (x.add i) = some (.int k (zs.getD i 0))) ∧ ∀ n ∈ zs, (Lit.int k n).wf = true

theorem row8_of {w : World} {a : Option Addr} {len cap : Nat} {zs : List Int} (h : IsRow .u8 w a len cap zs) : ∃ l : List UInt8, l.length = len ∧ Row8 w a l := by
 rcases h with ⟨rfl, rfl, rfl, rfl⟩ | ⟨x, rfl, hl, hm, hz, hcell, hwz⟩
 ·exact ⟨[], rfl, .inl rfl⟩
 ·refine ⟨(zs.take len).map (fun n => UInt8.ofNat n.toNat), by simp; omega, ?_⟩
  by_cases h0 : len = 0
  ·left; simp [h0]
  ·right
   obtain ⟨b, off, spot⟩ := x
   have hc := hcell 0 (by omega)
   have hspot : spot = none := by simpa [Addr.add] using World.cell?_spot hc
   subst hspot
   refine ⟨b, off, rfl, World.block_lt_of_cell? w _ hc, fun i hi => ?_⟩
   have hi' : i < len := by simp at hi; omega
   have hci := hcell i (by omega)
   have hlt : i < zs.length := by omega
   have hg : zs.getD i 0 = zs[i] := by simp [hlt]
   have hmem : zs.getD i 0 ∈ zs := by rw [hg]; exact List.getElem_mem _
   have hb := bounds_u8 (hwz _ hmem)
   rw [show (⟨b, off, none⟩ : Addr).add i = ⟨b, off + i, none⟩ from by unfold Addr.add; split <;> simp_all] at hci
   rw [hci]
   have e1 : ((zs.take len).map (fun n => UInt8.ofNat n.toNat))[i] = UInt8.ofNat (zs.getD i 0).toNat := by
    rw [List.getElem_map, List.getElem_take, hg]
   rw [e1, UInt8.toNat_ofNat']
   congr 2
   omega
set_option maxHeartbeats 8000000 in
set_option maxRecDepth 100000 in
theorem walk (a0 : Option Addr) (len0 cap0 : Nat) (z0 : List Int) (a1 : Option Addr) (len1 cap1 : Nat) (z1 : List Int) (w : World) (w0 : IsRow .u8 w a0 len0 cap0 z0) (w1 : IsRow .u8 w a1 len1 cap1 z1) :
  Calls Try.prog 3 #[.slice a0 len0 cap0, .slice a1 len1 cap1] w fun e w' => e = .returned (.bool true) ∧ Below w.heap.size w w' := by
 obtain ⟨l0, rfl, r0⟩ := row8_of w0
 obtain ⟨l1, rfl, r1⟩ := row8_of w1
 clear w0 w1
 by_cases big0 : 1048576 < l0.length
 ·have b0 : (1048576 : Int) < (l0.length : Int) := by omega
  clear r0 r1
  go_enter Try.func3, Try.ntmps3
  go_wp2_with fail
  go_ret
  exact ⟨rfl, Below.refl _ _⟩
 have b0 : ¬ (1048576 : Int) < (l0.length : Int) := by omega
 by_cases big1 : 1048576 < l1.length
 ·have b1 : (1048576 : Int) < (l1.length : Int) := by omega
  clear r0 r1
  go_enter Try.func3, Try.ntmps3
  go_wp2_with fail
  go_ret
  exact ⟨rfl, Below.refl _ _⟩
 have b1 : ¬ (1048576 : Int) < (l1.length : Int) := by omega
 have HS0 : Hid (l0.length ≤ 1048600) := by show _ ≤ _; omega
 have HS1 : Hid (l1.length ≤ 1048576) := by show _ ≤ _; omega
 have HR0 := hide r0
 have HR1 := hide (row8_V r1)
 clear r0 r1 big0 big1
 have T := lat a1 cap1 l1 0 21 (unhide HS1) (by decide) (by decide) (by decide) w (unhide HR1)
 change Calls _ _ #[_, .int .i64 0, .int .i64 21] _ _ at T
 have HT := hide T
 clear T
 go_enter Try.func3, Try.ntmps3
 go_wp2_with fail
 refine (unhide HT).mono ?_
 rintro e w1 ⟨v1, rfl, hv1, hb1⟩
 have B1 := hide hb1
 clear hb1 HT
 have T := lat a1 cap1 l1 1 7 (unhide HS1) (by decide) (by decide) (by decide) w1 ((unhide HR1).below (unhide B1))
 change Calls _ _ #[_, .int .i64 1, .int .i64 7] _ _ at T
 have HT := hide T
 clear T
 obtain ⟨W, hW⟩ : ∃ W : Nat, W = 4 + v1 := ⟨_, rfl⟩
 have W1 : (4 : Int) + (v1 : Int) = (W : Int) := by omega
 have Wb : 4 ≤ W ∧ W ≤ 24 := by omega
 clear hW hv1
 go_wp2_with fail
 refine (unhide HT).mono ?_
 rintro e w2 ⟨v2, rfl, hv2, hb2⟩
 have B2 := hide ((unhide B1).trans (hb2.mono (unhide B1).size))
 clear hb2 HT B1
 obtain ⟨H, hH⟩ : ∃ H : Nat, H = 4 + v2 := ⟨_, rfl⟩
 have H1 : (4 : Int) + (v2 : Int) = (H : Int) := by omega
 have Hb : 4 ≤ H ∧ H ≤ 10 := by omega
 clear hH hv2
 have HSZ : Hid (sizeB (W : Int) (H : Int) = true) := decide_eq_true (by omega)
 go_wp2_with fail
 refine (slayoutOf a0 cap0 l0 (unhide HS0) (W : Int) (H : Int) HSZ w2 ((unhide HR0).below (unhide B2))).mono ?_
 rintro e w3 ⟨l, t, a2, cap2, rfl, ht, ht6, ho3, hb3⟩
 have B3 := hide ((unhide B2).trans (hb3.mono (unhide B2).size))
 have L3 := hide (rowZ_at ho3)
 have HTT := hide ht
 have HT6 := hide ht6
 clear hb3 B2 ho3 ht ht6
 obtain ⟨A, hA⟩ : ∃ A, A = t.areas 0 0 (W : Int) (H : Int) := ⟨_, rfl⟩
 obtain ⟨e1, e2⟩ := arL_some (unhide HTT)
 rw [← hA] at e1
 have HAL : Hid (A = arL l (W : Int) (H : Int)) := e1.symm
 have HAC : Hid (0 = arC l (W : Int) (H : Int)) := e2.symm
 have HA := hide hA
 have hA6 : A.length ≤ 6 := by rw [hA]; exact areas_len6 (unhide HTT)
 have hA0 : 0 < A.length := by rw [hA]; exact areas_pos _ _ _ _ _
 have HL11 : Hid (l.length ≤ 1048576) := by show _ ≤ _; have := (tofS_ok (unhide HTT)).2.2.1; have := (tofS_ok (unhide HTT)).2.2.2.1; omega
 clear e1 e2 hA
 obtain ⟨zZ, hzZ⟩ : ∃ z, z = w3.heap.size := ⟨_, rfl⟩
 have B0 := B3
 have R0 := L3
 clear B3 L3
 have B1 : Hid (Below w.heap.size w (w3.alloc (.cells #[.slice a2 l.length cap2] 26))) := (unhide B0).trans ((Go.Joins.below_alloc1 w3 (.cells #[.slice a2 l.length cap2] 26)).mono (unhide B0).size)
 have R1 : Hid (RowV (w3.alloc (.cells #[.slice a2 l.length cap2] 26)) a2 (cPt l)) := (unhide R0).below (Go.Joins.below_alloc1 w3 (.cells #[.slice a2 l.length cap2] 26))
 clear B0 R0
 have Z1 : Hid (BF zZ #[.slice a2 l.length cap2] (w3.alloc (.cells #[.slice a2 l.length cap2] 26))) := by show BF _ _ _; rw [hzZ]; exact BF.new w3 #[.slice a2 l.length cap2] 26
 skip
 go_wp2_with fail
 rw [← hzZ]
 generalize (w3.alloc (.cells #[.slice a2 l.length cap2] 26)) = w4 at B1 R1 Z1 ⊢
 clear hzZ
 refine (slareas a2 cap2 l.length l rfl (unhide HL11) (W : Int) (H : Int) 0 A HAC HAL w4 (unhide R1)).mono ?_
 rintro e w5 ⟨aB, capB, rfl, hoB, hb⟩
 have B2 : Hid (Below w.heap.size w w5) := (unhide B1).trans (hb.mono (unhide B1).size)
 have R2 : Hid (RowV w5 a2 (cPt l)) := (unhide R1).below hb
 have Z2 : Hid (BF zZ #[.slice a2 l.length cap2] w5) := (unhide Z1).below hb
 clear B1 R1 Z1
 have A2 : Hid (RowV w5 aB (cAr A)) := rowZ_at hoB
 clear hoB hb
 have hz0 : ((A.length : Int) == 0) = false := beq_eq_false_iff_ne.2 (by omega)
 have hz1 : ¬ (A.length : Int) = 0 := by omega
 have T := latN a1 cap1 l1 2 A.length (unhide HS1) (by decide) hA0 (by omega) w5 ((unhide HR1).below (unhide B2))
 change Calls _ _ #[_, .int .i64 2, _] _ _ at T
 have HT := hide T
 clear T
 go_wp2_with fail
 refine (unhide HT).mono ?_
 rintro e w6 ⟨v, rfl, hv, hb⟩
 have B3 : Hid (Below w.heap.size w w6) := (unhide B2).trans (hb.mono (unhide B2).size)
 have R3 : Hid (RowV w6 a2 (cPt l)) := (unhide R2).below hb
 have Z3 : Hid (BF zZ #[.slice a2 l.length cap2] w6) := (unhide Z2).below hb
 have A3 : Hid (RowV w6 aB (cAr A)) := (unhide A2).below hb
 clear B2 R2 Z2 A2
 clear hb HT hz0 hz1
 obtain ⟨pn, hpn⟩ : ∃ pn, pn = A[v].pane := ⟨_, rfl⟩
 have HPN : Hid (pn ∈ t.panes) := by
  show _ ∈ _
  have e := unhide HA
  subst e
  rw [hpn]; exact area_pane hv
 obtain ⟨b, off, ha, hblt, hc⟩ := (unhide A3).at (by rw [cAr_len]; omega)
 have x0 := (rowAr hc v hv).1
 rw [← hpn] at x0
 have hv' : (v : Int) < (A.length : Int) := by omega
 have hv0 : (0 : Int) ≤ (v : Int) := by omega
 subst ha
 clear hc hpn
 obtain ⟨v3, hv3⟩ : ∃ v3, v3 = atV l1 3 21 := ⟨_, rfl⟩
 have v3l : v3 < 21 := by rw [hv3]; exact atV_lt _ _ _ (by decide)
 have HV3 := hide hv3
 obtain ⟨l2, e2⟩ : ∃ l2, l2 = moveL l (W : Int) (H : Int) pn ((v3 : Int) - 10) := ⟨_, rfl⟩
 obtain ⟨c, ec⟩ : ∃ c, c = moveC l (W : Int) (H : Int) pn ((v3 : Int) - 10) := ⟨_, rfl⟩
 have HL2 := hide e2
 have HC := hide ec
 have wv3 : IntKind.i64.wrap ((v3 : Int) - 10) = (v3 : Int) - 10 := wrapi _ (by omega) (by omega)
 clear hv3 e2 ec
 go_wp2_with fail
 clear x0 hblt hv0
 apply Code.wp_mono (Q := CutQ _ (fun P1 aM1 cM1 v' => Hid (Below w.heap.size w v') ∧ Hid (RowV v' a2 (cPt l)) ∧ Hid (BF zZ #[.slice a2 l.length cap2] v') ∧ Hid (RowV v' (some ⟨b, off, none⟩) (cAr A)) ∧ Hid (BF P1 #[.slice aM1 l2.length cM1] v') ∧ Hid (RowV v' aM1 (cPt l2))))
 rotate_left 1
 ·refine wp_region_held_drew (S := fun w' => ∀ o, w'.cell? ⟨zZ, o, none⟩ = (#[.slice a2 l.length cap2] : Array Value)[o]?) (by kernel_rfl) (unhide Z3).S (fun hHeld => ?_)
  have B4 : Hid (Below w.heap.size w w6.drew) := (unhide B3).trans (((Below.refl w6.heap.size w6).drew).mono (unhide B3).size)
  have R4 : Hid (RowV w6.drew a2 (cPt l)) := (unhide R3).below ((Below.refl w6.heap.size w6).drew)
  have Z4 : Hid (BF zZ #[.slice a2 l.length cap2] w6.drew) := (unhide Z3).below ((Below.refl w6.heap.size w6).drew)
  have A4 : Hid (RowV w6.drew (some ⟨b, off, none⟩) (cAr A)) := (unhide A3).below ((Below.refl w6.heap.size w6).drew)
  generalize w6.drew = q10 at B4 R4 Z4 A4 hHeld ⊢
  refine wtv 0 (oi := { dst := some 62, op := .load 26 (.tmp 7), type := 26, pos := "laws.go:530", after := #[], guard := none }) ?_
  refine wtv 1 (oi := { dst := some 63, op := .move (.tmp 5), type := 3, pos := "laws.go:530", after := #[], guard := none }) ?_
  refine wtv 2 (oi := { dst := some 64, op := .move (.tmp 6), type := 3, pos := "laws.go:530", after := #[], guard := none }) ?_
  refine wtv 3 (oi := { dst := some 65, op := .move (.tmp 10), type := 3, pos := "laws.go:530", after := #[], guard := none }) ?_
  refine wtv 4 (oi := { dst := some 66, op := .move (.tmp 1), type := 22, pos := "laws.go:530", after := #[], guard := none }) ?_
  refine wpAnyH_ready (rs := [5, 11]) (by kernel_rfl) (by simp) ?_
  refine AllReadyH.cons (o := oFmo0) rfl (fun K hK => ?_) (AllReadyH.cons (o := oFmo1) rfl (fun K hK => ?_) AllReadyH.nil)
  ·go_simp
   refine (latV a1 cap1 l1 3 21 v3 HV3 (unhide HS1) (by decide) (by decide) (by decide) q10 ((unhide HR1).below (unhide B4))).mono ?_
   rintro e x14 ⟨rfl, hb⟩
   have B5 : Hid (Below w.heap.size w x14) := (unhide B4).trans (hb.mono (unhide B4).size)
   have R5 : Hid (RowV x14 a2 (cPt l)) := (unhide R4).below hb
   have Z5 : Hid (BF zZ #[.slice a2 l.length cap2] x14) := (unhide Z4).below hb
   have A5 : Hid (RowV x14 (some ⟨b, off, none⟩) (cAr A)) := (unhide A4).below hb
   clear B4 R4 Z4 A4
   clear hb
   go_wp2_with fail
   refine hK.out _ _ ?_ (fun hHeld5 => ?_)
   ·exact (unhide Z5).S
   clear hK K
   try simp only [Act.put, qqA, qqB, qqC]
   refine wtv 6 (oi := oFmo2) ?_
   try rw [wv3]
   refine wpAnyH_ready (rs := [7, 11]) (by kernel_rfl) (by simp) ?_
   refine AllReadyH.cons (o := oFmo3) rfl (fun K hK => ?_) (AllReadyH.cons (o := oFmo1) rfl (fun K hK => ?_) AllReadyH.nil)
   ·go_simp
    refine (imoveout a2 cap2 l.length l rfl (unhide HL11) (W : Int) (H : Int) pn ((v3 : Int) - 10) c l2 HC HL2 x14 (unhide R5)).mono ?_
    rintro e y15 ⟨aM1, cM1, rfl, ho, hb⟩
    have B6 : Hid (Below w.heap.size w y15) := (unhide B5).trans (hb.mono (unhide B5).size)
    have R6 : Hid (RowV y15 a2 (cPt l)) := (unhide R5).below hb
    have Z6 : Hid (BF zZ #[.slice a2 l.length cap2] y15) := (unhide Z5).below hb
    have A6 : Hid (RowV y15 (some ⟨b, off, none⟩) (cAr A)) := (unhide A5).below hb
    clear B5 R5 Z5 A5
    have R16 : Hid (RowV y15 aM1 (cPt l2)) := rowZ_at ho
    clear ho hb
    go_wp2_with fail
    refine hK.out _ _ ?_ (fun hHeld7 => ?_)
    ·exact (unhide Z6).S
    clear hK K
    try simp only [Act.put, qqA, qqB, qqC]
    refine wtv 8 (oi := oFmo4) ?_
    refine wtv 9 (oi := oFmo5) ?_
    refine wtv 10 (oi := oFmo6) ?_
    refine wpAnyH_ready (rs := [11]) (by kernel_rfl) (by simp) ?_
    refine AllReadyH.cons (o := oFmo1) rfl (fun K hK => ?_) AllReadyH.nil
    obtain ⟨P1, hP⟩ : ∃ P, P = y15.heap.size := ⟨_, rfl⟩
    have LPM1 : Hid (w.heap.size ≤ P1) := by show _ ≤ _; rw [hP]; exact (unhide B6).size
    have NEM1Z : Hid (zZ < P1) := by show _ < _; rw [hP]; exact (unhide Z6).lt
    have B7 : Hid (Below w.heap.size w (y15.alloc (.cells #[.slice none 0 0] 26))) := (unhide B6).trans ((Go.Joins.below_alloc1 y15 (.cells #[.slice none 0 0] 26)).mono (unhide B6).size)
    have R7 : Hid (RowV (y15.alloc (.cells #[.slice none 0 0] 26)) a2 (cPt l)) := (unhide R6).below (Go.Joins.below_alloc1 y15 (.cells #[.slice none 0 0] 26))
    have Z7 : Hid (BF zZ #[.slice a2 l.length cap2] (y15.alloc (.cells #[.slice none 0 0] 26))) := (unhide Z6).below (Go.Joins.below_alloc1 y15 (.cells #[.slice none 0 0] 26))
    have A7 : Hid (RowV (y15.alloc (.cells #[.slice none 0 0] 26)) (some ⟨b, off, none⟩) (cAr A)) := (unhide A6).below (Go.Joins.below_alloc1 y15 (.cells #[.slice none 0 0] 26))
    have R17 : Hid (RowV (y15.alloc (.cells #[.slice none 0 0] 26)) aM1 (cPt l2)) := (unhide R16).below (Go.Joins.below_alloc1 y15 (.cells #[.slice none 0 0] 26))
    clear B6 R6 Z6 A6 R16
    have M17 : Hid (BF P1 #[.slice none 0 0] (y15.alloc (.cells #[.slice none 0 0] 26))) := by show BF _ _ _; rw [hP]; exact BF.new y15 #[.slice none 0 0] 26
    go_simp
    rw [← hP]
    clear hP
    generalize (y15.alloc (.cells #[.slice none 0 0] 26)) = q17 at B7 R7 Z7 A7 R17 M17 ⊢
    refine hK.out _ _ ?_ (fun hHeld11 => ?_)
    ·exact (unhide Z7).S
    clear hK K
    try simp only [Act.put, qqA, qqB, qqC]
    refine wpAnyH_ready (rs := [12]) (by kernel_rfl) (by simp) ?_
    refine AllReadyH.cons (o := oFmo7) rfl (fun K hK => ?_) AllReadyH.nil
    have km := (unhide M17).S
    have kf := (unhide M17).F
    go_simp
    clear km kf
    have B8 : Hid (Below w.heap.size w (q17.setCell ⟨P1, 0, none⟩ (.slice aM1 l2.length cM1))) := (unhide B7).setCell (p := ⟨P1, 0, none⟩) (unhide LPM1) _
    have R8 : Hid (RowV (q17.setCell ⟨P1, 0, none⟩ (.slice aM1 l2.length cM1)) a2 (cPt l)) := rowP_set (unhide R7) (unhide M17) _
    have Z8 : Hid (BF zZ #[.slice a2 l.length cap2] (q17.setCell ⟨P1, 0, none⟩ (.slice aM1 l2.length cM1))) := (unhide Z7).far ⟨P1, 0, none⟩ _ (by have := unhide NEM1Z; show P1 ≠ _; omega)
    have A8 : Hid (RowV (q17.setCell ⟨P1, 0, none⟩ (.slice aM1 l2.length cM1)) (some ⟨b, off, none⟩) (cAr A)) := rowA_set (unhide A7) (unhide M17) _
    have R18 : Hid (RowV (q17.setCell ⟨P1, 0, none⟩ (.slice aM1 l2.length cM1)) aM1 (cPt l2)) := rowP_set (unhide R17) (unhide M17) _
    have M18 : Hid (BF P1 #[.slice aM1 l2.length cM1] (q17.setCell ⟨P1, 0, none⟩ (.slice aM1 l2.length cM1))) := (unhide M17).set 0 (by simp) _
    clear B7 R7 Z7 A7 R17 M17
    generalize (q17.setCell ⟨P1, 0, none⟩ (.slice aM1 l2.length cM1)) = s1 at B8 R8 Z8 A8 R18 M18 ⊢
    refine hK.out _ _ ?_ (fun hHeld12 => ?_)
    ·exact (unhide Z8).S
    clear hK K
    try simp only [Act.put, qqA, qqB, qqC]
    refine wtv 13 (oi := oFmo8) ?_
    refine wpAnyH_done (by kernel_rfl) ?_ _
    exact ⟨P1, aM1, cM1, rfl, B8, R8, Z8, A8, M18, R18⟩
   ·obtain ⟨P1, hP⟩ : ∃ P, P = x14.heap.size := ⟨_, rfl⟩
    have LPM1 : Hid (w.heap.size ≤ P1) := by show _ ≤ _; rw [hP]; exact (unhide B5).size
    have NEM1Z : Hid (zZ < P1) := by show _ < _; rw [hP]; exact (unhide Z5).lt
    have B6 : Hid (Below w.heap.size w (x14.alloc (.cells #[.slice none 0 0] 26))) := (unhide B5).trans ((Go.Joins.below_alloc1 x14 (.cells #[.slice none 0 0] 26)).mono (unhide B5).size)
    have R6 : Hid (RowV (x14.alloc (.cells #[.slice none 0 0] 26)) a2 (cPt l)) := (unhide R5).below (Go.Joins.below_alloc1 x14 (.cells #[.slice none 0 0] 26))
    have Z6 : Hid (BF zZ #[.slice a2 l.length cap2] (x14.alloc (.cells #[.slice none 0 0] 26))) := (unhide Z5).below (Go.Joins.below_alloc1 x14 (.cells #[.slice none 0 0] 26))
    have A6 : Hid (RowV (x14.alloc (.cells #[.slice none 0 0] 26)) (some ⟨b, off, none⟩) (cAr A)) := (unhide A5).below (Go.Joins.below_alloc1 x14 (.cells #[.slice none 0 0] 26))
    clear B5 R5 Z5 A5
    have M16 : Hid (BF P1 #[.slice none 0 0] (x14.alloc (.cells #[.slice none 0 0] 26))) := by show BF _ _ _; rw [hP]; exact BF.new x14 #[.slice none 0 0] 26
    go_simp
    rw [← hP]
    clear hP
    generalize (x14.alloc (.cells #[.slice none 0 0] 26)) = q16 at B6 R6 Z6 A6 M16 ⊢
    refine hK.out _ _ ?_ (fun hHeld11 => ?_)
    ·exact (unhide Z6).S
    clear hK K
    try simp only [Act.put, qqA, qqB, qqC]
    refine wpAnyH_ready (rs := [7]) (by kernel_rfl) (by simp) ?_
    refine AllReadyH.cons (o := oFmo3) rfl (fun K hK => ?_) AllReadyH.nil
    go_simp
    refine (imoveout a2 cap2 l.length l rfl (unhide HL11) (W : Int) (H : Int) pn ((v3 : Int) - 10) c l2 HC HL2 q16 (unhide R6)).mono ?_
    rintro e y16 ⟨aM1, cM1, rfl, ho, hb⟩
    have B7 : Hid (Below w.heap.size w y16) := (unhide B6).trans (hb.mono (unhide B6).size)
    have R7 : Hid (RowV y16 a2 (cPt l)) := (unhide R6).below hb
    have Z7 : Hid (BF zZ #[.slice a2 l.length cap2] y16) := (unhide Z6).below hb
    have A7 : Hid (RowV y16 (some ⟨b, off, none⟩) (cAr A)) := (unhide A6).below hb
    have M17 : Hid (BF P1 #[.slice none 0 0] y16) := (unhide M16).below hb
    clear B6 R6 Z6 A6 M16
    have R17 : Hid (RowV y16 aM1 (cPt l2)) := rowZ_at ho
    clear ho hb
    go_wp2_with fail
    refine hK.out _ _ ?_ (fun hHeld7 => ?_)
    ·exact (unhide Z7).S
    clear hK K
    try simp only [Act.put, qqA, qqB, qqC]
    refine wtv 8 (oi := oFmo4) ?_
    refine wtv 9 (oi := oFmo5) ?_
    refine wtv 10 (oi := oFmo6) ?_
    refine wpAnyH_ready (rs := [12]) (by kernel_rfl) (by simp) ?_
    refine AllReadyH.cons (o := oFmo7) rfl (fun K hK => ?_) AllReadyH.nil
    have km := (unhide M17).S
    have kf := (unhide M17).F
    go_simp
    clear km kf
    have B8 : Hid (Below w.heap.size w (y16.setCell ⟨P1, 0, none⟩ (.slice aM1 l2.length cM1))) := (unhide B7).setCell (p := ⟨P1, 0, none⟩) (unhide LPM1) _
    have R8 : Hid (RowV (y16.setCell ⟨P1, 0, none⟩ (.slice aM1 l2.length cM1)) a2 (cPt l)) := rowP_set (unhide R7) (unhide M17) _
    have Z8 : Hid (BF zZ #[.slice a2 l.length cap2] (y16.setCell ⟨P1, 0, none⟩ (.slice aM1 l2.length cM1))) := (unhide Z7).far ⟨P1, 0, none⟩ _ (by have := unhide NEM1Z; show P1 ≠ _; omega)
    have A8 : Hid (RowV (y16.setCell ⟨P1, 0, none⟩ (.slice aM1 l2.length cM1)) (some ⟨b, off, none⟩) (cAr A)) := rowA_set (unhide A7) (unhide M17) _
    have M18 : Hid (BF P1 #[.slice aM1 l2.length cM1] (y16.setCell ⟨P1, 0, none⟩ (.slice aM1 l2.length cM1))) := (unhide M17).set 0 (by simp) _
    have R18 : Hid (RowV (y16.setCell ⟨P1, 0, none⟩ (.slice aM1 l2.length cM1)) aM1 (cPt l2)) := rowP_set (unhide R17) (unhide M17) _
    clear B7 R7 Z7 A7 M17 R17
    generalize (y16.setCell ⟨P1, 0, none⟩ (.slice aM1 l2.length cM1)) = s1 at B8 R8 Z8 A8 M18 R18 ⊢
    refine hK.out _ _ ?_ (fun hHeld12 => ?_)
    ·exact (unhide Z8).S
    clear hK K
    try simp only [Act.put, qqA, qqB, qqC]
    refine wtv 13 (oi := oFmo8) ?_
    refine wpAnyH_done (by kernel_rfl) ?_ _
    exact ⟨P1, aM1, cM1, rfl, B8, R8, Z8, A8, M18, R18⟩
  ·obtain ⟨P1, hP⟩ : ∃ P, P = q10.heap.size := ⟨_, rfl⟩
   have LPM1 : Hid (w.heap.size ≤ P1) := by show _ ≤ _; rw [hP]; exact (unhide B4).size
   have NEM1Z : Hid (zZ < P1) := by show _ < _; rw [hP]; exact (unhide Z4).lt
   have B5 : Hid (Below w.heap.size w (q10.alloc (.cells #[.slice none 0 0] 26))) := (unhide B4).trans ((Go.Joins.below_alloc1 q10 (.cells #[.slice none 0 0] 26)).mono (unhide B4).size)
   have R5 : Hid (RowV (q10.alloc (.cells #[.slice none 0 0] 26)) a2 (cPt l)) := (unhide R4).below (Go.Joins.below_alloc1 q10 (.cells #[.slice none 0 0] 26))
   have Z5 : Hid (BF zZ #[.slice a2 l.length cap2] (q10.alloc (.cells #[.slice none 0 0] 26))) := (unhide Z4).below (Go.Joins.below_alloc1 q10 (.cells #[.slice none 0 0] 26))
   have A5 : Hid (RowV (q10.alloc (.cells #[.slice none 0 0] 26)) (some ⟨b, off, none⟩) (cAr A)) := (unhide A4).below (Go.Joins.below_alloc1 q10 (.cells #[.slice none 0 0] 26))
   clear B4 R4 Z4 A4
   have M15 : Hid (BF P1 #[.slice none 0 0] (q10.alloc (.cells #[.slice none 0 0] 26))) := by show BF _ _ _; rw [hP]; exact BF.new q10 #[.slice none 0 0] 26
   go_simp
   rw [← hP]
   clear hP
   generalize (q10.alloc (.cells #[.slice none 0 0] 26)) = q15 at B5 R5 Z5 A5 M15 ⊢
   refine hK.out _ _ ?_ (fun hHeld11 => ?_)
   ·exact (unhide Z5).S
   clear hK K
   try simp only [Act.put, qqA, qqB, qqC]
   refine wpAnyH_ready (rs := [5]) (by kernel_rfl) (by simp) ?_
   refine AllReadyH.cons (o := oFmo0) rfl (fun K hK => ?_) AllReadyH.nil
   go_simp
   refine (latV a1 cap1 l1 3 21 v3 HV3 (unhide HS1) (by decide) (by decide) (by decide) q15 ((unhide HR1).below (unhide B5))).mono ?_
   rintro e x15 ⟨rfl, hb⟩
   have B6 : Hid (Below w.heap.size w x15) := (unhide B5).trans (hb.mono (unhide B5).size)
   have R6 : Hid (RowV x15 a2 (cPt l)) := (unhide R5).below hb
   have Z6 : Hid (BF zZ #[.slice a2 l.length cap2] x15) := (unhide Z5).below hb
   have A6 : Hid (RowV x15 (some ⟨b, off, none⟩) (cAr A)) := (unhide A5).below hb
   have M16 : Hid (BF P1 #[.slice none 0 0] x15) := (unhide M15).below hb
   clear B5 R5 Z5 A5 M15
   clear hb
   go_wp2_with fail
   refine hK.out _ _ ?_ (fun hHeld5 => ?_)
   ·exact (unhide Z6).S
   clear hK K
   try simp only [Act.put, qqA, qqB, qqC]
   refine wtv 6 (oi := oFmo2) ?_
   try rw [wv3]
   refine wpAnyH_ready (rs := [7]) (by kernel_rfl) (by simp) ?_
   refine AllReadyH.cons (o := oFmo3) rfl (fun K hK => ?_) AllReadyH.nil
   go_simp
   refine (imoveout a2 cap2 l.length l rfl (unhide HL11) (W : Int) (H : Int) pn ((v3 : Int) - 10) c l2 HC HL2 x15 (unhide R6)).mono ?_
   rintro e y16 ⟨aM1, cM1, rfl, ho, hb⟩
   have B7 : Hid (Below w.heap.size w y16) := (unhide B6).trans (hb.mono (unhide B6).size)
   have R7 : Hid (RowV y16 a2 (cPt l)) := (unhide R6).below hb
   have Z7 : Hid (BF zZ #[.slice a2 l.length cap2] y16) := (unhide Z6).below hb
   have A7 : Hid (RowV y16 (some ⟨b, off, none⟩) (cAr A)) := (unhide A6).below hb
   have M17 : Hid (BF P1 #[.slice none 0 0] y16) := (unhide M16).below hb
   clear B6 R6 Z6 A6 M16
   have R17 : Hid (RowV y16 aM1 (cPt l2)) := rowZ_at ho
   clear ho hb
   go_wp2_with fail
   refine hK.out _ _ ?_ (fun hHeld7 => ?_)
   ·exact (unhide Z7).S
   clear hK K
   try simp only [Act.put, qqA, qqB, qqC]
   refine wtv 8 (oi := oFmo4) ?_
   refine wtv 9 (oi := oFmo5) ?_
   refine wtv 10 (oi := oFmo6) ?_
   refine wpAnyH_ready (rs := [12]) (by kernel_rfl) (by simp) ?_
   refine AllReadyH.cons (o := oFmo7) rfl (fun K hK => ?_) AllReadyH.nil
   have km := (unhide M17).S
   have kf := (unhide M17).F
   go_simp
   clear km kf
   have B8 : Hid (Below w.heap.size w (y16.setCell ⟨P1, 0, none⟩ (.slice aM1 l2.length cM1))) := (unhide B7).setCell (p := ⟨P1, 0, none⟩) (unhide LPM1) _
   have R8 : Hid (RowV (y16.setCell ⟨P1, 0, none⟩ (.slice aM1 l2.length cM1)) a2 (cPt l)) := rowP_set (unhide R7) (unhide M17) _
   have Z8 : Hid (BF zZ #[.slice a2 l.length cap2] (y16.setCell ⟨P1, 0, none⟩ (.slice aM1 l2.length cM1))) := (unhide Z7).far ⟨P1, 0, none⟩ _ (by have := unhide NEM1Z; show P1 ≠ _; omega)
   have A8 : Hid (RowV (y16.setCell ⟨P1, 0, none⟩ (.slice aM1 l2.length cM1)) (some ⟨b, off, none⟩) (cAr A)) := rowA_set (unhide A7) (unhide M17) _
   have M18 : Hid (BF P1 #[.slice aM1 l2.length cM1] (y16.setCell ⟨P1, 0, none⟩ (.slice aM1 l2.length cM1))) := (unhide M17).set 0 (by simp) _
   have R18 : Hid (RowV (y16.setCell ⟨P1, 0, none⟩ (.slice aM1 l2.length cM1)) aM1 (cPt l2)) := rowP_set (unhide R17) (unhide M17) _
   clear B7 R7 Z7 A7 M17 R17
   generalize (y16.setCell ⟨P1, 0, none⟩ (.slice aM1 l2.length cM1)) = s1 at B8 R8 Z8 A8 M18 R18 ⊢
   refine hK.out _ _ ?_ (fun hHeld12 => ?_)
   ·exact (unhide Z8).S
   clear hK K
   try simp only [Act.put, qqA, qqB, qqC]
   refine wtv 13 (oi := oFmo8) ?_
   refine wpAnyH_done (by kernel_rfl) ?_ _
   exact ⟨P1, aM1, cM1, rfl, B8, R8, Z8, A8, M18, R18⟩
 intro x a' V1 h
 cases x
 all_goals try exact False.elim h
 obtain ⟨P1, aM1, cM1, rfl, B4, R4, Z4, A4, M14, R14⟩ := h
 clear B3 R3 Z3 A3
 go_wp2_with fail
 apply Code.wp_mono (Q := CutQ _ (fun P2 aM2 cM2 v' => Hid (Below w.heap.size w v') ∧ Hid (RowV v' a2 (cPt l)) ∧ Hid (BF zZ #[.slice a2 l.length cap2] v') ∧ Hid (RowV v' (some ⟨b, off, none⟩) (cAr A)) ∧ Hid (BF P1 #[.slice aM1 l2.length cM1] v') ∧ Hid (RowV v' aM1 (cPt l2)) ∧ Hid (BF P2 #[.slice aM2 l2.length cM2] v') ∧ Hid (RowV v' aM2 (cPt l2))))
 rotate_left 1
 ·refine wp_region_held_drew (S := fun w' => ∀ o, w'.cell? ⟨zZ, o, none⟩ = (#[.slice a2 l.length cap2] : Array Value)[o]?) (by kernel_rfl) (unhide Z4).S (fun hHeld => ?_)
  have B5 : Hid (Below w.heap.size w V1.drew) := (unhide B4).trans (((Below.refl V1.heap.size V1).drew).mono (unhide B4).size)
  have R5 : Hid (RowV V1.drew a2 (cPt l)) := (unhide R4).below ((Below.refl V1.heap.size V1).drew)
  have Z5 : Hid (BF zZ #[.slice a2 l.length cap2] V1.drew) := (unhide Z4).below ((Below.refl V1.heap.size V1).drew)
  have A5 : Hid (RowV V1.drew (some ⟨b, off, none⟩) (cAr A)) := (unhide A4).below ((Below.refl V1.heap.size V1).drew)
  have M15 : Hid (BF P1 #[.slice aM1 l2.length cM1] V1.drew) := (unhide M14).below ((Below.refl V1.heap.size V1).drew)
  have R15 : Hid (RowV V1.drew aM1 (cPt l2)) := (unhide R14).below ((Below.refl V1.heap.size V1).drew)
  generalize V1.drew = q20 at B5 R5 Z5 A5 M15 R15 hHeld ⊢
  refine wtv 0 (oi := { dst := some 73, op := .load 26 (.tmp 7), type := 26, pos := "laws.go:531", after := #[], guard := none }) ?_
  refine wtv 1 (oi := { dst := some 74, op := .move (.tmp 5), type := 3, pos := "laws.go:531", after := #[], guard := none }) ?_
  refine wtv 2 (oi := { dst := some 75, op := .move (.tmp 6), type := 3, pos := "laws.go:531", after := #[], guard := none }) ?_
  refine wtv 3 (oi := { dst := some 76, op := .move (.tmp 10), type := 3, pos := "laws.go:531", after := #[], guard := none }) ?_
  refine wtv 4 (oi := { dst := some 77, op := .move (.tmp 1), type := 22, pos := "laws.go:531", after := #[], guard := none }) ?_
  refine wpAnyH_ready (rs := [5, 11]) (by kernel_rfl) (by simp) ?_
  refine AllReadyH.cons (o := oFmo9) rfl (fun K hK => ?_) (AllReadyH.cons (o := oFmo10) rfl (fun K hK => ?_) AllReadyH.nil)
  ·go_simp
   refine (latV a1 cap1 l1 3 21 v3 HV3 (unhide HS1) (by decide) (by decide) (by decide) q20 ((unhide HR1).below (unhide B5))).mono ?_
   rintro e x25 ⟨rfl, hb⟩
   have B6 : Hid (Below w.heap.size w x25) := (unhide B5).trans (hb.mono (unhide B5).size)
   have R6 : Hid (RowV x25 a2 (cPt l)) := (unhide R5).below hb
   have Z6 : Hid (BF zZ #[.slice a2 l.length cap2] x25) := (unhide Z5).below hb
   have A6 : Hid (RowV x25 (some ⟨b, off, none⟩) (cAr A)) := (unhide A5).below hb
   have M16 : Hid (BF P1 #[.slice aM1 l2.length cM1] x25) := (unhide M15).below hb
   have R16 : Hid (RowV x25 aM1 (cPt l2)) := (unhide R15).below hb
   clear B5 R5 Z5 A5 M15 R15
   clear hb
   go_wp2_with fail
   refine hK.out _ _ ?_ (fun hHeld5 => ?_)
   ·exact (unhide Z6).S
   clear hK K
   try simp only [Act.put, qqA, qqB, qqC]
   refine wtv 6 (oi := oFmo11) ?_
   try rw [wv3]
   refine wpAnyH_ready (rs := [7, 11]) (by kernel_rfl) (by simp) ?_
   refine AllReadyH.cons (o := oFmo12) rfl (fun K hK => ?_) (AllReadyH.cons (o := oFmo10) rfl (fun K hK => ?_) AllReadyH.nil)
   ·go_simp
    refine (smoveout a2 cap2 l.length l rfl (unhide HL11) (W : Int) (H : Int) pn ((v3 : Int) - 10) c l2 HC HL2 x25 (unhide R6)).mono ?_
    rintro e y26 ⟨aM2, cM2, rfl, ho, hb⟩
    have B7 : Hid (Below w.heap.size w y26) := (unhide B6).trans (hb.mono (unhide B6).size)
    have R7 : Hid (RowV y26 a2 (cPt l)) := (unhide R6).below hb
    have Z7 : Hid (BF zZ #[.slice a2 l.length cap2] y26) := (unhide Z6).below hb
    have A7 : Hid (RowV y26 (some ⟨b, off, none⟩) (cAr A)) := (unhide A6).below hb
    have M17 : Hid (BF P1 #[.slice aM1 l2.length cM1] y26) := (unhide M16).below hb
    have R17 : Hid (RowV y26 aM1 (cPt l2)) := (unhide R16).below hb
    clear B6 R6 Z6 A6 M16 R16
    have R27 : Hid (RowV y26 aM2 (cPt l2)) := rowZ_at ho
    clear ho hb
    go_wp2_with fail
    refine hK.out _ _ ?_ (fun hHeld7 => ?_)
    ·exact (unhide Z7).S
    clear hK K
    try simp only [Act.put, qqA, qqB, qqC]
    refine wtv 8 (oi := oFmo13) ?_
    refine wtv 9 (oi := oFmo14) ?_
    refine wtv 10 (oi := oFmo15) ?_
    refine wpAnyH_ready (rs := [11]) (by kernel_rfl) (by simp) ?_
    refine AllReadyH.cons (o := oFmo10) rfl (fun K hK => ?_) AllReadyH.nil
    obtain ⟨P2, hP⟩ : ∃ P, P = y26.heap.size := ⟨_, rfl⟩
    have LPM2 : Hid (w.heap.size ≤ P2) := by show _ ≤ _; rw [hP]; exact (unhide B7).size
    have NEM2Z : Hid (zZ < P2) := by show _ < _; rw [hP]; exact (unhide Z7).lt
    have NEM2M1 : Hid (P1 < P2) := by show _ < _; rw [hP]; exact (unhide M17).lt
    have B8 : Hid (Below w.heap.size w (y26.alloc (.cells #[.slice none 0 0] 26))) := (unhide B7).trans ((Go.Joins.below_alloc1 y26 (.cells #[.slice none 0 0] 26)).mono (unhide B7).size)
    have R8 : Hid (RowV (y26.alloc (.cells #[.slice none 0 0] 26)) a2 (cPt l)) := (unhide R7).below (Go.Joins.below_alloc1 y26 (.cells #[.slice none 0 0] 26))
    have Z8 : Hid (BF zZ #[.slice a2 l.length cap2] (y26.alloc (.cells #[.slice none 0 0] 26))) := (unhide Z7).below (Go.Joins.below_alloc1 y26 (.cells #[.slice none 0 0] 26))
    have A8 : Hid (RowV (y26.alloc (.cells #[.slice none 0 0] 26)) (some ⟨b, off, none⟩) (cAr A)) := (unhide A7).below (Go.Joins.below_alloc1 y26 (.cells #[.slice none 0 0] 26))
    have M18 : Hid (BF P1 #[.slice aM1 l2.length cM1] (y26.alloc (.cells #[.slice none 0 0] 26))) := (unhide M17).below (Go.Joins.below_alloc1 y26 (.cells #[.slice none 0 0] 26))
    have R18 : Hid (RowV (y26.alloc (.cells #[.slice none 0 0] 26)) aM1 (cPt l2)) := (unhide R17).below (Go.Joins.below_alloc1 y26 (.cells #[.slice none 0 0] 26))
    have R28 : Hid (RowV (y26.alloc (.cells #[.slice none 0 0] 26)) aM2 (cPt l2)) := (unhide R27).below (Go.Joins.below_alloc1 y26 (.cells #[.slice none 0 0] 26))
    clear B7 R7 Z7 A7 M17 R17 R27
    have M28 : Hid (BF P2 #[.slice none 0 0] (y26.alloc (.cells #[.slice none 0 0] 26))) := by show BF _ _ _; rw [hP]; exact BF.new y26 #[.slice none 0 0] 26
    go_simp
    rw [← hP]
    clear hP
    generalize (y26.alloc (.cells #[.slice none 0 0] 26)) = q28 at B8 R8 Z8 A8 M18 R18 R28 M28 ⊢
    refine hK.out _ _ ?_ (fun hHeld11 => ?_)
    ·exact (unhide Z8).S
    clear hK K
    try simp only [Act.put, qqA, qqB, qqC]
    refine wpAnyH_ready (rs := [12]) (by kernel_rfl) (by simp) ?_
    refine AllReadyH.cons (o := oFmo16) rfl (fun K hK => ?_) AllReadyH.nil
    have km := (unhide M28).S
    have kf := (unhide M28).F
    go_simp
    clear km kf
    have B9 : Hid (Below w.heap.size w (q28.setCell ⟨P2, 0, none⟩ (.slice aM2 l2.length cM2))) := (unhide B8).setCell (p := ⟨P2, 0, none⟩) (unhide LPM2) _
    have R9 : Hid (RowV (q28.setCell ⟨P2, 0, none⟩ (.slice aM2 l2.length cM2)) a2 (cPt l)) := rowP_set (unhide R8) (unhide M28) _
    have Z9 : Hid (BF zZ #[.slice a2 l.length cap2] (q28.setCell ⟨P2, 0, none⟩ (.slice aM2 l2.length cM2))) := (unhide Z8).far ⟨P2, 0, none⟩ _ (by have := unhide NEM2Z; show P2 ≠ _; omega)
    have A9 : Hid (RowV (q28.setCell ⟨P2, 0, none⟩ (.slice aM2 l2.length cM2)) (some ⟨b, off, none⟩) (cAr A)) := rowA_set (unhide A8) (unhide M28) _
    have M19 : Hid (BF P1 #[.slice aM1 l2.length cM1] (q28.setCell ⟨P2, 0, none⟩ (.slice aM2 l2.length cM2))) := (unhide M18).far ⟨P2, 0, none⟩ _ (by have := unhide NEM2M1; show P2 ≠ _; omega)
    have R19 : Hid (RowV (q28.setCell ⟨P2, 0, none⟩ (.slice aM2 l2.length cM2)) aM1 (cPt l2)) := rowP_set (unhide R18) (unhide M28) _
    have R29 : Hid (RowV (q28.setCell ⟨P2, 0, none⟩ (.slice aM2 l2.length cM2)) aM2 (cPt l2)) := rowP_set (unhide R28) (unhide M28) _
    have M29 : Hid (BF P2 #[.slice aM2 l2.length cM2] (q28.setCell ⟨P2, 0, none⟩ (.slice aM2 l2.length cM2))) := (unhide M28).set 0 (by simp) _
    clear B8 R8 Z8 A8 M18 R18 R28 M28
    generalize (q28.setCell ⟨P2, 0, none⟩ (.slice aM2 l2.length cM2)) = s2 at B9 R9 Z9 A9 M19 R19 R29 M29 ⊢
    refine hK.out _ _ ?_ (fun hHeld12 => ?_)
    ·exact (unhide Z9).S
    clear hK K
    try simp only [Act.put, qqA, qqB, qqC]
    refine wtv 13 (oi := oFmo17) ?_
    refine wpAnyH_done (by kernel_rfl) ?_ _
    exact ⟨P2, aM2, cM2, rfl, B9, R9, Z9, A9, M19, R19, M29, R29⟩
   ·obtain ⟨P2, hP⟩ : ∃ P, P = x25.heap.size := ⟨_, rfl⟩
    have LPM2 : Hid (w.heap.size ≤ P2) := by show _ ≤ _; rw [hP]; exact (unhide B6).size
    have NEM2Z : Hid (zZ < P2) := by show _ < _; rw [hP]; exact (unhide Z6).lt
    have NEM2M1 : Hid (P1 < P2) := by show _ < _; rw [hP]; exact (unhide M16).lt
    have B7 : Hid (Below w.heap.size w (x25.alloc (.cells #[.slice none 0 0] 26))) := (unhide B6).trans ((Go.Joins.below_alloc1 x25 (.cells #[.slice none 0 0] 26)).mono (unhide B6).size)
    have R7 : Hid (RowV (x25.alloc (.cells #[.slice none 0 0] 26)) a2 (cPt l)) := (unhide R6).below (Go.Joins.below_alloc1 x25 (.cells #[.slice none 0 0] 26))
    have Z7 : Hid (BF zZ #[.slice a2 l.length cap2] (x25.alloc (.cells #[.slice none 0 0] 26))) := (unhide Z6).below (Go.Joins.below_alloc1 x25 (.cells #[.slice none 0 0] 26))
    have A7 : Hid (RowV (x25.alloc (.cells #[.slice none 0 0] 26)) (some ⟨b, off, none⟩) (cAr A)) := (unhide A6).below (Go.Joins.below_alloc1 x25 (.cells #[.slice none 0 0] 26))
    have M17 : Hid (BF P1 #[.slice aM1 l2.length cM1] (x25.alloc (.cells #[.slice none 0 0] 26))) := (unhide M16).below (Go.Joins.below_alloc1 x25 (.cells #[.slice none 0 0] 26))
    have R17 : Hid (RowV (x25.alloc (.cells #[.slice none 0 0] 26)) aM1 (cPt l2)) := (unhide R16).below (Go.Joins.below_alloc1 x25 (.cells #[.slice none 0 0] 26))
    clear B6 R6 Z6 A6 M16 R16
    have M27 : Hid (BF P2 #[.slice none 0 0] (x25.alloc (.cells #[.slice none 0 0] 26))) := by show BF _ _ _; rw [hP]; exact BF.new x25 #[.slice none 0 0] 26
    go_simp
    rw [← hP]
    clear hP
    generalize (x25.alloc (.cells #[.slice none 0 0] 26)) = q27 at B7 R7 Z7 A7 M17 R17 M27 ⊢
    refine hK.out _ _ ?_ (fun hHeld11 => ?_)
    ·exact (unhide Z7).S
    clear hK K
    try simp only [Act.put, qqA, qqB, qqC]
    refine wpAnyH_ready (rs := [7]) (by kernel_rfl) (by simp) ?_
    refine AllReadyH.cons (o := oFmo12) rfl (fun K hK => ?_) AllReadyH.nil
    go_simp
    refine (smoveout a2 cap2 l.length l rfl (unhide HL11) (W : Int) (H : Int) pn ((v3 : Int) - 10) c l2 HC HL2 q27 (unhide R7)).mono ?_
    rintro e y27 ⟨aM2, cM2, rfl, ho, hb⟩
    have B8 : Hid (Below w.heap.size w y27) := (unhide B7).trans (hb.mono (unhide B7).size)
    have R8 : Hid (RowV y27 a2 (cPt l)) := (unhide R7).below hb
    have Z8 : Hid (BF zZ #[.slice a2 l.length cap2] y27) := (unhide Z7).below hb
    have A8 : Hid (RowV y27 (some ⟨b, off, none⟩) (cAr A)) := (unhide A7).below hb
    have M18 : Hid (BF P1 #[.slice aM1 l2.length cM1] y27) := (unhide M17).below hb
    have R18 : Hid (RowV y27 aM1 (cPt l2)) := (unhide R17).below hb
    have M28 : Hid (BF P2 #[.slice none 0 0] y27) := (unhide M27).below hb
    clear B7 R7 Z7 A7 M17 R17 M27
    have R28 : Hid (RowV y27 aM2 (cPt l2)) := rowZ_at ho
    clear ho hb
    go_wp2_with fail
    refine hK.out _ _ ?_ (fun hHeld7 => ?_)
    ·exact (unhide Z8).S
    clear hK K
    try simp only [Act.put, qqA, qqB, qqC]
    refine wtv 8 (oi := oFmo13) ?_
    refine wtv 9 (oi := oFmo14) ?_
    refine wtv 10 (oi := oFmo15) ?_
    refine wpAnyH_ready (rs := [12]) (by kernel_rfl) (by simp) ?_
    refine AllReadyH.cons (o := oFmo16) rfl (fun K hK => ?_) AllReadyH.nil
    have km := (unhide M28).S
    have kf := (unhide M28).F
    go_simp
    clear km kf
    have B9 : Hid (Below w.heap.size w (y27.setCell ⟨P2, 0, none⟩ (.slice aM2 l2.length cM2))) := (unhide B8).setCell (p := ⟨P2, 0, none⟩) (unhide LPM2) _
    have R9 : Hid (RowV (y27.setCell ⟨P2, 0, none⟩ (.slice aM2 l2.length cM2)) a2 (cPt l)) := rowP_set (unhide R8) (unhide M28) _
    have Z9 : Hid (BF zZ #[.slice a2 l.length cap2] (y27.setCell ⟨P2, 0, none⟩ (.slice aM2 l2.length cM2))) := (unhide Z8).far ⟨P2, 0, none⟩ _ (by have := unhide NEM2Z; show P2 ≠ _; omega)
    have A9 : Hid (RowV (y27.setCell ⟨P2, 0, none⟩ (.slice aM2 l2.length cM2)) (some ⟨b, off, none⟩) (cAr A)) := rowA_set (unhide A8) (unhide M28) _
    have M19 : Hid (BF P1 #[.slice aM1 l2.length cM1] (y27.setCell ⟨P2, 0, none⟩ (.slice aM2 l2.length cM2))) := (unhide M18).far ⟨P2, 0, none⟩ _ (by have := unhide NEM2M1; show P2 ≠ _; omega)
    have R19 : Hid (RowV (y27.setCell ⟨P2, 0, none⟩ (.slice aM2 l2.length cM2)) aM1 (cPt l2)) := rowP_set (unhide R18) (unhide M28) _
    have M29 : Hid (BF P2 #[.slice aM2 l2.length cM2] (y27.setCell ⟨P2, 0, none⟩ (.slice aM2 l2.length cM2))) := (unhide M28).set 0 (by simp) _
    have R29 : Hid (RowV (y27.setCell ⟨P2, 0, none⟩ (.slice aM2 l2.length cM2)) aM2 (cPt l2)) := rowP_set (unhide R28) (unhide M28) _
    clear B8 R8 Z8 A8 M18 R18 M28 R28
    generalize (y27.setCell ⟨P2, 0, none⟩ (.slice aM2 l2.length cM2)) = s2 at B9 R9 Z9 A9 M19 R19 M29 R29 ⊢
    refine hK.out _ _ ?_ (fun hHeld12 => ?_)
    ·exact (unhide Z9).S
    clear hK K
    try simp only [Act.put, qqA, qqB, qqC]
    refine wtv 13 (oi := oFmo17) ?_
    refine wpAnyH_done (by kernel_rfl) ?_ _
    exact ⟨P2, aM2, cM2, rfl, B9, R9, Z9, A9, M19, R19, M29, R29⟩
  ·obtain ⟨P2, hP⟩ : ∃ P, P = q20.heap.size := ⟨_, rfl⟩
   have LPM2 : Hid (w.heap.size ≤ P2) := by show _ ≤ _; rw [hP]; exact (unhide B5).size
   have NEM2Z : Hid (zZ < P2) := by show _ < _; rw [hP]; exact (unhide Z5).lt
   have NEM2M1 : Hid (P1 < P2) := by show _ < _; rw [hP]; exact (unhide M15).lt
   have B6 : Hid (Below w.heap.size w (q20.alloc (.cells #[.slice none 0 0] 26))) := (unhide B5).trans ((Go.Joins.below_alloc1 q20 (.cells #[.slice none 0 0] 26)).mono (unhide B5).size)
   have R6 : Hid (RowV (q20.alloc (.cells #[.slice none 0 0] 26)) a2 (cPt l)) := (unhide R5).below (Go.Joins.below_alloc1 q20 (.cells #[.slice none 0 0] 26))
   have Z6 : Hid (BF zZ #[.slice a2 l.length cap2] (q20.alloc (.cells #[.slice none 0 0] 26))) := (unhide Z5).below (Go.Joins.below_alloc1 q20 (.cells #[.slice none 0 0] 26))
   have A6 : Hid (RowV (q20.alloc (.cells #[.slice none 0 0] 26)) (some ⟨b, off, none⟩) (cAr A)) := (unhide A5).below (Go.Joins.below_alloc1 q20 (.cells #[.slice none 0 0] 26))
   have M16 : Hid (BF P1 #[.slice aM1 l2.length cM1] (q20.alloc (.cells #[.slice none 0 0] 26))) := (unhide M15).below (Go.Joins.below_alloc1 q20 (.cells #[.slice none 0 0] 26))
   have R16 : Hid (RowV (q20.alloc (.cells #[.slice none 0 0] 26)) aM1 (cPt l2)) := (unhide R15).below (Go.Joins.below_alloc1 q20 (.cells #[.slice none 0 0] 26))
   clear B5 R5 Z5 A5 M15 R15
   have M26 : Hid (BF P2 #[.slice none 0 0] (q20.alloc (.cells #[.slice none 0 0] 26))) := by show BF _ _ _; rw [hP]; exact BF.new q20 #[.slice none 0 0] 26
   go_simp
   rw [← hP]
   clear hP
   generalize (q20.alloc (.cells #[.slice none 0 0] 26)) = q26 at B6 R6 Z6 A6 M16 R16 M26 ⊢
   refine hK.out _ _ ?_ (fun hHeld11 => ?_)
   ·exact (unhide Z6).S
   clear hK K
   try simp only [Act.put, qqA, qqB, qqC]
   refine wpAnyH_ready (rs := [5]) (by kernel_rfl) (by simp) ?_
   refine AllReadyH.cons (o := oFmo9) rfl (fun K hK => ?_) AllReadyH.nil
   go_simp
   refine (latV a1 cap1 l1 3 21 v3 HV3 (unhide HS1) (by decide) (by decide) (by decide) q26 ((unhide HR1).below (unhide B6))).mono ?_
   rintro e x26 ⟨rfl, hb⟩
   have B7 : Hid (Below w.heap.size w x26) := (unhide B6).trans (hb.mono (unhide B6).size)
   have R7 : Hid (RowV x26 a2 (cPt l)) := (unhide R6).below hb
   have Z7 : Hid (BF zZ #[.slice a2 l.length cap2] x26) := (unhide Z6).below hb
   have A7 : Hid (RowV x26 (some ⟨b, off, none⟩) (cAr A)) := (unhide A6).below hb
   have M17 : Hid (BF P1 #[.slice aM1 l2.length cM1] x26) := (unhide M16).below hb
   have R17 : Hid (RowV x26 aM1 (cPt l2)) := (unhide R16).below hb
   have M27 : Hid (BF P2 #[.slice none 0 0] x26) := (unhide M26).below hb
   clear B6 R6 Z6 A6 M16 R16 M26
   clear hb
   go_wp2_with fail
   refine hK.out _ _ ?_ (fun hHeld5 => ?_)
   ·exact (unhide Z7).S
   clear hK K
   try simp only [Act.put, qqA, qqB, qqC]
   refine wtv 6 (oi := oFmo11) ?_
   try rw [wv3]
   refine wpAnyH_ready (rs := [7]) (by kernel_rfl) (by simp) ?_
   refine AllReadyH.cons (o := oFmo12) rfl (fun K hK => ?_) AllReadyH.nil
   go_simp
   refine (smoveout a2 cap2 l.length l rfl (unhide HL11) (W : Int) (H : Int) pn ((v3 : Int) - 10) c l2 HC HL2 x26 (unhide R7)).mono ?_
   rintro e y27 ⟨aM2, cM2, rfl, ho, hb⟩
   have B8 : Hid (Below w.heap.size w y27) := (unhide B7).trans (hb.mono (unhide B7).size)
   have R8 : Hid (RowV y27 a2 (cPt l)) := (unhide R7).below hb
   have Z8 : Hid (BF zZ #[.slice a2 l.length cap2] y27) := (unhide Z7).below hb
   have A8 : Hid (RowV y27 (some ⟨b, off, none⟩) (cAr A)) := (unhide A7).below hb
   have M18 : Hid (BF P1 #[.slice aM1 l2.length cM1] y27) := (unhide M17).below hb
   have R18 : Hid (RowV y27 aM1 (cPt l2)) := (unhide R17).below hb
   have M28 : Hid (BF P2 #[.slice none 0 0] y27) := (unhide M27).below hb
   clear B7 R7 Z7 A7 M17 R17 M27
   have R28 : Hid (RowV y27 aM2 (cPt l2)) := rowZ_at ho
   clear ho hb
   go_wp2_with fail
   refine hK.out _ _ ?_ (fun hHeld7 => ?_)
   ·exact (unhide Z8).S
   clear hK K
   try simp only [Act.put, qqA, qqB, qqC]
   refine wtv 8 (oi := oFmo13) ?_
   refine wtv 9 (oi := oFmo14) ?_
   refine wtv 10 (oi := oFmo15) ?_
   refine wpAnyH_ready (rs := [12]) (by kernel_rfl) (by simp) ?_
   refine AllReadyH.cons (o := oFmo16) rfl (fun K hK => ?_) AllReadyH.nil
   have km := (unhide M28).S
   have kf := (unhide M28).F
   go_simp
   clear km kf
   have B9 : Hid (Below w.heap.size w (y27.setCell ⟨P2, 0, none⟩ (.slice aM2 l2.length cM2))) := (unhide B8).setCell (p := ⟨P2, 0, none⟩) (unhide LPM2) _
   have R9 : Hid (RowV (y27.setCell ⟨P2, 0, none⟩ (.slice aM2 l2.length cM2)) a2 (cPt l)) := rowP_set (unhide R8) (unhide M28) _
   have Z9 : Hid (BF zZ #[.slice a2 l.length cap2] (y27.setCell ⟨P2, 0, none⟩ (.slice aM2 l2.length cM2))) := (unhide Z8).far ⟨P2, 0, none⟩ _ (by have := unhide NEM2Z; show P2 ≠ _; omega)
   have A9 : Hid (RowV (y27.setCell ⟨P2, 0, none⟩ (.slice aM2 l2.length cM2)) (some ⟨b, off, none⟩) (cAr A)) := rowA_set (unhide A8) (unhide M28) _
   have M19 : Hid (BF P1 #[.slice aM1 l2.length cM1] (y27.setCell ⟨P2, 0, none⟩ (.slice aM2 l2.length cM2))) := (unhide M18).far ⟨P2, 0, none⟩ _ (by have := unhide NEM2M1; show P2 ≠ _; omega)
   have R19 : Hid (RowV (y27.setCell ⟨P2, 0, none⟩ (.slice aM2 l2.length cM2)) aM1 (cPt l2)) := rowP_set (unhide R18) (unhide M28) _
   have M29 : Hid (BF P2 #[.slice aM2 l2.length cM2] (y27.setCell ⟨P2, 0, none⟩ (.slice aM2 l2.length cM2))) := (unhide M28).set 0 (by simp) _
   have R29 : Hid (RowV (y27.setCell ⟨P2, 0, none⟩ (.slice aM2 l2.length cM2)) aM2 (cPt l2)) := rowP_set (unhide R28) (unhide M28) _
   clear B8 R8 Z8 A8 M18 R18 M28 R28
   generalize (y27.setCell ⟨P2, 0, none⟩ (.slice aM2 l2.length cM2)) = s2 at B9 R9 Z9 A9 M19 R19 M29 R29 ⊢
   refine hK.out _ _ ?_ (fun hHeld12 => ?_)
   ·exact (unhide Z9).S
   clear hK K
   try simp only [Act.put, qqA, qqB, qqC]
   refine wtv 13 (oi := oFmo17) ?_
   refine wpAnyH_done (by kernel_rfl) ?_ _
   exact ⟨P2, aM2, cM2, rfl, B9, R9, Z9, A9, M19, R19, M29, R29⟩
 intro x a' V2 h
 cases x
 all_goals try exact False.elim h
 obtain ⟨P2, aM2, cM2, rfl, B5, R5, Z5, A5, M15, R15, M25, R25⟩ := h
 clear B4 R4 Z4 A4 M14 R14
 obtain ⟨m1, m2, m3⟩ := tofS_ok (unhide HTT)
 have hcc : c = 0 ∨ c = 17 := by
  rw [unhide HC]
  unfold moveC
  rw [unhide HTT]
  simp only
  rw [if_pos (show inB ((v3 : Int) - 10) (-100) 100 = true from decide_eq_true ⟨by omega, by omega⟩)]
  unfold spC
  split
  ·exact .inr rfl
  ·rw [if_pos (unhide HPN)]; exact .inl rfl
 have HL2L : Hid (l2.length ≤ 1048576) := by show _ ≤ _; rw [unhide HL2]; have := moveL_le l (W : Int) (H : Int) pn ((v3 : Int) - 10); omega
 have HOK : Hid (true = (tofS l2 (W : Int) (H : Int)).isSome) := by
  show _ = _
  obtain ⟨t', h', -⟩ := move_keeps (unhide HTT) pn ((v3 : Int) - 10) (decide_eq_true ⟨by omega, by omega⟩)
  rw [unhide HL2, h']; rfl
 clear m1 m2 m3 wv3
 have HC2 := HC
 clear HC
 obtain ⟨v4, hv4⟩ : ∃ v4, v4 = atV l1 4 23 := ⟨_, rfl⟩
 obtain ⟨v5, hv5⟩ : ∃ v5, v5 = atV l1 5 9 := ⟨_, rfl⟩
 have v4l : v4 < 23 := by rw [hv4]; exact atV_lt _ _ _ (by decide)
 have v5l : v5 < 9 := by rw [hv5]; exact atV_lt _ _ _ (by decide)
 have HV4 := hide hv4
 have HV5 := hide hv5
 clear hv4 hv5
 obtain ⟨nw, hnw⟩ : ∃ n : Nat, n = 2 + v4 := ⟨_, rfl⟩
 obtain ⟨nh, hnh⟩ : ∃ n : Nat, n = 2 + v5 := ⟨_, rfl⟩
 have NW1 : (2 : Int) + (v4 : Int) = (nw : Int) := by omega
 have NH1 : (2 : Int) + (v5 : Int) = (nh : Int) := by omega
 have hnwb : 2 ≤ nw ∧ nw ≤ 24 := by omega
 have hnhb : 2 ≤ nh ∧ nh ≤ 10 := by omega
 clear hnw hnh
 have HSZ2 : Hid (sizeB (nw : Int) (nh : Int) = true) := decide_eq_true (by omega)
 obtain ⟨l3, e3⟩ : ∃ l3, l3 = fitL l (W : Int) (H : Int) (nw : Int) (nh : Int) := ⟨_, rfl⟩
 obtain ⟨d, ed⟩ : ∃ d, d = fitC l (W : Int) (H : Int) (nw : Int) (nh : Int) := ⟨_, rfl⟩
 have HL3 := hide e3
 have HD := hide ed
 have HL3L : Hid (l3.length ≤ 1048576) := by show _ ≤ _; rw [e3]; have := fitL_le l (W : Int) (H : Int) (nw : Int) (nh : Int); omega
 clear e3 ed
 have hdd : (d = 10) ∨ (d = 0 ∧ ∃ t', tofS l3 (nw : Int) (nh : Int) = some t' ∧ t'.panes = t.panes) := by
  by_cases h : t.lw ≤ (nw : Int) ∧ t.lh ≤ (nh : Int)
  ·refine .inr ⟨?_, ?_⟩
   ·rw [unhide HD]; unfold fitC; rw [unhide HTT]; simp only; rw [if_pos (unhide HSZ2), if_pos h]
   ·rw [unhide HL3]; exact fit_keeps (unhide HTT) (unhide HSZ2) h
  ·left; rw [unhide HD]; unfold fitC; rw [unhide HTT]; simp only; rw [if_pos (unhide HSZ2), if_neg h]
 have HDD := hide hdd
 clear hdd
 rcases hcc with rfl | rfl
 ·have k1 := (unhide M15).S
  have k2 := (unhide M25).S
  go_wp2_with fail
  clear k1 k2
  refine (sameParts aM1 aM2 cM1 cM2 l2 (unhide HL2L) _ (unhide R15) (unhide R25)).mono ?_
  rintro e u1 ⟨rfl, hb⟩
  have B6 : Hid (Below w.heap.size w u1) := (unhide B5).trans (hb.mono (unhide B5).size)
  have R6 : Hid (RowV u1 a2 (cPt l)) := (unhide R5).below hb
  have Z6 : Hid (BF zZ #[.slice a2 l.length cap2] u1) := (unhide Z5).below hb
  have A6 : Hid (RowV u1 (some ⟨b, off, none⟩) (cAr A)) := (unhide A5).below hb
  have M16 : Hid (BF P1 #[.slice aM1 l2.length cM1] u1) := (unhide M15).below hb
  have R16 : Hid (RowV u1 aM1 (cPt l2)) := (unhide R15).below hb
  have M26 : Hid (BF P2 #[.slice aM2 l2.length cM2] u1) := (unhide M25).below hb
  have R26 : Hid (RowV u1 aM2 (cPt l2)) := (unhide R25).below hb
  clear B5 R5 Z5 A5 M15 R15 M25 R25
  clear hb
  have T := latV a1 cap1 l1 4 23 v4 HV4 (unhide HS1) (by decide) (by decide) (by decide) u1 ((unhide HR1).below (unhide B6))
  change Calls _ _ #[_, .int .i64 4, .int .i64 23] _ _ at T
  have HT := hide T
  clear T
  go_wp2_with fail
  refine (unhide HT).mono ?_
  rintro e u2 ⟨rfl, hb⟩
  have B7 : Hid (Below w.heap.size w u2) := (unhide B6).trans (hb.mono (unhide B6).size)
  have R7 : Hid (RowV u2 a2 (cPt l)) := (unhide R6).below hb
  have Z7 : Hid (BF zZ #[.slice a2 l.length cap2] u2) := (unhide Z6).below hb
  have A7 : Hid (RowV u2 (some ⟨b, off, none⟩) (cAr A)) := (unhide A6).below hb
  have M17 : Hid (BF P1 #[.slice aM1 l2.length cM1] u2) := (unhide M16).below hb
  have R17 : Hid (RowV u2 aM1 (cPt l2)) := (unhide R16).below hb
  have M27 : Hid (BF P2 #[.slice aM2 l2.length cM2] u2) := (unhide M26).below hb
  have R27 : Hid (RowV u2 aM2 (cPt l2)) := (unhide R26).below hb
  clear B6 R6 Z6 A6 M16 R16 M26 R26
  clear hb HT
  have T := latV a1 cap1 l1 5 9 v5 HV5 (unhide HS1) (by decide) (by decide) (by decide) u2 ((unhide HR1).below (unhide B7))
  change Calls _ _ #[_, .int .i64 5, .int .i64 9] _ _ at T
  have HT := hide T
  clear T
  go_wp2_with fail
  refine (unhide HT).mono ?_
  rintro e u3 ⟨rfl, hb⟩
  have B8 : Hid (Below w.heap.size w u3) := (unhide B7).trans (hb.mono (unhide B7).size)
  have R8 : Hid (RowV u3 a2 (cPt l)) := (unhide R7).below hb
  have Z8 : Hid (BF zZ #[.slice a2 l.length cap2] u3) := (unhide Z7).below hb
  have A8 : Hid (RowV u3 (some ⟨b, off, none⟩) (cAr A)) := (unhide A7).below hb
  have M18 : Hid (BF P1 #[.slice aM1 l2.length cM1] u3) := (unhide M17).below hb
  have R18 : Hid (RowV u3 aM1 (cPt l2)) := (unhide R17).below hb
  have M28 : Hid (BF P2 #[.slice aM2 l2.length cM2] u3) := (unhide M27).below hb
  have R28 : Hid (RowV u3 aM2 (cPt l2)) := (unhide R27).below hb
  clear B7 R7 Z7 A7 M17 R17 M27 R27
  clear hb HT
  have kz := (unhide Z8).S
  go_wp2_with fail
  clear kz
  refine (ifitout a2 cap2 l.length l rfl (unhide HL11) (W : Int) (H : Int) (nw : Int) (nh : Int) d l3 HD HL3 _ (unhide R8)).mono ?_
  rintro e u4 ⟨aM3, cM3, rfl, ho, hb⟩
  have B9 : Hid (Below w.heap.size w u4) := (unhide B8).trans (hb.mono (unhide B8).size)
  have R9 : Hid (RowV u4 a2 (cPt l)) := (unhide R8).below hb
  have Z9 : Hid (BF zZ #[.slice a2 l.length cap2] u4) := (unhide Z8).below hb
  have A9 : Hid (RowV u4 (some ⟨b, off, none⟩) (cAr A)) := (unhide A8).below hb
  have M19 : Hid (BF P1 #[.slice aM1 l2.length cM1] u4) := (unhide M18).below hb
  have R19 : Hid (RowV u4 aM1 (cPt l2)) := (unhide R18).below hb
  have M29 : Hid (BF P2 #[.slice aM2 l2.length cM2] u4) := (unhide M28).below hb
  have R29 : Hid (RowV u4 aM2 (cPt l2)) := (unhide R28).below hb
  clear B8 R8 Z8 A8 M18 R18 M28 R28
  have R39 : Hid (RowV u4 aM3 (cPt l3)) := rowZ_at ho
  clear ho hb
  obtain ⟨P3, hP⟩ : ∃ P, P = u4.heap.size := ⟨_, rfl⟩
  have B10 : Hid (Below w.heap.size w (u4.alloc (.cells #[.slice aM3 l3.length cM3] 26))) := (unhide B9).trans ((Go.Joins.below_alloc1 u4 (.cells #[.slice aM3 l3.length cM3] 26)).mono (unhide B9).size)
  have R10 : Hid (RowV (u4.alloc (.cells #[.slice aM3 l3.length cM3] 26)) a2 (cPt l)) := (unhide R9).below (Go.Joins.below_alloc1 u4 (.cells #[.slice aM3 l3.length cM3] 26))
  have Z10 : Hid (BF zZ #[.slice a2 l.length cap2] (u4.alloc (.cells #[.slice aM3 l3.length cM3] 26))) := (unhide Z9).below (Go.Joins.below_alloc1 u4 (.cells #[.slice aM3 l3.length cM3] 26))
  have A10 : Hid (RowV (u4.alloc (.cells #[.slice aM3 l3.length cM3] 26)) (some ⟨b, off, none⟩) (cAr A)) := (unhide A9).below (Go.Joins.below_alloc1 u4 (.cells #[.slice aM3 l3.length cM3] 26))
  have M110 : Hid (BF P1 #[.slice aM1 l2.length cM1] (u4.alloc (.cells #[.slice aM3 l3.length cM3] 26))) := (unhide M19).below (Go.Joins.below_alloc1 u4 (.cells #[.slice aM3 l3.length cM3] 26))
  have R110 : Hid (RowV (u4.alloc (.cells #[.slice aM3 l3.length cM3] 26)) aM1 (cPt l2)) := (unhide R19).below (Go.Joins.below_alloc1 u4 (.cells #[.slice aM3 l3.length cM3] 26))
  have M210 : Hid (BF P2 #[.slice aM2 l2.length cM2] (u4.alloc (.cells #[.slice aM3 l3.length cM3] 26))) := (unhide M29).below (Go.Joins.below_alloc1 u4 (.cells #[.slice aM3 l3.length cM3] 26))
  have R210 : Hid (RowV (u4.alloc (.cells #[.slice aM3 l3.length cM3] 26)) aM2 (cPt l2)) := (unhide R29).below (Go.Joins.below_alloc1 u4 (.cells #[.slice aM3 l3.length cM3] 26))
  have R310 : Hid (RowV (u4.alloc (.cells #[.slice aM3 l3.length cM3] 26)) aM3 (cPt l3)) := (unhide R39).below (Go.Joins.below_alloc1 u4 (.cells #[.slice aM3 l3.length cM3] 26))
  clear B9 R9 Z9 A9 M19 R19 M29 R29 R39
  have M310 : Hid (BF P3 #[.slice aM3 l3.length cM3] (u4.alloc (.cells #[.slice aM3 l3.length cM3] 26))) := by show BF _ _ _; rw [hP]; exact BF.new u4 #[.slice aM3 l3.length cM3] 26
  have HPk := hide hP
  clear hP
  have kz := (unhide Z10).S
  go_wp2_with fail
  rw [← unhide HPk]
  clear HPk kz
  generalize (u4.alloc (.cells #[.slice aM3 l3.length cM3] 26)) = u5 at B10 R10 Z10 A10 M110 R110 M210 R210 R310 M310 ⊢
  refine (sfitout a2 cap2 l.length l rfl (unhide HL11) (W : Int) (H : Int) (nw : Int) (nh : Int) d l3 HD HL3 _ (unhide R10)).mono ?_
  rintro e u6 ⟨aM4, cM4, rfl, ho, hb⟩
  have B11 : Hid (Below w.heap.size w u6) := (unhide B10).trans (hb.mono (unhide B10).size)
  have R11 : Hid (RowV u6 a2 (cPt l)) := (unhide R10).below hb
  have Z11 : Hid (BF zZ #[.slice a2 l.length cap2] u6) := (unhide Z10).below hb
  have A11 : Hid (RowV u6 (some ⟨b, off, none⟩) (cAr A)) := (unhide A10).below hb
  have M111 : Hid (BF P1 #[.slice aM1 l2.length cM1] u6) := (unhide M110).below hb
  have R111 : Hid (RowV u6 aM1 (cPt l2)) := (unhide R110).below hb
  have M211 : Hid (BF P2 #[.slice aM2 l2.length cM2] u6) := (unhide M210).below hb
  have R211 : Hid (RowV u6 aM2 (cPt l2)) := (unhide R210).below hb
  have R311 : Hid (RowV u6 aM3 (cPt l3)) := (unhide R310).below hb
  have M311 : Hid (BF P3 #[.slice aM3 l3.length cM3] u6) := (unhide M310).below hb
  clear B10 R10 Z10 A10 M110 R110 M210 R210 R310 M310
  have R411 : Hid (RowV u6 aM4 (cPt l3)) := rowZ_at ho
  clear ho hb
  obtain ⟨P4, hP⟩ : ∃ P, P = u6.heap.size := ⟨_, rfl⟩
  have B12 : Hid (Below w.heap.size w (u6.alloc (.cells #[.slice aM4 l3.length cM4] 26))) := (unhide B11).trans ((Go.Joins.below_alloc1 u6 (.cells #[.slice aM4 l3.length cM4] 26)).mono (unhide B11).size)
  have R12 : Hid (RowV (u6.alloc (.cells #[.slice aM4 l3.length cM4] 26)) a2 (cPt l)) := (unhide R11).below (Go.Joins.below_alloc1 u6 (.cells #[.slice aM4 l3.length cM4] 26))
  have Z12 : Hid (BF zZ #[.slice a2 l.length cap2] (u6.alloc (.cells #[.slice aM4 l3.length cM4] 26))) := (unhide Z11).below (Go.Joins.below_alloc1 u6 (.cells #[.slice aM4 l3.length cM4] 26))
  have A12 : Hid (RowV (u6.alloc (.cells #[.slice aM4 l3.length cM4] 26)) (some ⟨b, off, none⟩) (cAr A)) := (unhide A11).below (Go.Joins.below_alloc1 u6 (.cells #[.slice aM4 l3.length cM4] 26))
  have M112 : Hid (BF P1 #[.slice aM1 l2.length cM1] (u6.alloc (.cells #[.slice aM4 l3.length cM4] 26))) := (unhide M111).below (Go.Joins.below_alloc1 u6 (.cells #[.slice aM4 l3.length cM4] 26))
  have R112 : Hid (RowV (u6.alloc (.cells #[.slice aM4 l3.length cM4] 26)) aM1 (cPt l2)) := (unhide R111).below (Go.Joins.below_alloc1 u6 (.cells #[.slice aM4 l3.length cM4] 26))
  have M212 : Hid (BF P2 #[.slice aM2 l2.length cM2] (u6.alloc (.cells #[.slice aM4 l3.length cM4] 26))) := (unhide M211).below (Go.Joins.below_alloc1 u6 (.cells #[.slice aM4 l3.length cM4] 26))
  have R212 : Hid (RowV (u6.alloc (.cells #[.slice aM4 l3.length cM4] 26)) aM2 (cPt l2)) := (unhide R211).below (Go.Joins.below_alloc1 u6 (.cells #[.slice aM4 l3.length cM4] 26))
  have R312 : Hid (RowV (u6.alloc (.cells #[.slice aM4 l3.length cM4] 26)) aM3 (cPt l3)) := (unhide R311).below (Go.Joins.below_alloc1 u6 (.cells #[.slice aM4 l3.length cM4] 26))
  have M312 : Hid (BF P3 #[.slice aM3 l3.length cM3] (u6.alloc (.cells #[.slice aM4 l3.length cM4] 26))) := (unhide M311).below (Go.Joins.below_alloc1 u6 (.cells #[.slice aM4 l3.length cM4] 26))
  have R412 : Hid (RowV (u6.alloc (.cells #[.slice aM4 l3.length cM4] 26)) aM4 (cPt l3)) := (unhide R411).below (Go.Joins.below_alloc1 u6 (.cells #[.slice aM4 l3.length cM4] 26))
  clear B11 R11 Z11 A11 M111 R111 M211 R211 R311 M311 R411
  have M412 : Hid (BF P4 #[.slice aM4 l3.length cM4] (u6.alloc (.cells #[.slice aM4 l3.length cM4] 26))) := by show BF _ _ _; rw [hP]; exact BF.new u6 #[.slice aM4 l3.length cM4] 26
  have HPk := hide hP
  clear hP
  have k1 := (unhide M312).S
  have k2 := (BF.new u6 #[.slice aM4 l3.length cM4] 26).S
  have nd : (d != d) = false := by simp
  go_wp2_with fail
  rw [← unhide HPk]
  clear HPk k1 k2 nd
  generalize (u6.alloc (.cells #[.slice aM4 l3.length cM4] 26)) = u7 at B12 R12 Z12 A12 M112 R112 M212 R212 R312 M312 R412 M412 ⊢
  refine (sameParts aM3 aM4 cM3 cM4 l3 (unhide HL3L) _ (unhide R312) (unhide R412)).mono ?_
  rintro e u8 ⟨rfl, hb⟩
  have B13 : Hid (Below w.heap.size w u8) := (unhide B12).trans (hb.mono (unhide B12).size)
  have R13 : Hid (RowV u8 a2 (cPt l)) := (unhide R12).below hb
  have Z13 : Hid (BF zZ #[.slice a2 l.length cap2] u8) := (unhide Z12).below hb
  have A13 : Hid (RowV u8 (some ⟨b, off, none⟩) (cAr A)) := (unhide A12).below hb
  have M113 : Hid (BF P1 #[.slice aM1 l2.length cM1] u8) := (unhide M112).below hb
  have R113 : Hid (RowV u8 aM1 (cPt l2)) := (unhide R112).below hb
  have M213 : Hid (BF P2 #[.slice aM2 l2.length cM2] u8) := (unhide M212).below hb
  have R213 : Hid (RowV u8 aM2 (cPt l2)) := (unhide R212).below hb
  have R313 : Hid (RowV u8 aM3 (cPt l3)) := (unhide R312).below hb
  have M313 : Hid (BF P3 #[.slice aM3 l3.length cM3] u8) := (unhide M312).below hb
  have R413 : Hid (RowV u8 aM4 (cPt l3)) := (unhide R412).below hb
  have M413 : Hid (BF P4 #[.slice aM4 l3.length cM4] u8) := (unhide M412).below hb
  clear B12 R12 Z12 A12 M112 R112 M212 R212 R312 M312 R412 M412
  clear hb
  rcases unhide HDD with rfl | ⟨rfl, t', ht', hpp⟩
  ·have k1 := (unhide M113).S
   go_wp2_with fail
   clear k1
   refine (ilok aM1 cM1 l2.length l2 rfl (unhide HL2L) (W : Int) (H : Int) true HOK _ (unhide R113)).mono ?_
   rintro e uz ⟨rfl, hb⟩
   have BZ := (unhide B13).trans (hb.mono (unhide B13).size)
   go_wp2_with fail
   go_ret
   exact ⟨rfl, BZ⟩
  ·obtain ⟨A3, hA3⟩ : ∃ A, A = t'.areas 0 0 (nw : Int) (nh : Int) := ⟨_, rfl⟩
   obtain ⟨e1, e2⟩ := arL_some ht'
   rw [← hA3] at e1
   have HAL3 : Hid (A3 = arL l3 (nw : Int) (nh : Int)) := e1.symm
   have HAC3 : Hid (0 = arC l3 (nw : Int) (nh : Int)) := e2.symm
   have hA3l : A3.length = A.length := by
    rw [hA3, unhide HA, areas_len, areas_len, hpp]
   have HPA : Hid (∀ k (h1 : k < A3.length) (h2 : k < A.length), A3[k].pane = A[k].pane) := by
    intro k h1 h2
    have e := unhide HA
    subst e hA3
    exact panes_at hpp h1 h2
   clear e1 e2 hA3 ht' hpp
   have k1 := (unhide M313).S
   go_wp2_with fail
   clear k1
   refine (ilareas aM3 cM3 l3.length l3 rfl (unhide HL3L) (nw : Int) (nh : Int) 0 A3 HAC3 HAL3 _ (unhide R313)).mono ?_
   rintro e u9 ⟨aC, capC, rfl, hoC, hb⟩
   have B14 : Hid (Below w.heap.size w u9) := (unhide B13).trans (hb.mono (unhide B13).size)
   have R14 : Hid (RowV u9 a2 (cPt l)) := (unhide R13).below hb
   have Z14 : Hid (BF zZ #[.slice a2 l.length cap2] u9) := (unhide Z13).below hb
   have A14 : Hid (RowV u9 (some ⟨b, off, none⟩) (cAr A)) := (unhide A13).below hb
   have M114 : Hid (BF P1 #[.slice aM1 l2.length cM1] u9) := (unhide M113).below hb
   have R114 : Hid (RowV u9 aM1 (cPt l2)) := (unhide R113).below hb
   have M214 : Hid (BF P2 #[.slice aM2 l2.length cM2] u9) := (unhide M213).below hb
   have R214 : Hid (RowV u9 aM2 (cPt l2)) := (unhide R213).below hb
   have R314 : Hid (RowV u9 aM3 (cPt l3)) := (unhide R313).below hb
   have M314 : Hid (BF P3 #[.slice aM3 l3.length cM3] u9) := (unhide M313).below hb
   have R414 : Hid (RowV u9 aM4 (cPt l3)) := (unhide R413).below hb
   have M414 : Hid (BF P4 #[.slice aM4 l3.length cM4] u9) := (unhide M413).below hb
   clear B13 R13 Z13 A13 M113 R113 M213 R213 R313 M313 R413 M413
   have Ac14 : Hid (RowV u9 aC (cAr A3)) := rowZ_at hoC
   clear hoC hb
   rw [hA3l]
   have HA3L := hide hA3l
   clear hA3l
   go_wp2_with fail
   go_loopw [21, 24] (fun g i wr => ∃ k : Nat, k ≤ A.length ∧ g = .int .i64 (k : Int) ∧ i = .int .i64 (k : Int) ∧ Hid (Below u9.heap.size u9 wr)) (fun _ i _ => A.length - (intOf i).toNat)
   case atStart => exact ⟨0, Nat.zero_le _, rfl, rfl, Below.refl _ _⟩
   case round =>
    obtain ⟨k, hk, rfl, rfl, HB⟩ := hrel
    by_cases hlt : k < A.length
    ·have hlt' : (k : Int) < (A.length : Int) := by omega
     have hlt0 : (0 : Int) ≤ (k : Int) := by omega
     obtain ⟨bc, offc, hac, -, -⟩ := (unhide Ac14).at (by rw [cAr_len, unhide HA3L]; omega)
     subst hac
     obtain ⟨p, hp⟩ : ∃ p, p = A[k].pane := ⟨_, rfl⟩
     have y0 := (rowAr (row_same (unhide A14) (unhide HB)) k hlt).1
     have x0 := (rowAr (row_same (unhide Ac14) (unhide HB)) k (by rw [unhide HA3L]; exact hlt)).1
     rw [unhide HPA k (by rw [unhide HA3L]; exact hlt) hlt, ← hp] at x0
     rw [← hp] at y0
     clear hp
     go_wp2_with fail
     go_region_held3 (fun w' => w'.cell? ⟨bc, offc + k * 5, none⟩ = some (.int .i64 p) ∧ w'.cell? ⟨b, off + k * 5, none⟩ = some (.int .i64 p)) (exact ⟨x0, y0⟩) (fail)
     go_wp2_with fail
     go_roundw
     case rel => exact ⟨k + 1, by omega, by go_num, by go_num, hide (unhide HB).drew⟩
     case measure => simp [intOf]; omega
    ·have hlt' : ¬ (k : Int) < (A.length : Int) := by omega
     have hke : k = A.length := by omega
     subst hke
     have nA : ((A.length : Int) != (A.length : Int)) = false := by simp
     have B15 : Hid (Below w.heap.size w wr) := (unhide B14).trans ((unhide HB).mono (unhide B14).size)
     have M115 : Hid (BF P1 #[.slice aM1 l2.length cM1] wr) := (unhide M114).below (unhide HB)
     have R115 : Hid (RowV wr aM1 (cPt l2)) := (unhide R114).below (unhide HB)
     have k1 := (unhide M115).S
     go_wp2_with fail
     clear k1
     refine (ilok aM1 cM1 l2.length l2 rfl (unhide HL2L) (W : Int) (H : Int) true HOK _ (unhide R115)).mono ?_
     rintro e uz ⟨rfl, hb⟩
     have BZ := (unhide B15).trans (hb.mono (unhide B15).size)
     go_wp2_with fail
     go_ret
     exact ⟨rfl, BZ⟩
 ·have k1 := (unhide M15).S
  have k2 := (unhide M25).S
  go_wp2_with fail
  clear k1 k2
  refine (sameParts aM1 aM2 cM1 cM2 l2 (unhide HL2L) _ (unhide R15) (unhide R25)).mono ?_
  rintro e u1 ⟨rfl, hb⟩
  have B6 : Hid (Below w.heap.size w u1) := (unhide B5).trans (hb.mono (unhide B5).size)
  have R6 : Hid (RowV u1 a2 (cPt l)) := (unhide R5).below hb
  have Z6 : Hid (BF zZ #[.slice a2 l.length cap2] u1) := (unhide Z5).below hb
  have A6 : Hid (RowV u1 (some ⟨b, off, none⟩) (cAr A)) := (unhide A5).below hb
  have M16 : Hid (BF P1 #[.slice aM1 l2.length cM1] u1) := (unhide M15).below hb
  have R16 : Hid (RowV u1 aM1 (cPt l2)) := (unhide R15).below hb
  have M26 : Hid (BF P2 #[.slice aM2 l2.length cM2] u1) := (unhide M25).below hb
  have R26 : Hid (RowV u1 aM2 (cPt l2)) := (unhide R25).below hb
  clear B5 R5 Z5 A5 M15 R15 M25 R25
  clear hb
  have T := latV a1 cap1 l1 4 23 v4 HV4 (unhide HS1) (by decide) (by decide) (by decide) u1 ((unhide HR1).below (unhide B6))
  change Calls _ _ #[_, .int .i64 4, .int .i64 23] _ _ at T
  have HT := hide T
  clear T
  go_wp2_with fail
  refine (unhide HT).mono ?_
  rintro e u2 ⟨rfl, hb⟩
  have B7 : Hid (Below w.heap.size w u2) := (unhide B6).trans (hb.mono (unhide B6).size)
  have R7 : Hid (RowV u2 a2 (cPt l)) := (unhide R6).below hb
  have Z7 : Hid (BF zZ #[.slice a2 l.length cap2] u2) := (unhide Z6).below hb
  have A7 : Hid (RowV u2 (some ⟨b, off, none⟩) (cAr A)) := (unhide A6).below hb
  have M17 : Hid (BF P1 #[.slice aM1 l2.length cM1] u2) := (unhide M16).below hb
  have R17 : Hid (RowV u2 aM1 (cPt l2)) := (unhide R16).below hb
  have M27 : Hid (BF P2 #[.slice aM2 l2.length cM2] u2) := (unhide M26).below hb
  have R27 : Hid (RowV u2 aM2 (cPt l2)) := (unhide R26).below hb
  clear B6 R6 Z6 A6 M16 R16 M26 R26
  clear hb HT
  have T := latV a1 cap1 l1 5 9 v5 HV5 (unhide HS1) (by decide) (by decide) (by decide) u2 ((unhide HR1).below (unhide B7))
  change Calls _ _ #[_, .int .i64 5, .int .i64 9] _ _ at T
  have HT := hide T
  clear T
  go_wp2_with fail
  refine (unhide HT).mono ?_
  rintro e u3 ⟨rfl, hb⟩
  have B8 : Hid (Below w.heap.size w u3) := (unhide B7).trans (hb.mono (unhide B7).size)
  have R8 : Hid (RowV u3 a2 (cPt l)) := (unhide R7).below hb
  have Z8 : Hid (BF zZ #[.slice a2 l.length cap2] u3) := (unhide Z7).below hb
  have A8 : Hid (RowV u3 (some ⟨b, off, none⟩) (cAr A)) := (unhide A7).below hb
  have M18 : Hid (BF P1 #[.slice aM1 l2.length cM1] u3) := (unhide M17).below hb
  have R18 : Hid (RowV u3 aM1 (cPt l2)) := (unhide R17).below hb
  have M28 : Hid (BF P2 #[.slice aM2 l2.length cM2] u3) := (unhide M27).below hb
  have R28 : Hid (RowV u3 aM2 (cPt l2)) := (unhide R27).below hb
  clear B7 R7 Z7 A7 M17 R17 M27 R27
  clear hb HT
  have kz := (unhide Z8).S
  go_wp2_with fail
  clear kz
  refine (ifitout a2 cap2 l.length l rfl (unhide HL11) (W : Int) (H : Int) (nw : Int) (nh : Int) d l3 HD HL3 _ (unhide R8)).mono ?_
  rintro e u4 ⟨aM3, cM3, rfl, ho, hb⟩
  have B9 : Hid (Below w.heap.size w u4) := (unhide B8).trans (hb.mono (unhide B8).size)
  have R9 : Hid (RowV u4 a2 (cPt l)) := (unhide R8).below hb
  have Z9 : Hid (BF zZ #[.slice a2 l.length cap2] u4) := (unhide Z8).below hb
  have A9 : Hid (RowV u4 (some ⟨b, off, none⟩) (cAr A)) := (unhide A8).below hb
  have M19 : Hid (BF P1 #[.slice aM1 l2.length cM1] u4) := (unhide M18).below hb
  have R19 : Hid (RowV u4 aM1 (cPt l2)) := (unhide R18).below hb
  have M29 : Hid (BF P2 #[.slice aM2 l2.length cM2] u4) := (unhide M28).below hb
  have R29 : Hid (RowV u4 aM2 (cPt l2)) := (unhide R28).below hb
  clear B8 R8 Z8 A8 M18 R18 M28 R28
  have R39 : Hid (RowV u4 aM3 (cPt l3)) := rowZ_at ho
  clear ho hb
  obtain ⟨P3, hP⟩ : ∃ P, P = u4.heap.size := ⟨_, rfl⟩
  have B10 : Hid (Below w.heap.size w (u4.alloc (.cells #[.slice aM3 l3.length cM3] 26))) := (unhide B9).trans ((Go.Joins.below_alloc1 u4 (.cells #[.slice aM3 l3.length cM3] 26)).mono (unhide B9).size)
  have R10 : Hid (RowV (u4.alloc (.cells #[.slice aM3 l3.length cM3] 26)) a2 (cPt l)) := (unhide R9).below (Go.Joins.below_alloc1 u4 (.cells #[.slice aM3 l3.length cM3] 26))
  have Z10 : Hid (BF zZ #[.slice a2 l.length cap2] (u4.alloc (.cells #[.slice aM3 l3.length cM3] 26))) := (unhide Z9).below (Go.Joins.below_alloc1 u4 (.cells #[.slice aM3 l3.length cM3] 26))
  have A10 : Hid (RowV (u4.alloc (.cells #[.slice aM3 l3.length cM3] 26)) (some ⟨b, off, none⟩) (cAr A)) := (unhide A9).below (Go.Joins.below_alloc1 u4 (.cells #[.slice aM3 l3.length cM3] 26))
  have M110 : Hid (BF P1 #[.slice aM1 l2.length cM1] (u4.alloc (.cells #[.slice aM3 l3.length cM3] 26))) := (unhide M19).below (Go.Joins.below_alloc1 u4 (.cells #[.slice aM3 l3.length cM3] 26))
  have R110 : Hid (RowV (u4.alloc (.cells #[.slice aM3 l3.length cM3] 26)) aM1 (cPt l2)) := (unhide R19).below (Go.Joins.below_alloc1 u4 (.cells #[.slice aM3 l3.length cM3] 26))
  have M210 : Hid (BF P2 #[.slice aM2 l2.length cM2] (u4.alloc (.cells #[.slice aM3 l3.length cM3] 26))) := (unhide M29).below (Go.Joins.below_alloc1 u4 (.cells #[.slice aM3 l3.length cM3] 26))
  have R210 : Hid (RowV (u4.alloc (.cells #[.slice aM3 l3.length cM3] 26)) aM2 (cPt l2)) := (unhide R29).below (Go.Joins.below_alloc1 u4 (.cells #[.slice aM3 l3.length cM3] 26))
  have R310 : Hid (RowV (u4.alloc (.cells #[.slice aM3 l3.length cM3] 26)) aM3 (cPt l3)) := (unhide R39).below (Go.Joins.below_alloc1 u4 (.cells #[.slice aM3 l3.length cM3] 26))
  clear B9 R9 Z9 A9 M19 R19 M29 R29 R39
  have M310 : Hid (BF P3 #[.slice aM3 l3.length cM3] (u4.alloc (.cells #[.slice aM3 l3.length cM3] 26))) := by show BF _ _ _; rw [hP]; exact BF.new u4 #[.slice aM3 l3.length cM3] 26
  have HPk := hide hP
  clear hP
  have kz := (unhide Z10).S
  go_wp2_with fail
  rw [← unhide HPk]
  clear HPk kz
  generalize (u4.alloc (.cells #[.slice aM3 l3.length cM3] 26)) = u5 at B10 R10 Z10 A10 M110 R110 M210 R210 R310 M310 ⊢
  refine (sfitout a2 cap2 l.length l rfl (unhide HL11) (W : Int) (H : Int) (nw : Int) (nh : Int) d l3 HD HL3 _ (unhide R10)).mono ?_
  rintro e u6 ⟨aM4, cM4, rfl, ho, hb⟩
  have B11 : Hid (Below w.heap.size w u6) := (unhide B10).trans (hb.mono (unhide B10).size)
  have R11 : Hid (RowV u6 a2 (cPt l)) := (unhide R10).below hb
  have Z11 : Hid (BF zZ #[.slice a2 l.length cap2] u6) := (unhide Z10).below hb
  have A11 : Hid (RowV u6 (some ⟨b, off, none⟩) (cAr A)) := (unhide A10).below hb
  have M111 : Hid (BF P1 #[.slice aM1 l2.length cM1] u6) := (unhide M110).below hb
  have R111 : Hid (RowV u6 aM1 (cPt l2)) := (unhide R110).below hb
  have M211 : Hid (BF P2 #[.slice aM2 l2.length cM2] u6) := (unhide M210).below hb
  have R211 : Hid (RowV u6 aM2 (cPt l2)) := (unhide R210).below hb
  have R311 : Hid (RowV u6 aM3 (cPt l3)) := (unhide R310).below hb
  have M311 : Hid (BF P3 #[.slice aM3 l3.length cM3] u6) := (unhide M310).below hb
  clear B10 R10 Z10 A10 M110 R110 M210 R210 R310 M310
  have R411 : Hid (RowV u6 aM4 (cPt l3)) := rowZ_at ho
  clear ho hb
  obtain ⟨P4, hP⟩ : ∃ P, P = u6.heap.size := ⟨_, rfl⟩
  have B12 : Hid (Below w.heap.size w (u6.alloc (.cells #[.slice aM4 l3.length cM4] 26))) := (unhide B11).trans ((Go.Joins.below_alloc1 u6 (.cells #[.slice aM4 l3.length cM4] 26)).mono (unhide B11).size)
  have R12 : Hid (RowV (u6.alloc (.cells #[.slice aM4 l3.length cM4] 26)) a2 (cPt l)) := (unhide R11).below (Go.Joins.below_alloc1 u6 (.cells #[.slice aM4 l3.length cM4] 26))
  have Z12 : Hid (BF zZ #[.slice a2 l.length cap2] (u6.alloc (.cells #[.slice aM4 l3.length cM4] 26))) := (unhide Z11).below (Go.Joins.below_alloc1 u6 (.cells #[.slice aM4 l3.length cM4] 26))
  have A12 : Hid (RowV (u6.alloc (.cells #[.slice aM4 l3.length cM4] 26)) (some ⟨b, off, none⟩) (cAr A)) := (unhide A11).below (Go.Joins.below_alloc1 u6 (.cells #[.slice aM4 l3.length cM4] 26))
  have M112 : Hid (BF P1 #[.slice aM1 l2.length cM1] (u6.alloc (.cells #[.slice aM4 l3.length cM4] 26))) := (unhide M111).below (Go.Joins.below_alloc1 u6 (.cells #[.slice aM4 l3.length cM4] 26))
  have R112 : Hid (RowV (u6.alloc (.cells #[.slice aM4 l3.length cM4] 26)) aM1 (cPt l2)) := (unhide R111).below (Go.Joins.below_alloc1 u6 (.cells #[.slice aM4 l3.length cM4] 26))
  have M212 : Hid (BF P2 #[.slice aM2 l2.length cM2] (u6.alloc (.cells #[.slice aM4 l3.length cM4] 26))) := (unhide M211).below (Go.Joins.below_alloc1 u6 (.cells #[.slice aM4 l3.length cM4] 26))
  have R212 : Hid (RowV (u6.alloc (.cells #[.slice aM4 l3.length cM4] 26)) aM2 (cPt l2)) := (unhide R211).below (Go.Joins.below_alloc1 u6 (.cells #[.slice aM4 l3.length cM4] 26))
  have R312 : Hid (RowV (u6.alloc (.cells #[.slice aM4 l3.length cM4] 26)) aM3 (cPt l3)) := (unhide R311).below (Go.Joins.below_alloc1 u6 (.cells #[.slice aM4 l3.length cM4] 26))
  have M312 : Hid (BF P3 #[.slice aM3 l3.length cM3] (u6.alloc (.cells #[.slice aM4 l3.length cM4] 26))) := (unhide M311).below (Go.Joins.below_alloc1 u6 (.cells #[.slice aM4 l3.length cM4] 26))
  have R412 : Hid (RowV (u6.alloc (.cells #[.slice aM4 l3.length cM4] 26)) aM4 (cPt l3)) := (unhide R411).below (Go.Joins.below_alloc1 u6 (.cells #[.slice aM4 l3.length cM4] 26))
  clear B11 R11 Z11 A11 M111 R111 M211 R211 R311 M311 R411
  have M412 : Hid (BF P4 #[.slice aM4 l3.length cM4] (u6.alloc (.cells #[.slice aM4 l3.length cM4] 26))) := by show BF _ _ _; rw [hP]; exact BF.new u6 #[.slice aM4 l3.length cM4] 26
  have HPk := hide hP
  clear hP
  have k1 := (unhide M312).S
  have k2 := (BF.new u6 #[.slice aM4 l3.length cM4] 26).S
  have nd : (d != d) = false := by simp
  go_wp2_with fail
  rw [← unhide HPk]
  clear HPk k1 k2 nd
  generalize (u6.alloc (.cells #[.slice aM4 l3.length cM4] 26)) = u7 at B12 R12 Z12 A12 M112 R112 M212 R212 R312 M312 R412 M412 ⊢
  refine (sameParts aM3 aM4 cM3 cM4 l3 (unhide HL3L) _ (unhide R312) (unhide R412)).mono ?_
  rintro e u8 ⟨rfl, hb⟩
  have B13 : Hid (Below w.heap.size w u8) := (unhide B12).trans (hb.mono (unhide B12).size)
  have R13 : Hid (RowV u8 a2 (cPt l)) := (unhide R12).below hb
  have Z13 : Hid (BF zZ #[.slice a2 l.length cap2] u8) := (unhide Z12).below hb
  have A13 : Hid (RowV u8 (some ⟨b, off, none⟩) (cAr A)) := (unhide A12).below hb
  have M113 : Hid (BF P1 #[.slice aM1 l2.length cM1] u8) := (unhide M112).below hb
  have R113 : Hid (RowV u8 aM1 (cPt l2)) := (unhide R112).below hb
  have M213 : Hid (BF P2 #[.slice aM2 l2.length cM2] u8) := (unhide M212).below hb
  have R213 : Hid (RowV u8 aM2 (cPt l2)) := (unhide R212).below hb
  have R313 : Hid (RowV u8 aM3 (cPt l3)) := (unhide R312).below hb
  have M313 : Hid (BF P3 #[.slice aM3 l3.length cM3] u8) := (unhide M312).below hb
  have R413 : Hid (RowV u8 aM4 (cPt l3)) := (unhide R412).below hb
  have M413 : Hid (BF P4 #[.slice aM4 l3.length cM4] u8) := (unhide M412).below hb
  clear B12 R12 Z12 A12 M112 R112 M212 R212 R312 M312 R412 M412
  clear hb
  rcases unhide HDD with rfl | ⟨rfl, t', ht', hpp⟩
  ·have k1 := (unhide M113).S
   go_wp2_with fail
   clear k1
   refine (ilok aM1 cM1 l2.length l2 rfl (unhide HL2L) (W : Int) (H : Int) true HOK _ (unhide R113)).mono ?_
   rintro e uz ⟨rfl, hb⟩
   have BZ := (unhide B13).trans (hb.mono (unhide B13).size)
   go_wp2_with fail
   go_ret
   exact ⟨rfl, BZ⟩
  ·obtain ⟨A3, hA3⟩ : ∃ A, A = t'.areas 0 0 (nw : Int) (nh : Int) := ⟨_, rfl⟩
   obtain ⟨e1, e2⟩ := arL_some ht'
   rw [← hA3] at e1
   have HAL3 : Hid (A3 = arL l3 (nw : Int) (nh : Int)) := e1.symm
   have HAC3 : Hid (0 = arC l3 (nw : Int) (nh : Int)) := e2.symm
   have hA3l : A3.length = A.length := by
    rw [hA3, unhide HA, areas_len, areas_len, hpp]
   have HPA : Hid (∀ k (h1 : k < A3.length) (h2 : k < A.length), A3[k].pane = A[k].pane) := by
    intro k h1 h2
    have e := unhide HA
    subst e hA3
    exact panes_at hpp h1 h2
   clear e1 e2 hA3 ht' hpp
   have k1 := (unhide M313).S
   go_wp2_with fail
   clear k1
   refine (ilareas aM3 cM3 l3.length l3 rfl (unhide HL3L) (nw : Int) (nh : Int) 0 A3 HAC3 HAL3 _ (unhide R313)).mono ?_
   rintro e u9 ⟨aC, capC, rfl, hoC, hb⟩
   have B14 : Hid (Below w.heap.size w u9) := (unhide B13).trans (hb.mono (unhide B13).size)
   have R14 : Hid (RowV u9 a2 (cPt l)) := (unhide R13).below hb
   have Z14 : Hid (BF zZ #[.slice a2 l.length cap2] u9) := (unhide Z13).below hb
   have A14 : Hid (RowV u9 (some ⟨b, off, none⟩) (cAr A)) := (unhide A13).below hb
   have M114 : Hid (BF P1 #[.slice aM1 l2.length cM1] u9) := (unhide M113).below hb
   have R114 : Hid (RowV u9 aM1 (cPt l2)) := (unhide R113).below hb
   have M214 : Hid (BF P2 #[.slice aM2 l2.length cM2] u9) := (unhide M213).below hb
   have R214 : Hid (RowV u9 aM2 (cPt l2)) := (unhide R213).below hb
   have R314 : Hid (RowV u9 aM3 (cPt l3)) := (unhide R313).below hb
   have M314 : Hid (BF P3 #[.slice aM3 l3.length cM3] u9) := (unhide M313).below hb
   have R414 : Hid (RowV u9 aM4 (cPt l3)) := (unhide R413).below hb
   have M414 : Hid (BF P4 #[.slice aM4 l3.length cM4] u9) := (unhide M413).below hb
   clear B13 R13 Z13 A13 M113 R113 M213 R213 R313 M313 R413 M413
   have Ac14 : Hid (RowV u9 aC (cAr A3)) := rowZ_at hoC
   clear hoC hb
   rw [hA3l]
   have HA3L := hide hA3l
   clear hA3l
   go_wp2_with fail
   go_loopw [21, 24] (fun g i wr => ∃ k : Nat, k ≤ A.length ∧ g = .int .i64 (k : Int) ∧ i = .int .i64 (k : Int) ∧ Hid (Below u9.heap.size u9 wr)) (fun _ i _ => A.length - (intOf i).toNat)
   case atStart => exact ⟨0, Nat.zero_le _, rfl, rfl, Below.refl _ _⟩
   case round =>
    obtain ⟨k, hk, rfl, rfl, HB⟩ := hrel
    by_cases hlt : k < A.length
    ·have hlt' : (k : Int) < (A.length : Int) := by omega
     have hlt0 : (0 : Int) ≤ (k : Int) := by omega
     obtain ⟨bc, offc, hac, -, -⟩ := (unhide Ac14).at (by rw [cAr_len, unhide HA3L]; omega)
     subst hac
     obtain ⟨p, hp⟩ : ∃ p, p = A[k].pane := ⟨_, rfl⟩
     have y0 := (rowAr (row_same (unhide A14) (unhide HB)) k hlt).1
     have x0 := (rowAr (row_same (unhide Ac14) (unhide HB)) k (by rw [unhide HA3L]; exact hlt)).1
     rw [unhide HPA k (by rw [unhide HA3L]; exact hlt) hlt, ← hp] at x0
     rw [← hp] at y0
     clear hp
     go_wp2_with fail
     go_region_held3 (fun w' => w'.cell? ⟨bc, offc + k * 5, none⟩ = some (.int .i64 p) ∧ w'.cell? ⟨b, off + k * 5, none⟩ = some (.int .i64 p)) (exact ⟨x0, y0⟩) (fail)
     go_wp2_with fail
     go_roundw
     case rel => exact ⟨k + 1, by omega, by go_num, by go_num, hide (unhide HB).drew⟩
     case measure => simp [intOf]; omega
    ·have hlt' : ¬ (k : Int) < (A.length : Int) := by omega
     have hke : k = A.length := by omega
     subst hke
     have nA : ((A.length : Int) != (A.length : Int)) = false := by simp
     have B15 : Hid (Below w.heap.size w wr) := (unhide B14).trans ((unhide HB).mono (unhide B14).size)
     have M115 : Hid (BF P1 #[.slice aM1 l2.length cM1] wr) := (unhide M114).below (unhide HB)
     have R115 : Hid (RowV wr aM1 (cPt l2)) := (unhide R114).below (unhide HB)
     have k1 := (unhide M115).S
     go_wp2_with fail
     clear k1
     refine (ilok aM1 cM1 l2.length l2 rfl (unhide HL2L) (W : Int) (H : Int) true HOK _ (unhide R115)).mono ?_
     rintro e uz ⟨rfl, hb⟩
     have BZ := (unhide B15).trans (hb.mono (unhide B15).size)
     go_wp2_with fail
     go_ret
     exact ⟨rfl, BZ⟩

set_option maxRecDepth 100000 in
theorem lifted (os : Os) (started : os.Started) (H : Type) (enc : TypeId × Value → H) :
  ReturnsInHanded {} Try.checked os 3 .any (Rows.fnMovesSpec.pre6 enc Try.prog Try.f3 Rows.fnMovesRow.domain false) (Rows.fnMovesSpec.post enc Try.prog Try.f3 false true false false) := by
 refine returnsInHanded_of_change (C := Try.checked) own started (by kernel_rfl) Try.func3
  (ChangeSpec.witness6 (enc := enc) (C := Try.checked) false ⟨#[], #[.slice none 0 0, .slice none 0 0], []⟩ 8 (by kernel_rfl) (by kernel_rfl) (by kernel_rfl) (by kernel_rfl)) ?_
 intro W base args ds gs before hval0 hW hcnd _
 have hval : ∀ (j : Nat) t v, Try.f3.params[j]? = some t → args[j]? = some v → Value.okWide Try.prog W .any base t v := hval0
 have hW' := hW
 obtain ⟨p, q, hA0, hV, rfl, hfz, hnd⟩ := hW
 have hA : DataW.TrodAll enc Try.prog W 0 (fun _ => true) true Try.f3.params.toList args.toList ds p := hA0
 rw [Try.params3] at hA hval
 obtain ⟨v0, vs0, d0, ds0, p0, q0, hargs, rfl, rfl, h0, r0⟩ := trodAll_cons hA
 obtain ⟨v1, vs1, d1, ds1, p1, q1, rfl, rfl, rfl, h1, r1⟩ := trodAll_cons r0
 obtain ⟨rfl, rfl, rfl⟩ := trodAll_nil r1
 obtain rfl : args = #[v0, v1] := by cases args; simp_all
 obtain ⟨rfl, rfl⟩ := trodVars_none hV
 obtain ⟨a0, len0, cap0, rfl⟩ := okWide_slice Try.underlying22 (hval 0 22 v0 rfl rfl)
 have k0 := h0
 have lt0 : ∀ x ∈ p0, x.block < W.heap.size := by obtain ⟨m, hm⟩ := k0; exact DataW.trod_lt m _ _ _ hm
 obtain ⟨z0, w0⟩ : ∃ zs, IsRow .u8 W a0 len0 cap0 zs := by
  obtain ⟨fuel, hf⟩ := h0
  rcases open_ints Try.underlying22 Try.underlying5 (by kernel_rfl) hf with ⟨hcs, _⟩ | ⟨x, l, c, zs, hcs, _, hl, hm, hz, _, hcell, hwz⟩
  ·simp [Value.cells] at hcs
   obtain ⟨rfl, rfl, rfl⟩ := hcs
   exact ⟨[], .inl ⟨rfl, rfl, rfl, rfl⟩⟩
  ·simp [Value.cells] at hcs
   obtain ⟨rfl, rfl, rfl⟩ := hcs
   exact ⟨zs, .inr ⟨_, rfl, hl, hm, by simpa using hz, hcell, hwz⟩⟩
 obtain ⟨a1, len1, cap1, rfl⟩ := okWide_slice Try.underlying22 (hval 1 22 v1 rfl rfl)
 have k1 := h1
 have lt1 : ∀ x ∈ p1, x.block < W.heap.size := by obtain ⟨m, hm⟩ := k1; exact DataW.trod_lt m _ _ _ hm
 obtain ⟨z1, w1⟩ : ∃ zs, IsRow .u8 W a1 len1 cap1 zs := by
  obtain ⟨fuel, hf⟩ := h1
  rcases open_ints Try.underlying22 Try.underlying5 (by kernel_rfl) hf with ⟨hcs, _⟩ | ⟨x, l, c, zs, hcs, _, hl, hm, hz, _, hcell, hwz⟩
  ·simp [Value.cells] at hcs
   obtain ⟨rfl, rfl, rfl⟩ := hcs
   exact ⟨[], .inl ⟨rfl, rfl, rfl, rfl⟩⟩
  ·simp [Value.cells] at hcs
   obtain ⟨rfl, rfl, rfl⟩ := hcs
   exact ⟨zs, .inr ⟨_, rfl, hl, hm, by simpa using hz, hcell, hwz⟩⟩
 clear hA0 hval0
 refine (walk a0 len0 cap0 z0 a1 len1 cap1 z1 W w0 w1).mono fun e W' ⟨he, bel⟩ => ?_
 subst he
 exact ⟨_, rfl, _, _, _, [], _, [], hW', trodAll_mk1 (shut_bool Try.underlying4 _), (trodAll_cons_mk (Below.trod laidOut (by kernel_rfl) (of_decide_eq_true (by kernel_rfl)) k0 bel lt0) (trodAll_cons_mk (Below.trod laidOut (by kernel_rfl) (of_decide_eq_true (by kernel_rfl)) k1 bel lt1) trodAll_mk0)), rfl, bel.frame _, fun h => by cases h⟩

theorem over : Rows.fnMovesRow.holds Try.pinned (OpenSpec.ofChange Rows.fnMovesSpec) :=
 OpenClaim.holds_of_wide 3 Try.f3 rfl rfl rfl rfl rfl rfl rfl ⟨rfl, rfl, rfl, rfl, rfl⟩ rfl rfl rfl rfl rfl (by kernel_rfl) Try.func3 (by kernel_rfl)
  (of_decide_eq_true (by kernel_rfl)) (by unfold Func.isWrapper; first | (rw [if_pos (by decide +kernel)]; kernel_rfl) | (rw [if_neg (by decide +kernel)]; exact ⟨rfl, rfl⟩))
  (fun os started H enc _ => lifted os started H enc)

theorem proved : Rows.FnMovesSaid := over
#print axioms proved
end Go.Proofs.Ytlngajonfbnhiaa
