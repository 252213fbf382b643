/- At every argument that can be read, the law FnAreas returns true and leaves its arguments as they were: no condition. -/
import Derived.Test.YtgnlgiihmgfghaaZAreW
import Derived.WalkKit
import Derived.ProofKit
import Derived.OpenShut
import Derived.ShutString
import Derived.ChangeOld
import Derived.Below
namespace Go.Proofs.Ytgnlgiihmgfghaa
open Go.ChangeShapes Go.WideShapes Go.ChangeAt Go.RowKit
open Go.ChangeMaps (open_string shut_string)
set_option linter.unusedVariables false

theorem own : ownKnob Try.prog.godebug = none := by kernel_rfl
theorem laidOut : laidOutB Try.prog = true := by kernel_rfl

def IsRow (k : IntKind) (w : World) (a : Option Addr) (len cap : Nat) (zs : List Int) : Prop :=
 (a = none ∧ len = 0 ∧ cap = 0 ∧ zs = []) ∨
 ∃ x, a = some x ∧ len ≤ cap ∧ cap ≤ maxLen ∧ zs.length = cap ∧ (∀ i, i < zs.length → w.cell? (x.add i) = some (.int k (zs.getD i 0))) ∧ ∀ n ∈ zs, (Lit.int k n).wf = true

theorem row8_of {w : World} {a : Option Addr} {len cap : Nat} {zs : List Int} (h : IsRow .u8 w a len cap zs) : ∃ l : List UInt8, l.length = len ∧ Row8 w a l := by
 rcases h with ⟨rfl, rfl, rfl, rfl⟩ | ⟨x, rfl, hl, hm, hz, hcell, hwz⟩
 ·exact ⟨[], rfl, .inl rfl⟩
 ·refine ⟨(zs.take len).map (fun n => UInt8.ofNat n.toNat), by simp; omega, ?_⟩
  by_cases h0 : len = 0
  ·left; simp [h0]
  ·right
   obtain ⟨b, off, spot⟩ := x
   have hc := hcell 0 (by omega)
   have hspot : spot = none := by simpa [Addr.add] using World.cell?_spot hc
   subst hspot
   refine ⟨b, off, rfl, World.block_lt_of_cell? w _ hc, fun i hi => ?_⟩
   have hi' : i < len := by simp at hi; omega
   have hci := hcell i (by omega)
   have hlt : i < zs.length := by omega
   have hg : zs.getD i 0 = zs[i] := by simp [hlt]
   have hmem : zs.getD i 0 ∈ zs := by rw [hg]; exact List.getElem_mem _
   have hb := bounds_u8 (hwz _ hmem)
   rw [show (⟨b, off, none⟩ : Addr).add i = ⟨b, off + i, none⟩ from by unfold Addr.add; split <;> simp_all] at hci
   rw [hci]
   have e1 : ((zs.take len).map (fun n => UInt8.ofNat n.toNat))[i] = UInt8.ofNat (zs.getD i 0).toNat := by
    rw [List.getElem_map, List.getElem_take, hg]
   rw [e1, UInt8.toNat_ofNat']
   congr 2
   omega
set_option maxHeartbeats 8000000 in
set_option maxRecDepth 100000 in
theorem walk (a0 : Option Addr) (len0 cap0 : Nat) (z0 : List Int) (a1 : Option Addr) (len1 cap1 : Nat) (z1 : List Int) (w : World) (w0 : IsRow .u8 w a0 len0 cap0 z0) (w1 : IsRow .u8 w a1 len1 cap1 z1) :
  Calls Try.prog 3 #[.slice a0 len0 cap0, .slice a1 len1 cap1] w fun e w' => e = .returned (.bool true) ∧ Below w.heap.size w w' := by
 obtain ⟨l0, rfl, r0⟩ := row8_of w0
 obtain ⟨l1, rfl, r1⟩ := row8_of w1
 clear w0 w1
 by_cases big0 : 1048576 < l0.length
 ·have b0 : (1048576 : Int) < (l0.length : Int) := by omega
  clear r0 r1
  go_enter Try.func3, Try.ntmps3
  go_wp2_with fail
  go_ret
  exact ⟨rfl, Below.refl _ _⟩
 have b0 : ¬ (1048576 : Int) < (l0.length : Int) := by omega
 by_cases big1 : 1048576 < l1.length
 ·have b1 : (1048576 : Int) < (l1.length : Int) := by omega
  clear r0 r1
  go_enter Try.func3, Try.ntmps3
  go_wp2_with fail
  go_ret
  exact ⟨rfl, Below.refl _ _⟩
 have b1 : ¬ (1048576 : Int) < (l1.length : Int) := by omega
 have HS0 : Hid (l0.length ≤ 1048600) := by show _ ≤ _; omega
 have HS1 : Hid (l1.length ≤ 1048576) := by show _ ≤ _; omega
 have HR0 := hide r0
 have HR1 := hide (row8_V r1)
 clear r0 r1 big0 big1
 have T := lat a1 cap1 l1 0 21 (unhide HS1) (by decide) (by decide) (by decide) w (unhide HR1)
 change Calls _ _ #[_, .int .i64 0, .int .i64 21] _ _ at T
 have HT := hide T
 clear T
 go_enter Try.func3, Try.ntmps3
 go_wp2_with fail
 refine (unhide HT).mono ?_
 rintro e w1 ⟨v1, rfl, hv1, hb1⟩
 have B1 := hide hb1
 clear hb1 HT
 have T := lat a1 cap1 l1 1 7 (unhide HS1) (by decide) (by decide) (by decide) w1 ((unhide HR1).below (unhide B1))
 change Calls _ _ #[_, .int .i64 1, .int .i64 7] _ _ at T
 have HT := hide T
 clear T
 obtain ⟨W, hW⟩ : ∃ W : Nat, W = 4 + v1 := ⟨_, rfl⟩
 have W1 : (4 : Int) + (v1 : Int) = (W : Int) := by omega
 have Wb : 4 ≤ W ∧ W ≤ 24 := by omega
 clear hW hv1
 go_wp2_with fail
 refine (unhide HT).mono ?_
 rintro e w2 ⟨v2, rfl, hv2, hb2⟩
 have B2 := hide ((unhide B1).trans (hb2.mono (unhide B1).size))
 clear hb2 HT B1
 obtain ⟨H, hH⟩ : ∃ H : Nat, H = 4 + v2 := ⟨_, rfl⟩
 have H1 : (4 : Int) + (v2 : Int) = (H : Int) := by omega
 have Hb : 4 ≤ H ∧ H ≤ 10 := by omega
 clear hH hv2
 have HSZ : Hid (sizeB (W : Int) (H : Int) = true) := decide_eq_true (by omega)
 go_wp2_with fail
 refine (slayoutOf a0 cap0 l0 (unhide HS0) (W : Int) (H : Int) HSZ w2 ((unhide HR0).below (unhide B2))).mono ?_
 rintro e w3 ⟨l, t, a2, cap2, rfl, ht, ho3, hb3⟩
 have B3 := hide ((unhide B2).trans (hb3.mono (unhide B2).size))
 have L3 := hide (rowZ_at ho3)
 have HTT := hide ht
 clear hb3 B2 ho3 ht
 obtain ⟨A, hA⟩ : ∃ A, A = t.areas 0 0 (W : Int) (H : Int) := ⟨_, rfl⟩
 obtain ⟨e1, e2⟩ := arL_some (unhide HTT)
 rw [← hA] at e1
 have HAL : Hid (A = arL l (W : Int) (H : Int)) := e1.symm
 have HAC : Hid (0 = arC l (W : Int) (H : Int)) := e2.symm
 have HA := hide hA
 have hA6 : A.length ≤ 6 := by rw [hA]; exact areas_len6 (unhide HTT)
 have HL11 : Hid (l.length ≤ 11) := by show _ ≤ _; have := (tofS_ok (unhide HTT)).2.2.1; have := (tofS_ok (unhide HTT)).2.2.2.1; omega
 have HOK : Hid (true = (tofS l (W : Int) (H : Int)).isSome) := by show _ = _; rw [unhide HTT]; rfl
 clear e1 e2 hA
 have B4 := hide ((unhide B3).alloc (unhide B3).size (.cells #[.slice a2 l.length cap2] 26))
 have Z4 := hide (BF.new w3 #[.slice a2 l.length cap2] 26)
 have L4 := hide ((unhide L3).below (Go.Joins.below_alloc1 w3 (.cells #[.slice a2 l.length cap2] 26)))
 clear L3
 go_wp2_with fail
 generalize w3.alloc (.cells #[.slice a2 l.length cap2] 26) = w4 at B4 Z4 L4 ⊢
 refine (ilareas a2 cap2 l.length l rfl (by have := unhide HL11; omega) (W : Int) (H : Int) 0 A HAC HAL w4 (unhide L4)).mono ?_
 rintro e w5 ⟨aA, capA, rfl, hoA, hb5⟩
 have B5 := hide ((unhide B4).trans (hb5.mono (unhide B4).size))
 have Z5 := hide ((unhide Z4).below hb5)
 have L5 := hide ((unhide L4).below hb5)
 have RA5 := hide (rowZ_at hoA)
 clear hoA hb5 B4 Z4 L4
 have kz := (unhide Z5).S
 go_wp2_with fail
 refine (slareas a2 cap2 l.length l rfl (by have := unhide HL11; omega) (W : Int) (H : Int) 0 A HAC HAL w5 (unhide L5)).mono ?_
 rintro e w6 ⟨aB, capB, rfl, hoB, hb6⟩
 have B6 := hide ((unhide B5).trans (hb6.mono (unhide B5).size))
 have Z6 := hide ((unhide Z5).below hb6)
 have L6 := hide ((unhide L5).below hb6)
 have RA6 := hide ((unhide RA5).below hb6)
 have RB6 := hide (rowZ_at hoB)
 clear hoB hb6 B5 Z5 L5 RA5 kz
 have kz := (unhide Z6).S
 have hne : ((A.length : Int) != (A.length : Int)) = false := by simp
 have hle6 : ¬ (6 : Int) < (A.length : Int) := by omega
 go_wp2_with fail
 refine (ilok a2 cap2 l.length l rfl (by have := unhide HL11; omega) (W : Int) (H : Int) true HOK w6 (unhide L6)).mono ?_
 rintro e w7 ⟨rfl, hb7⟩
 have B7 := hide ((unhide B6).trans (hb7.mono (unhide B6).size))
 have RA7 := hide ((unhide RA6).below hb7)
 have RB7 := hide ((unhide RB6).below hb7)
 clear hb7 B6 Z6 L6 RA6 RB6 kz hne
 obtain ⟨N, hN⟩ : ∃ N : Nat, N = W * H := ⟨_, rfl⟩
 have hN24 : N ≤ 240 := by rw [hN]; exact Nat.mul_le_mul Wb.2 Hb.2
 have hNI : (W : Int) * (H : Int) = (N : Int) := by rw [hN]; push_cast; rfl
 have wN : IntKind.i64.wrap (N : Int) = (N : Int) := wrapi _ (by omega) (by omega)
 have HN := hide hN
 clear hN
 obtain ⟨i0, hi, hz0, hz1, hz2⟩ := info_parts Try.infI3
 go_wp2_with (at_make; refine wpList_make_full _ rfl _ _ 32 rfl w7.heap.size 3 i0 (.int .i64 0) 1 Try.underlying32 hi hz0 hz1 .i64 .i64 _ _ N rfl rfl rfl rfl (by rw [hz2]; omega) (by unfold maxLen; omega) (Nat.le_refl _) ?_; intro w8 hown hgrow)
 have hb8 := (Below.refl w7.heap.size w7).grown hgrow (Nat.le_refl _) (fun k hk => by cases hk)
 rw [show (madeCells (Value.int .i64 0).cells (N * 1)).toList = cI (gridL W H (cov (A.take 0))) from by rw [show (Value.int .i64 0).cells = #[.int .i64 0] from rfl, toList_madeCells_one, show A.take 0 = [].take 0 from rfl, see_zero, ← unhide HN]; simp [cI]] at hown
 obtain ⟨G, hG⟩ : ∃ G, G = w7.heap.size := ⟨_, rfl⟩
 rw [← hG] at hown hb8
 try rw [← hG]
 have HG := hide hG
 have HO8 := hide hown
 have HB8 := hide hb8
 clear hown hgrow hb8 hi hz0 hz1 hz2 hG
 have GRD : Hid (∀ w0 : World, Below G w7 w0 → Below w.heap.size w w0) := fun w0 h => (unhide B7).trans (h.mono (by rw [unhide HG]; exact (unhide B7).size))
 have RDA : Hid (∀ w0 : World, Below G w7 w0 → RowV w0 aA (cAr A)) := fun w0 h => (unhide RA7).below (by rw [unhide HG] at h; exact h)
 have RDB : Hid (∀ w0 : World, Below G w7 w0 → RowV w0 aB (cAr A)) := fun w0 h => (unhide RB7).below (by rw [unhide HG] at h; exact h)
 clear RA7 RB7 B7
 go_wp2_with fail
 go_loopw [13] (fun i wr => ∃ k : Nat, k ≤ A.length ∧ i = .int .i64 k ∧ Hid (wr.ownsRow G 3 1 (.slice (some ⟨G, 0, none⟩) N N) N (cI (gridL W H (cov (A.take k))))) ∧ Hid (Below G w7 wr)) (fun i _ => A.length - (intOf i).toNat)
 case atStart => exact ⟨0, by omega, rfl, HO8, HB8⟩
 case round =>
  clear HO8 HB8
  obtain ⟨k, hk, rfl, HO, HB⟩ := hrel
  by_cases hlt : k < A.length
  ·obtain ⟨b, off, ha, hblt, hc⟩ := (unhide RDA _ (unhide HB)).at (by rw [cAr_len]; omega)
   obtain ⟨b2, off2, ha2, hblt2, hc2⟩ := (unhide RDB _ (unhide HB)).at (by rw [cAr_len]; omega)
   subst ha ha2
   obtain ⟨c0, c1, c2, c3, c4⟩ := rowAr hc k hlt
   have hin := areas_in t 0 0 (W : Int) (H : Int) (tofS_ok (unhide HTT)).2.2.2.2.2.2 A[k] (by rw [← unhide HA]; exact List.getElem_mem hlt)
   obtain ⟨pp, x0, y0, w0, h0, ep⟩ := ar_nat A[k] (by omega)
   rw [← ep] at c0 c1 c2 c3 c4 hin
   simp only at c0 c1 c2 c3 c4 hin
   have HPK : Hid (A[k]? = some ⟨pp, (x0 : Int), (y0 : Int), (w0 : Int), (h0 : Int)⟩) := by show _ = _; rw [ep]; exact List.getElem?_eq_getElem hlt
   obtain ⟨i1, i2, i3, i4, i5, i6⟩ := hin
   rw [Int.zero_add] at i5 i6
   have hlt' : (k : Int) < (A.length : Int) := by omega
   have hlt0 : (0 : Int) ≤ (k : Int) := by omega
   have n1 : ¬ (w0 : Int) < 2 := by omega
   have n2 : ¬ (h0 : Int) < 2 := by omega
   have n3 : ¬ (x0 : Int) < 0 := by omega
   have n4 : ¬ (y0 : Int) < 0 := by omega
   have m1 : IntKind.i64.wrap ((x0 : Int) + (w0 : Int)) = (x0 : Int) + (w0 : Int) := wrapi _ (by omega) (by omega)
   have m2 : IntKind.i64.wrap ((y0 : Int) + (h0 : Int)) = (y0 : Int) + (h0 : Int) := wrapi _ (by omega) (by omega)
   have n5 : ¬ (W : Int) < (x0 : Int) + (w0 : Int) := by omega
   have n6 : ¬ (H : Int) < (y0 : Int) + (h0 : Int) := by omega
   have hGr : G < wr.heap.size := ((unhide HO).lt G rfl).2
   obtain ⟨P, hP⟩ : ∃ P, P = wr.heap.size := ⟨_, rfl⟩
   have hGP : G < P := by omega
   have HB0 := hide ((unhide HB).alloc (Nat.le_of_lt hGr) (.cells #[.int .i64 pp, .int .i64 (x0 : Int), .int .i64 (y0 : Int), .int .i64 (w0 : Int), .int .i64 (h0 : Int)] 34))
   have HO0 := hide (((unhide HO)).alloc (.cells #[.int .i64 pp, .int .i64 (x0 : Int), .int .i64 (y0 : Int), .int .i64 (w0 : Int), .int .i64 (h0 : Int)] 34))
   have ZP := hide (BF.new wr #[.int .i64 pp, .int .i64 (x0 : Int), .int .i64 (y0 : Int), .int .i64 (w0 : Int), .int .i64 (h0 : Int)] 34)
   obtain ⟨z0, z1, z2, z3, z4⟩ := rowAr (rowV_cells (unhide RDB _ (unhide HB0))) k hlt
   rw [← ep] at z0 z1 z2 z3 z4
   simp only at z0 z1 z2 z3 z4
   clear HO HB hc hc2 ep hblt hblt2
   rw [← hP] at ZP
   have HP := hide hP
   clear hP
   go_wp2_with fail
   rw [← unhide HP]
   generalize wr.alloc (.cells #[.int .i64 pp, .int .i64 (x0 : Int), .int .i64 (y0 : Int), .int .i64 (w0 : Int), .int .i64 (h0 : Int)] 34) = wa at HB0 HO0 ZP z0 z1 z2 z3 z4 ⊢
   have zs := (unhide ZP).S
   refine wp_region_held_drew (S := (fun w' => (∀ o, w'.cell? ⟨P, o, none⟩ = (#[.int .i64 pp, .int .i64 (x0 : Int), .int .i64 (y0 : Int), .int .i64 (w0 : Int), .int .i64 (h0 : Int)] : Array Value)[o]?) ∧ w'.cell? ⟨b2, off2 + k * 5, none⟩ = some (.int .i64 pp) ∧ w'.cell? ⟨b2, off2 + k * 5 + 1, none⟩ = some (.int .i64 (x0 : Int)) ∧ w'.cell? ⟨b2, off2 + k * 5 + 2, none⟩ = some (.int .i64 (y0 : Int)) ∧ w'.cell? ⟨b2, off2 + k * 5 + 3, none⟩ = some (.int .i64 (w0 : Int)) ∧ w'.cell? ⟨b2, off2 + k * 5 + 4, none⟩ = some (.int .i64 (h0 : Int)))) (by kernel_rfl) ⟨zs, z0, z1, z2, z3, z4⟩ (fun hHeld => ?_)
   have dn1 : decide ((w0 : Int) < 2) = false := decide_eq_false (by omega)
   have dn2 : decide ((h0 : Int) < 2) = false := decide_eq_false (by omega)
   have dn3 : decide ((x0 : Int) < 0) = false := decide_eq_false (by omega)
   have dn4 : decide ((y0 : Int) < 0) = false := decide_eq_false (by omega)
   have dn5 : decide ((W : Int) < (x0 : Int) + (w0 : Int)) = false := decide_eq_false (by omega)
   have dn6 : decide ((H : Int) < (y0 : Int) + (h0 : Int)) = false := decide_eq_false (by omega)
   clear n1 n2 n3 n4 n5 n6
   refine wtk (i := 0) (oi := { dst := some 85, op := .load 34 (.tmp 14), type := 34, pos := "laws.go:472", after := #[], guard := none }) (v := ?_) rfl (Or.inl ⟨by rfl, ?_⟩) (by assumption) ?_
   rotate_left 1
   ·(intro w' hSw; (try dsimp only at hSw); obtain ⟨zs, z0, z1, z2, z3, z4⟩ := hSw; go_simp; try with_reducible rfl)
   try simp only [Act.put, qqA, qqB, qqC]
   refine wtk (i := 1) (oi := { dst := some 86, op := .move (.tmp 10), type := 28, pos := "laws.go:472", after := #[], guard := none }) (v := ?_) rfl (Or.inl ⟨by rfl, ?_⟩) (by assumption) ?_
   rotate_left 1
   ·(intro w' hSw; (try dsimp only at hSw); obtain ⟨zs, z0, z1, z2, z3, z4⟩ := hSw; go_simp; try with_reducible rfl)
   try simp only [Act.put, qqA, qqB, qqC]
   refine wtk (i := 2) (oi := { dst := some 87, op := .move (.tmp 13), type := 3, pos := "laws.go:472", after := #[], guard := none }) (v := ?_) rfl (Or.inl ⟨by rfl, ?_⟩) (by assumption) ?_
   rotate_left 1
   ·(intro w' hSw; (try dsimp only at hSw); obtain ⟨zs, z0, z1, z2, z3, z4⟩ := hSw; go_simp; try with_reducible rfl)
   try simp only [Act.put, qqA, qqB, qqC]
   refine wtk (i := 3) (oi := { dst := some 88, op := .indexAddr 28 (.tmp 86) (.tmp 87), type := 0, pos := "laws.go:472", after := #[{ on := 1, ground := .data }, { on := 2, ground := .data }], guard := none }) (v := ?_) rfl (Or.inl ⟨by rfl, ?_⟩) (by assumption) ?_
   rotate_left 1
   ·(intro w' hSw; (try dsimp only at hSw); obtain ⟨zs, z0, z1, z2, z3, z4⟩ := hSw; go_simp; try with_reducible rfl)
   try simp only [Act.put, qqA, qqB, qqC]
   refine wtk (i := 4) (oi := { dst := some 89, op := .load 34 (.tmp 88), type := 34, pos := "laws.go:472", after := #[{ on := 3, ground := .data }], guard := none }) (v := ?_) rfl (Or.inl ⟨by rfl, ?_⟩) (by assumption) ?_
   rotate_left 1
   ·(intro w' hSw; (try dsimp only at hSw); obtain ⟨zs, z0, z1, z2, z3, z4⟩ := hSw; go_simp; try with_reducible rfl)
   try simp only [Act.put, qqA, qqB, qqC]
   refine wtk (i := 5) (oi := { dst := some 90, op := .binOp .neq 34 (.tmp 85) (.tmp 89) 34, type := 4, pos := "laws.go:472", after := #[{ on := 0, ground := .data }, { on := 4, ground := .data }], guard := none }) (v := ?_) rfl (Or.inl ⟨by rfl, ?_⟩) (by assumption) ?_
   rotate_left 1
   ·(intro w' hSw; (try dsimp only at hSw); obtain ⟨zs, z0, z1, z2, z3, z4⟩ := hSw; go_simp; try with_reducible rfl)
   try simp only [Act.put, qqA, qqB, qqC]
   refine wtk (i := 6) (oi := { dst := some 91, op := .move (.tmp 90), type := 4, pos := "laws.go:472", after := #[{ on := 5, ground := .data }], guard := none }) (v := ?_) rfl (Or.inl ⟨by rfl, ?_⟩) (by assumption) ?_
   rotate_left 1
   ·(intro w' hSw; (try dsimp only at hSw); obtain ⟨zs, z0, z1, z2, z3, z4⟩ := hSw; go_simp; try with_reducible rfl)
   try simp only [Act.put, qqA, qqB, qqC]
   refine wtk (i := 7) (oi := { dst := some 92, op := .fieldAddr 34 (.tmp 14) 3, type := 0, pos := "laws.go:472", after := #[{ on := 6, ground := .guard }], guard := some (6, false) }) (v := ?_) rfl (Or.inl ⟨by rfl, ?_⟩) (by assumption) ?_
   rotate_left 1
   ·(intro w' hSw; (try dsimp only at hSw); obtain ⟨zs, z0, z1, z2, z3, z4⟩ := hSw; go_simp; try with_reducible rfl)
   try simp only [Act.put, qqA, qqB, qqC]
   refine wtk (i := 8) (oi := { dst := some 93, op := .load 3 (.tmp 92), type := 3, pos := "laws.go:472", after := #[{ on := 7, ground := .data }, { on := 6, ground := .guard }], guard := some (6, false) }) (v := ?_) rfl (Or.inl ⟨by rfl, ?_⟩) (by assumption) ?_
   rotate_left 1
   ·(intro w' hSw; (try dsimp only at hSw); obtain ⟨zs, z0, z1, z2, z3, z4⟩ := hSw; go_simp; try with_reducible rfl)
   try simp only [Act.put, qqA, qqB, qqC]
   refine wtk (i := 9) (oi := { dst := some 94, op := .binOp .lss 3 (.tmp 93) (.const (.int .i64 2)) 3, type := 4, pos := "laws.go:472", after := #[{ on := 8, ground := .data }, { on := 6, ground := .guard }], guard := some (6, false) }) (v := ?_) rfl (Or.inl ⟨by rfl, ?_⟩) (by assumption) ?_
   rotate_left 1
   ·(intro w' hSw; (try dsimp only at hSw); obtain ⟨zs, z0, z1, z2, z3, z4⟩ := hSw; go_simp; try with_reducible rfl)
   try simp only [Act.put, qqA, qqB, qqC]
   try rw [dn1]
   refine wtk (i := 10) (oi := { dst := some 95, op := .pick (.tmp 91) (.const (.bool true)) (.tmp 94), type := 4, pos := "laws.go:472", after := #[{ on := 6, ground := .data }, { on := 9, ground := .data }], guard := none }) (v := ?_) rfl (Or.inl ⟨by rfl, ?_⟩) (by assumption) ?_
   rotate_left 1
   ·(intro w' hSw; (try dsimp only at hSw); obtain ⟨zs, z0, z1, z2, z3, z4⟩ := hSw; go_simp; try with_reducible rfl)
   try simp only [Act.put, qqA, qqB, qqC]
   refine wtk (i := 11) (oi := { dst := some 96, op := .move (.tmp 95), type := 4, pos := "laws.go:472", after := #[{ on := 10, ground := .data }, { on := 6, ground := .chain }], guard := none }) (v := ?_) rfl (Or.inl ⟨by rfl, ?_⟩) (by assumption) ?_
   rotate_left 1
   ·(intro w' hSw; (try dsimp only at hSw); obtain ⟨zs, z0, z1, z2, z3, z4⟩ := hSw; go_simp; try with_reducible rfl)
   try simp only [Act.put, qqA, qqB, qqC]
   refine wtk (i := 12) (oi := { dst := some 97, op := .fieldAddr 34 (.tmp 14) 4, type := 0, pos := "laws.go:472", after := #[{ on := 11, ground := .guard }], guard := some (11, false) }) (v := ?_) rfl (Or.inl ⟨by rfl, ?_⟩) (by assumption) ?_
   rotate_left 1
   ·(intro w' hSw; (try dsimp only at hSw); obtain ⟨zs, z0, z1, z2, z3, z4⟩ := hSw; go_simp; try with_reducible rfl)
   try simp only [Act.put, qqA, qqB, qqC]
   refine wtk (i := 13) (oi := { dst := some 98, op := .load 3 (.tmp 97), type := 3, pos := "laws.go:472", after := #[{ on := 12, ground := .data }, { on := 11, ground := .guard }], guard := some (11, false) }) (v := ?_) rfl (Or.inl ⟨by rfl, ?_⟩) (by assumption) ?_
   rotate_left 1
   ·(intro w' hSw; (try dsimp only at hSw); obtain ⟨zs, z0, z1, z2, z3, z4⟩ := hSw; go_simp; try with_reducible rfl)
   try simp only [Act.put, qqA, qqB, qqC]
   refine wtk (i := 14) (oi := { dst := some 99, op := .binOp .lss 3 (.tmp 98) (.const (.int .i64 2)) 3, type := 4, pos := "laws.go:472", after := #[{ on := 13, ground := .data }, { on := 11, ground := .guard }], guard := some (11, false) }) (v := ?_) rfl (Or.inl ⟨by rfl, ?_⟩) (by assumption) ?_
   rotate_left 1
   ·(intro w' hSw; (try dsimp only at hSw); obtain ⟨zs, z0, z1, z2, z3, z4⟩ := hSw; go_simp; try with_reducible rfl)
   try simp only [Act.put, qqA, qqB, qqC]
   try rw [dn2]
   refine wtk (i := 15) (oi := { dst := some 100, op := .pick (.tmp 96) (.const (.bool true)) (.tmp 99), type := 4, pos := "laws.go:472", after := #[{ on := 11, ground := .data }, { on := 14, ground := .data }], guard := none }) (v := ?_) rfl (Or.inl ⟨by rfl, ?_⟩) (by assumption) ?_
   rotate_left 1
   ·(intro w' hSw; (try dsimp only at hSw); obtain ⟨zs, z0, z1, z2, z3, z4⟩ := hSw; go_simp; try with_reducible rfl)
   try simp only [Act.put, qqA, qqB, qqC]
   refine wtk (i := 16) (oi := { dst := some 101, op := .move (.tmp 100), type := 4, pos := "laws.go:472", after := #[{ on := 15, ground := .data }, { on := 11, ground := .chain }], guard := none }) (v := ?_) rfl (Or.inl ⟨by rfl, ?_⟩) (by assumption) ?_
   rotate_left 1
   ·(intro w' hSw; (try dsimp only at hSw); obtain ⟨zs, z0, z1, z2, z3, z4⟩ := hSw; go_simp; try with_reducible rfl)
   try simp only [Act.put, qqA, qqB, qqC]
   refine wtk (i := 17) (oi := { dst := some 102, op := .fieldAddr 34 (.tmp 14) 1, type := 0, pos := "laws.go:472", after := #[{ on := 16, ground := .guard }], guard := some (16, false) }) (v := ?_) rfl (Or.inl ⟨by rfl, ?_⟩) (by assumption) ?_
   rotate_left 1
   ·(intro w' hSw; (try dsimp only at hSw); obtain ⟨zs, z0, z1, z2, z3, z4⟩ := hSw; go_simp; try with_reducible rfl)
   try simp only [Act.put, qqA, qqB, qqC]
   refine wtk (i := 18) (oi := { dst := some 103, op := .load 3 (.tmp 102), type := 3, pos := "laws.go:472", after := #[{ on := 17, ground := .data }, { on := 16, ground := .guard }], guard := some (16, false) }) (v := ?_) rfl (Or.inl ⟨by rfl, ?_⟩) (by assumption) ?_
   rotate_left 1
   ·(intro w' hSw; (try dsimp only at hSw); obtain ⟨zs, z0, z1, z2, z3, z4⟩ := hSw; go_simp; try with_reducible rfl)
   try simp only [Act.put, qqA, qqB, qqC]
   refine wtk (i := 19) (oi := { dst := some 104, op := .binOp .lss 3 (.tmp 103) (.const (.int .i64 0)) 3, type := 4, pos := "laws.go:472", after := #[{ on := 18, ground := .data }, { on := 16, ground := .guard }], guard := some (16, false) }) (v := ?_) rfl (Or.inl ⟨by rfl, ?_⟩) (by assumption) ?_
   rotate_left 1
   ·(intro w' hSw; (try dsimp only at hSw); obtain ⟨zs, z0, z1, z2, z3, z4⟩ := hSw; go_simp; try with_reducible rfl)
   try simp only [Act.put, qqA, qqB, qqC]
   try rw [dn3]
   refine wtk (i := 20) (oi := { dst := some 105, op := .pick (.tmp 101) (.const (.bool true)) (.tmp 104), type := 4, pos := "laws.go:472", after := #[{ on := 16, ground := .data }, { on := 19, ground := .data }], guard := none }) (v := ?_) rfl (Or.inl ⟨by rfl, ?_⟩) (by assumption) ?_
   rotate_left 1
   ·(intro w' hSw; (try dsimp only at hSw); obtain ⟨zs, z0, z1, z2, z3, z4⟩ := hSw; go_simp; try with_reducible rfl)
   try simp only [Act.put, qqA, qqB, qqC]
   refine wtk (i := 21) (oi := { dst := some 106, op := .move (.tmp 105), type := 4, pos := "laws.go:472", after := #[{ on := 20, ground := .data }, { on := 16, ground := .chain }], guard := none }) (v := ?_) rfl (Or.inl ⟨by rfl, ?_⟩) (by assumption) ?_
   rotate_left 1
   ·(intro w' hSw; (try dsimp only at hSw); obtain ⟨zs, z0, z1, z2, z3, z4⟩ := hSw; go_simp; try with_reducible rfl)
   try simp only [Act.put, qqA, qqB, qqC]
   refine wtk (i := 22) (oi := { dst := some 107, op := .fieldAddr 34 (.tmp 14) 2, type := 0, pos := "laws.go:472", after := #[{ on := 21, ground := .guard }], guard := some (21, false) }) (v := ?_) rfl (Or.inl ⟨by rfl, ?_⟩) (by assumption) ?_
   rotate_left 1
   ·(intro w' hSw; (try dsimp only at hSw); obtain ⟨zs, z0, z1, z2, z3, z4⟩ := hSw; go_simp; try with_reducible rfl)
   try simp only [Act.put, qqA, qqB, qqC]
   refine wtk (i := 23) (oi := { dst := some 108, op := .load 3 (.tmp 107), type := 3, pos := "laws.go:472", after := #[{ on := 22, ground := .data }, { on := 21, ground := .guard }], guard := some (21, false) }) (v := ?_) rfl (Or.inl ⟨by rfl, ?_⟩) (by assumption) ?_
   rotate_left 1
   ·(intro w' hSw; (try dsimp only at hSw); obtain ⟨zs, z0, z1, z2, z3, z4⟩ := hSw; go_simp; try with_reducible rfl)
   try simp only [Act.put, qqA, qqB, qqC]
   refine wtk (i := 24) (oi := { dst := some 109, op := .binOp .lss 3 (.tmp 108) (.const (.int .i64 0)) 3, type := 4, pos := "laws.go:472", after := #[{ on := 23, ground := .data }, { on := 21, ground := .guard }], guard := some (21, false) }) (v := ?_) rfl (Or.inl ⟨by rfl, ?_⟩) (by assumption) ?_
   rotate_left 1
   ·(intro w' hSw; (try dsimp only at hSw); obtain ⟨zs, z0, z1, z2, z3, z4⟩ := hSw; go_simp; try with_reducible rfl)
   try simp only [Act.put, qqA, qqB, qqC]
   try rw [dn4]
   refine wtk (i := 25) (oi := { dst := some 110, op := .pick (.tmp 106) (.const (.bool true)) (.tmp 109), type := 4, pos := "laws.go:472", after := #[{ on := 21, ground := .data }, { on := 24, ground := .data }], guard := none }) (v := ?_) rfl (Or.inl ⟨by rfl, ?_⟩) (by assumption) ?_
   rotate_left 1
   ·(intro w' hSw; (try dsimp only at hSw); obtain ⟨zs, z0, z1, z2, z3, z4⟩ := hSw; go_simp; try with_reducible rfl)
   try simp only [Act.put, qqA, qqB, qqC]
   refine wtk (i := 26) (oi := { dst := some 111, op := .move (.tmp 110), type := 4, pos := "laws.go:472", after := #[{ on := 25, ground := .data }, { on := 21, ground := .chain }], guard := none }) (v := ?_) rfl (Or.inl ⟨by rfl, ?_⟩) (by assumption) ?_
   rotate_left 1
   ·(intro w' hSw; (try dsimp only at hSw); obtain ⟨zs, z0, z1, z2, z3, z4⟩ := hSw; go_simp; try with_reducible rfl)
   try simp only [Act.put, qqA, qqB, qqC]
   refine wtk (i := 27) (oi := { dst := some 112, op := .fieldAddr 34 (.tmp 14) 1, type := 0, pos := "laws.go:472", after := #[{ on := 26, ground := .guard }], guard := some (26, false) }) (v := ?_) rfl (Or.inl ⟨by rfl, ?_⟩) (by assumption) ?_
   rotate_left 1
   ·(intro w' hSw; (try dsimp only at hSw); obtain ⟨zs, z0, z1, z2, z3, z4⟩ := hSw; go_simp; try with_reducible rfl)
   try simp only [Act.put, qqA, qqB, qqC]
   refine wtk (i := 28) (oi := { dst := some 113, op := .load 3 (.tmp 112), type := 3, pos := "laws.go:472", after := #[{ on := 27, ground := .data }, { on := 26, ground := .guard }], guard := some (26, false) }) (v := ?_) rfl (Or.inl ⟨by rfl, ?_⟩) (by assumption) ?_
   rotate_left 1
   ·(intro w' hSw; (try dsimp only at hSw); obtain ⟨zs, z0, z1, z2, z3, z4⟩ := hSw; go_simp; try with_reducible rfl)
   try simp only [Act.put, qqA, qqB, qqC]
   refine wtk (i := 29) (oi := { dst := some 114, op := .fieldAddr 34 (.tmp 14) 3, type := 0, pos := "laws.go:472", after := #[{ on := 26, ground := .guard }], guard := some (26, false) }) (v := ?_) rfl (Or.inl ⟨by rfl, ?_⟩) (by assumption) ?_
   rotate_left 1
   ·(intro w' hSw; (try dsimp only at hSw); obtain ⟨zs, z0, z1, z2, z3, z4⟩ := hSw; go_simp; try with_reducible rfl)
   try simp only [Act.put, qqA, qqB, qqC]
   refine wtk (i := 30) (oi := { dst := some 115, op := .load 3 (.tmp 114), type := 3, pos := "laws.go:472", after := #[{ on := 29, ground := .data }, { on := 26, ground := .guard }], guard := some (26, false) }) (v := ?_) rfl (Or.inl ⟨by rfl, ?_⟩) (by assumption) ?_
   rotate_left 1
   ·(intro w' hSw; (try dsimp only at hSw); obtain ⟨zs, z0, z1, z2, z3, z4⟩ := hSw; go_simp; try with_reducible rfl)
   try simp only [Act.put, qqA, qqB, qqC]
   refine wtk (i := 31) (oi := { dst := some 116, op := .binOp .add 3 (.tmp 113) (.tmp 115) 3, type := 3, pos := "laws.go:472", after := #[{ on := 28, ground := .data }, { on := 30, ground := .data }, { on := 26, ground := .guard }], guard := some (26, false) }) (v := ?_) rfl (Or.inl ⟨by rfl, ?_⟩) (by assumption) ?_
   rotate_left 1
   ·(intro w' hSw; (try dsimp only at hSw); obtain ⟨zs, z0, z1, z2, z3, z4⟩ := hSw; go_simp; try with_reducible rfl)
   try simp only [Act.put, qqA, qqB, qqC]
   try rw [m1]
   refine wtk (i := 32) (oi := { dst := some 117, op := .move (.tmp 5), type := 3, pos := "laws.go:472", after := #[{ on := 26, ground := .guard }], guard := some (26, false) }) (v := ?_) rfl (Or.inl ⟨by rfl, ?_⟩) (by assumption) ?_
   rotate_left 1
   ·(intro w' hSw; (try dsimp only at hSw); obtain ⟨zs, z0, z1, z2, z3, z4⟩ := hSw; go_simp; try with_reducible rfl)
   try simp only [Act.put, qqA, qqB, qqC]
   refine wtk (i := 33) (oi := { dst := some 118, op := .binOp .gtr 3 (.tmp 116) (.tmp 117) 3, type := 4, pos := "laws.go:472", after := #[{ on := 31, ground := .data }, { on := 32, ground := .data }, { on := 26, ground := .guard }], guard := some (26, false) }) (v := ?_) rfl (Or.inl ⟨by rfl, ?_⟩) (by assumption) ?_
   rotate_left 1
   ·(intro w' hSw; (try dsimp only at hSw); obtain ⟨zs, z0, z1, z2, z3, z4⟩ := hSw; go_simp; try with_reducible rfl)
   try simp only [Act.put, qqA, qqB, qqC]
   try rw [dn5]
   refine wtk (i := 34) (oi := { dst := some 119, op := .pick (.tmp 111) (.const (.bool true)) (.tmp 118), type := 4, pos := "laws.go:472", after := #[{ on := 26, ground := .data }, { on := 33, ground := .data }], guard := none }) (v := ?_) rfl (Or.inl ⟨by rfl, ?_⟩) (by assumption) ?_
   rotate_left 1
   ·(intro w' hSw; (try dsimp only at hSw); obtain ⟨zs, z0, z1, z2, z3, z4⟩ := hSw; go_simp; try with_reducible rfl)
   try simp only [Act.put, qqA, qqB, qqC]
   refine wtk (i := 35) (oi := { dst := some 120, op := .move (.tmp 119), type := 4, pos := "laws.go:472", after := #[{ on := 34, ground := .data }, { on := 26, ground := .chain }], guard := none }) (v := ?_) rfl (Or.inl ⟨by rfl, ?_⟩) (by assumption) ?_
   rotate_left 1
   ·(intro w' hSw; (try dsimp only at hSw); obtain ⟨zs, z0, z1, z2, z3, z4⟩ := hSw; go_simp; try with_reducible rfl)
   try simp only [Act.put, qqA, qqB, qqC]
   refine wtk (i := 36) (oi := { dst := some 121, op := .fieldAddr 34 (.tmp 14) 2, type := 0, pos := "laws.go:472", after := #[{ on := 35, ground := .guard }], guard := some (35, false) }) (v := ?_) rfl (Or.inl ⟨by rfl, ?_⟩) (by assumption) ?_
   rotate_left 1
   ·(intro w' hSw; (try dsimp only at hSw); obtain ⟨zs, z0, z1, z2, z3, z4⟩ := hSw; go_simp; try with_reducible rfl)
   try simp only [Act.put, qqA, qqB, qqC]
   refine wtk (i := 37) (oi := { dst := some 122, op := .load 3 (.tmp 121), type := 3, pos := "laws.go:472", after := #[{ on := 36, ground := .data }, { on := 35, ground := .guard }], guard := some (35, false) }) (v := ?_) rfl (Or.inl ⟨by rfl, ?_⟩) (by assumption) ?_
   rotate_left 1
   ·(intro w' hSw; (try dsimp only at hSw); obtain ⟨zs, z0, z1, z2, z3, z4⟩ := hSw; go_simp; try with_reducible rfl)
   try simp only [Act.put, qqA, qqB, qqC]
   refine wtk (i := 38) (oi := { dst := some 123, op := .fieldAddr 34 (.tmp 14) 4, type := 0, pos := "laws.go:472", after := #[{ on := 35, ground := .guard }], guard := some (35, false) }) (v := ?_) rfl (Or.inl ⟨by rfl, ?_⟩) (by assumption) ?_
   rotate_left 1
   ·(intro w' hSw; (try dsimp only at hSw); obtain ⟨zs, z0, z1, z2, z3, z4⟩ := hSw; go_simp; try with_reducible rfl)
   try simp only [Act.put, qqA, qqB, qqC]
   refine wtk (i := 39) (oi := { dst := some 124, op := .load 3 (.tmp 123), type := 3, pos := "laws.go:472", after := #[{ on := 38, ground := .data }, { on := 35, ground := .guard }], guard := some (35, false) }) (v := ?_) rfl (Or.inl ⟨by rfl, ?_⟩) (by assumption) ?_
   rotate_left 1
   ·(intro w' hSw; (try dsimp only at hSw); obtain ⟨zs, z0, z1, z2, z3, z4⟩ := hSw; go_simp; try with_reducible rfl)
   try simp only [Act.put, qqA, qqB, qqC]
   refine wtk (i := 40) (oi := { dst := some 125, op := .binOp .add 3 (.tmp 122) (.tmp 124) 3, type := 3, pos := "laws.go:472", after := #[{ on := 37, ground := .data }, { on := 39, ground := .data }, { on := 35, ground := .guard }], guard := some (35, false) }) (v := ?_) rfl (Or.inl ⟨by rfl, ?_⟩) (by assumption) ?_
   rotate_left 1
   ·(intro w' hSw; (try dsimp only at hSw); obtain ⟨zs, z0, z1, z2, z3, z4⟩ := hSw; go_simp; try with_reducible rfl)
   try simp only [Act.put, qqA, qqB, qqC]
   try rw [m2]
   refine wtk (i := 41) (oi := { dst := some 126, op := .move (.tmp 6), type := 3, pos := "laws.go:472", after := #[{ on := 35, ground := .guard }], guard := some (35, false) }) (v := ?_) rfl (Or.inl ⟨by rfl, ?_⟩) (by assumption) ?_
   rotate_left 1
   ·(intro w' hSw; (try dsimp only at hSw); obtain ⟨zs, z0, z1, z2, z3, z4⟩ := hSw; go_simp; try with_reducible rfl)
   try simp only [Act.put, qqA, qqB, qqC]
   refine wtk (i := 42) (oi := { dst := some 127, op := .binOp .gtr 3 (.tmp 125) (.tmp 126) 3, type := 4, pos := "laws.go:472", after := #[{ on := 40, ground := .data }, { on := 41, ground := .data }, { on := 35, ground := .guard }], guard := some (35, false) }) (v := ?_) rfl (Or.inl ⟨by rfl, ?_⟩) (by assumption) ?_
   rotate_left 1
   ·(intro w' hSw; (try dsimp only at hSw); obtain ⟨zs, z0, z1, z2, z3, z4⟩ := hSw; go_simp; try with_reducible rfl)
   try simp only [Act.put, qqA, qqB, qqC]
   try rw [dn6]
   refine wtk (i := 43) (oi := { dst := some 128, op := .pick (.tmp 120) (.const (.bool true)) (.tmp 127), type := 4, pos := "laws.go:472", after := #[{ on := 35, ground := .data }, { on := 42, ground := .data }], guard := none }) (v := ?_) rfl (Or.inl ⟨by rfl, ?_⟩) (by assumption) ?_
   rotate_left 1
   ·(intro w' hSw; (try dsimp only at hSw); obtain ⟨zs, z0, z1, z2, z3, z4⟩ := hSw; go_simp; try with_reducible rfl)
   try simp only [Act.put, qqA, qqB, qqC]
   refine wpAnyH_done (by kernel_rfl) ?_ _
   clear z0 z1 z2 z3 z4
   have HB1 := hide ((unhide HB0).drew)
   have ZP1 := hide ((unhide ZP).drew)
   have HO1 : Hid (wa.drew.ownsRow G 3 1 (.slice (some ⟨G, 0, none⟩) N N) N (cI (seeL W H (A.take k) ⟨pp, (x0 : Int), (y0 : Int), (w0 : Int), (h0 : Int)⟩ (x0 : Int) (y0 : Int)))) := by
    show World.ownsRow _ _ _ _ _ _ _
    rw [← seeL_start W H (A.take k) ⟨pp, (x0 : Int), (y0 : Int), (w0 : Int), (h0 : Int)⟩]
    exact unhide HO0
   have HKL := hide hlt
   clear HB0 ZP HO0 zs HP dn1 dn2 dn3 dn4 dn5 dn6 hlt hlt' hlt0
   generalize wa.drew = wb at HB1 ZP1 HO1 ⊢
   have ks := (unhide ZP1).S
   go_wp2_with fail
   clear ks
   go_loopw [15] (fun i wr2 => ∃ Y : Nat, i = .int .i64 (Y : Int) ∧ y0 ≤ Y ∧ Y ≤ y0 + h0 ∧ Hid (wr2.ownsRow G 3 1 (.slice (some ⟨G, 0, none⟩) N N) N (cI (seeL W H (A.take k) ⟨pp, (x0 : Int), (y0 : Int), (w0 : Int), (h0 : Int)⟩ (x0 : Int) (Y : Int)))) ∧ Hid (BF P #[.int .i64 pp, .int .i64 (x0 : Int), .int .i64 (y0 : Int), .int .i64 (w0 : Int), .int .i64 (h0 : Int)] wr2) ∧ Hid (Below G w7 wr2)) (fun i _ => y0 + h0 - (intOf i).toNat)
   case atStart => exact ⟨y0, rfl, Nat.le_refl _, by omega, HO1, ZP1, HB1⟩
   case round =>
    clear HO1 ZP1 HB1
    obtain ⟨Y, rfl, hY0, hY1, HO1, ZP1, HB1⟩ := hrel
    have ks := (unhide ZP1).S
    by_cases hYh : Y < y0 + h0
    ·have hYh' : (Y : Int) < (y0 : Int) + (h0 : Int) := by omega
     go_wp2_with fail
     clear ks
     go_loopw [16] (fun i wr3 => ∃ X : Nat, i = .int .i64 (X : Int) ∧ x0 ≤ X ∧ X ≤ x0 + w0 ∧ Hid (wr3.ownsRow G 3 1 (.slice (some ⟨G, 0, none⟩) N N) N (cI (seeL W H (A.take k) ⟨pp, (x0 : Int), (y0 : Int), (w0 : Int), (h0 : Int)⟩ (X : Int) (Y : Int)))) ∧ Hid (BF P #[.int .i64 pp, .int .i64 (x0 : Int), .int .i64 (y0 : Int), .int .i64 (w0 : Int), .int .i64 (h0 : Int)] wr3) ∧ Hid (Below G w7 wr3)) (fun i _ => x0 + w0 - (intOf i).toNat)
     case atStart => exact ⟨x0, rfl, Nat.le_refl _, by omega, HO1, ZP1, HB1⟩
     case round =>
      clear HO1 ZP1 HB1
      obtain ⟨X, rfl, hX0, hX1, HO1, ZP1, HB1⟩ := hrel
      have ks := (unhide ZP1).S
      by_cases hXw : X < x0 + w0
      ·have hXw' : (X : Int) < (x0 : Int) + (w0 : Int) := by omega
       have hXW : X < W := by omega
       have hYH : Y < H := by omega
       obtain ⟨m, hm⟩ : ∃ m : Nat, m = Y * W := ⟨_, rfl⟩
       obtain ⟨q, hq⟩ : ∃ q : Nat, q = m + X := ⟨_, rfl⟩
       have hqN : q < N := by rw [hq, hm, unhide HN]; exact place_lt hXW hYH
       have e1 : (Y : Int) * (W : Int) = (m : Int) := by rw [hm]; push_cast; rfl
       have e2 : (m : Int) + (X : Int) = (q : Int) := by rw [hq]; push_cast; rfl
       have e3 : IntKind.i64.wrap (m : Int) = (m : Int) := wrapi _ (by omega) (by omega)
       have e4 : IntKind.i64.wrap (q : Int) = (q : Int) := wrapi _ (by omega) (by omega)
       have hqi : (q : Int) < (N : Int) := by omega
       obtain ⟨u, hu⟩ : ∃ u : Int, u = cov (A.take k) X Y + par ⟨pp, (x0 : Int), (y0 : Int), (w0 : Int), (h0 : Int)⟩ (X : Int) (Y : Int) X Y := ⟨_, rfl⟩
       have hub : 0 ≤ u ∧ u ≤ 7 := by
        have c1 := cov_bd (A.take k) X Y 6 (by rw [List.length_take]; omega)
        have c2 := par_bd ⟨pp, (x0 : Int), (y0 : Int), (w0 : Int), (h0 : Int)⟩ (X : Int) (Y : Int) X Y
        omega
       have e5 : IntKind.i64.wrap (u + 1) = u + 1 := wrapi _ (by omega) (by omega)
       have hcl : (cI (seeL W H (A.take k) ⟨pp, (x0 : Int), (y0 : Int), (w0 : Int), (h0 : Int)⟩ (X : Int) (Y : Int)))[q]? = some (.int .i64 u) := by
        rw [hq, hm]; exact cI_get (by rw [seeL_get _ _ hXW hYH, hu])
       have hc2 : wr.cell? ⟨G, q, none⟩ = some (.int .i64 u) := by rw [(unhide HO1).cellAt q (by omega), hcl]
       have hf2 := (unhide HO1).frozenAt q
       have hset : (cI (seeL W H (A.take k) ⟨pp, (x0 : Int), (y0 : Int), (w0 : Int), (h0 : Int)⟩ (X : Int) (Y : Int))).set q (.int .i64 (u + 1)) = cI (seeL W H (A.take k) ⟨pp, (x0 : Int), (y0 : Int), (w0 : Int), (h0 : Int)⟩ ((X + 1 : Nat) : Int) (Y : Int)) := by
        rw [cI_set, hq, hm, hu, seeL_set _ _ hXW hYH ⟨by show (x0 : Int) ≤ _; omega, by show (X : Int) < (x0 : Int) + (w0 : Int); omega⟩ ⟨by show (y0 : Int) ≤ _; omega, by show (Y : Int) < (y0 : Int) + (h0 : Int); omega⟩]; rfl
       have R := ((unhide HO1).stored q (.int .i64 (u + 1))).1
       rw [hset] at R
       have R1 := hide R
       clear R hset
       have HB2 : Hid (Below G w7 (wr.setCell ⟨G, q, none⟩ (.int .i64 (u + 1)))) := (unhide HB1).setCell (p := ⟨G, q, none⟩) (Nat.le_refl _) _
       have ZP2 := hide ((unhide ZP1).far ⟨G, q, none⟩ (.int .i64 (u + 1)) (by show G ≠ P; omega))
       have HQ := hide hq
       have HM := hide hm
       clear hq hm hu hcl HB1 ZP1 HO1
       go_wp2_with fail
       go_roundw
       case rel => exact ⟨X + 1, by go_num, by omega, by omega, R1, ZP2, HB2⟩
       case measure => simp [intOf]; omega
      ·have hXw' : ¬ (X : Int) < (x0 : Int) + (w0 : Int) := by omega
       have hXe : X = x0 + w0 := by omega
       have HO2 : Hid (wr.ownsRow G 3 1 (.slice (some ⟨G, 0, none⟩) N N) N (cI (seeL W H (A.take k) ⟨pp, (x0 : Int), (y0 : Int), (w0 : Int), (h0 : Int)⟩ (x0 : Int) ((Y : Int) + 1)))) := by
        show World.ownsRow _ _ _ _ _ _ _
        have e : ((X : Nat) : Int) = (x0 : Int) + (w0 : Int) := by omega
        have h := unhide HO1
        rw [e] at h
        rw [← seeL_row W H (A.take k) ⟨pp, (x0 : Int), (y0 : Int), (w0 : Int), (h0 : Int)⟩ (Y : Int)]; exact h
       clear HO1 hXe
       go_wp2_with fail
       go_roundw
       case rel => exact ⟨Y + 1, by go_num, by omega, by omega, HO2, ZP1, HB1⟩
       case measure => simp [intOf]; omega
    ·have hYh' : ¬ (Y : Int) < (y0 : Int) + (h0 : Int) := by omega
     have hYe : Y = y0 + h0 := by omega
     have HO2 : Hid (wr.ownsRow G 3 1 (.slice (some ⟨G, 0, none⟩) N N) N (cI (gridL W H (cov (A.take (k + 1)))))) := by
      show World.ownsRow _ _ _ _ _ _ _
      rw [← seeL_end (W := W) (H := H) (unhide HPK)]
      have e : ((Y : Nat) : Int) = (y0 : Int) + (h0 : Int) := by omega
      rw [← e]; exact unhide HO1
     clear HO1 hYe
     go_wp2_with fail
     go_roundw
     case rel => exact ⟨k + 1, unhide HKL, by go_num, HO2, HB1⟩
     case measure => have := unhide HKL; simp [intOf]; omega
  ·have hlt' : ¬ (k : Int) < (A.length : Int) := by omega
   have hkA : k = A.length := by omega
   have HO2 : Hid (wr.ownsRow G 3 1 (.slice (some ⟨G, 0, none⟩) N N) N (cI (gridL W H (cov A)))) := by
    show World.ownsRow _ _ _ _ _ _ _
    have h := unhide HO
    rw [hkA, List.take_length] at h; exact h
   clear HO hkA
   go_wp2_with fail
   go_loopw [17] (fun i wr2 => ∃ q : Nat, q ≤ N ∧ i = .int .i64 (q : Int) ∧ Hid (wr2.ownsRow G 3 1 (.slice (some ⟨G, 0, none⟩) N N) N (cI (gridL W H (cov A)))) ∧ Hid (Below G w7 wr2)) (fun i _ => N - (intOf i).toNat)
   case atStart => exact ⟨0, Nat.zero_le _, rfl, HO2, HB⟩
   case round =>
    clear HO2 HB
    obtain ⟨q, hq, rfl, HO2, HB⟩ := hrel
    by_cases hqN : q < N
    ·have hqi : (q : Int) < (N : Int) := by omega
     have hc2 : wr.cell? ⟨G, q, none⟩ = some (.int .i64 1) := by
      rw [(unhide HO2).cellAt q (by omega), unhide HA]
      exact cI_get (see_all (tofS_ok (unhide HTT)).2.2.2.2.2.2 (by rw [← unhide HN]; exact hqN))
     go_wp2_with fail
     go_roundw
     case rel => exact ⟨q + 1, hqN, by go_num, HO2, HB⟩
     case measure => simp [intOf]; omega
    ·have hqi : ¬ (q : Int) < (N : Int) := by omega
     go_wp2_with fail
     go_ret
     exact ⟨rfl, unhide GRD _ (unhide HB)⟩

set_option maxRecDepth 100000 in
theorem lifted (os : Os) (started : os.Started) (H : Type) (enc : TypeId × Value → H) :
  ReturnsInHanded {} Try.checked os 3 .any (Rows.fnAreasSpec.pre6 enc Try.prog Try.f3 Rows.fnAreasRow.domain false) (Rows.fnAreasSpec.post enc Try.prog Try.f3 false true false false) := by
 refine returnsInHanded_of_change (C := Try.checked) own started (by kernel_rfl) Try.func3
  (ChangeSpec.witness6 (enc := enc) (C := Try.checked) false ⟨#[], #[.slice none 0 0, .slice none 0 0], []⟩ 8 (by kernel_rfl) (by kernel_rfl) (by kernel_rfl) (by kernel_rfl)) ?_
 intro W base args ds gs before hval0 hW hcnd _
 have hval : ∀ (j : Nat) t v, Try.f3.params[j]? = some t → args[j]? = some v → Value.okWide Try.prog W .any base t v := hval0
 have hW' := hW
 obtain ⟨p, q, hA0, hV, rfl, hfz, hnd⟩ := hW
 have hA : DataW.TrodAll enc Try.prog W 0 (fun _ => true) true Try.f3.params.toList args.toList ds p := hA0
 rw [Try.params3] at hA hval
 obtain ⟨v0, vs0, d0, ds0, p0, q0, hargs, rfl, rfl, h0, r0⟩ := trodAll_cons hA
 obtain ⟨v1, vs1, d1, ds1, p1, q1, rfl, rfl, rfl, h1, r1⟩ := trodAll_cons r0
 obtain ⟨rfl, rfl, rfl⟩ := trodAll_nil r1
 obtain rfl : args = #[v0, v1] := by cases args; simp_all
 obtain ⟨rfl, rfl⟩ := trodVars_none hV
 obtain ⟨a0, len0, cap0, rfl⟩ := okWide_slice Try.underlying22 (hval 0 22 v0 rfl rfl)
 have k0 := h0
 have lt0 : ∀ x ∈ p0, x.block < W.heap.size := by obtain ⟨m, hm⟩ := k0; exact DataW.trod_lt m _ _ _ hm
 obtain ⟨z0, w0⟩ : ∃ zs, IsRow .u8 W a0 len0 cap0 zs := by
  obtain ⟨fuel, hf⟩ := h0
  rcases open_ints Try.underlying22 Try.underlying5 (by kernel_rfl) hf with ⟨hcs, _⟩ | ⟨x, l, c, zs, hcs, _, hl, hm, hz, _, hcell, hwz⟩
  ·simp [Value.cells] at hcs
   obtain ⟨rfl, rfl, rfl⟩ := hcs
   exact ⟨[], .inl ⟨rfl, rfl, rfl, rfl⟩⟩
  ·simp [Value.cells] at hcs
   obtain ⟨rfl, rfl, rfl⟩ := hcs
   exact ⟨zs, .inr ⟨_, rfl, hl, hm, by simpa using hz, hcell, hwz⟩⟩
 obtain ⟨a1, len1, cap1, rfl⟩ := okWide_slice Try.underlying22 (hval 1 22 v1 rfl rfl)
 have k1 := h1
 have lt1 : ∀ x ∈ p1, x.block < W.heap.size := by obtain ⟨m, hm⟩ := k1; exact DataW.trod_lt m _ _ _ hm
 obtain ⟨z1, w1⟩ : ∃ zs, IsRow .u8 W a1 len1 cap1 zs := by
  obtain ⟨fuel, hf⟩ := h1
  rcases open_ints Try.underlying22 Try.underlying5 (by kernel_rfl) hf with ⟨hcs, _⟩ | ⟨x, l, c, zs, hcs, _, hl, hm, hz, _, hcell, hwz⟩
  ·simp [Value.cells] at hcs
   obtain ⟨rfl, rfl, rfl⟩ := hcs
   exact ⟨[], .inl ⟨rfl, rfl, rfl, rfl⟩⟩
  ·simp [Value.cells] at hcs
   obtain ⟨rfl, rfl, rfl⟩ := hcs
   exact ⟨zs, .inr ⟨_, rfl, hl, hm, by simpa using hz, hcell, hwz⟩⟩
 clear hA0 hval0
 refine (walk a0 len0 cap0 z0 a1 len1 cap1 z1 W w0 w1).mono fun e W' ⟨he, bel⟩ => ?_
 subst he
 exact ⟨_, rfl, _, _, _, [], _, [], hW', trodAll_mk1 (shut_bool Try.underlying4 _), (trodAll_cons_mk (Below.trod laidOut (by kernel_rfl) (of_decide_eq_true (by kernel_rfl)) k0 bel lt0) (trodAll_cons_mk (Below.trod laidOut (by kernel_rfl) (of_decide_eq_true (by kernel_rfl)) k1 bel lt1) trodAll_mk0)), rfl, bel.frame _, fun h => by cases h⟩

theorem over : Rows.fnAreasRow.holds Try.pinned (OpenSpec.ofChange Rows.fnAreasSpec) :=
 OpenClaim.holds_of_wide 3 Try.f3 rfl rfl rfl rfl rfl rfl rfl ⟨rfl, rfl, rfl, rfl, rfl⟩ rfl rfl rfl rfl rfl (by kernel_rfl) Try.func3 (by kernel_rfl)
  (of_decide_eq_true (by kernel_rfl)) (by unfold Func.isWrapper; first | (rw [if_pos (by decide +kernel)]; kernel_rfl) | (rw [if_neg (by decide +kernel)]; exact ⟨rfl, rfl⟩))
  (fun os started H enc _ => lifted os started H enc)

theorem proved : Rows.FnAreasSaid := over
#print axioms proved
end Go.Proofs.Ytgnlgiihmgfghaa
