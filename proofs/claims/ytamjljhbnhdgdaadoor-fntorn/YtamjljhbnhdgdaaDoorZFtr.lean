/- At every argument that can be read, with the listed variables as the program text lays them, the law FnTorn returns true and leaves its arguments as they were: the tied card. -/
import Derived.Test.YtamjljhbnhdgdaaDoorCards
import Derived.Test.YtamjljhbnhdgdaaDoorTie
import Derived.Test.YtamjljhbnhdgdaaDoorZG48
import Derived.WalkKit
import Derived.ProofKit
import Derived.OpenShut
import Derived.ShutString
import Derived.ChangeOld
import Derived.Below
import Derived.OpenVars
import Derived.LaidMore
import Derived.Lay
import Derived.Stop.Joined
namespace Go.Proofs.YtamjljhbnhdgdaaDoor
open Go.ChangeShapes Go.WideShapes Go.ChangeAt Go.RowKit
open Go.ChangeMaps (open_string shut_string)
set_option linter.unusedVariables false

abbrev oFtr0 : Oper := { dst := some 79, op := .call { callee := .value (.func 9), args := #[.tmp 78, .const (.int .i64 0), .const (.int .i64 150)], argTypes := #[22, 3, 3] }, type := 3, pos := "laws.go:737", after := #[{ on := 1, ground := .data }], guard := none }
abbrev oFtr1 : Oper := { dst := some 17, op := .alloc 31, type := 0, pos := "laws.go:737", after := #[], guard := none }
abbrev oFtr2 : Oper := { dst := some 80, op := .call { callee := .value (.func 8), args := #[.tmp 77, .tmp 79], argTypes := #[31, 3] }, type := 32, pos := "laws.go:737", after := #[{ on := 0, ground := .data }, { on := 2, ground := .data }, { on := 2, ground := .chain }], guard := none }
abbrev oFtr3 : Oper := { dst := some 76, op := .move (.tmp 80), type := 32, pos := "laws.go:737", after := #[{ on := 3, ground := .data }], guard := none }
abbrev oFtr4 : Oper := { dst := some 81, op := .extract (.tmp 76) 0, type := 31, pos := "laws.go:737", after := #[{ on := 4, ground := .data }], guard := none }
abbrev oFtr5 : Oper := { dst := some 82, op := .extract (.tmp 76) 1, type := 3, pos := "laws.go:737", after := #[{ on := 4, ground := .data }, { on := 8, ground := .gcOnly Go.Departure.lateStores }], guard := none }
abbrev oFtr6 : Oper := { dst := none, op := .store 31 (.tmp 17) (.tmp 81), type := 0, pos := "laws.go:737", after := #[{ on := 7, ground := .data }, { on := 5, ground := .data }, { on := 3, ground := .chain }, { on := 0, ground := .phase }, { on := 1, ground := .phase }, { on := 2, ground := .phase }, { on := 3, ground := .phase }, { on := 4, ground := .phase }, { on := 5, ground := .phase }, { on := 6, ground := .textOnly Go.Departure.lateStores }, { on := 7, ground := .phase }], guard := none }
abbrev oFtr7 : Oper := { dst := some 18, op := .assign (.tmp 82), type := 3, pos := "laws.go:737", after := #[{ on := 6, ground := .data }, { on := 8, ground := .chain }, { on := 0, ground := .phase }, { on := 1, ground := .phase }, { on := 2, ground := .phase }, { on := 3, ground := .phase }, { on := 4, ground := .phase }, { on := 5, ground := .phase }, { on := 6, ground := .phase }, { on := 7, ground := .phase }, { on := 8, ground := .phase }], guard := none }
abbrev oFtr8 : Oper := { dst := some 145, op := .move (.tmp 10), type := 27, pos := "laws.go:751", after := #[], guard := none }
abbrev oFtr9 : Oper := { dst := some 146, op := .move (.tmp 24), type := 3, pos := "laws.go:751", after := #[], guard := none }
abbrev oFtr10 : Oper := { dst := some 147, op := .indexAddr 27 (.tmp 145) (.tmp 146), type := 0, pos := "laws.go:751", after := #[{ on := 1, ground := .data }, { on := 2, ground := .data }], guard := none }
abbrev oFtr11 : Oper := { dst := some 148, op := .load 9 (.tmp 147), type := 9, pos := "laws.go:751", after := #[{ on := 3, ground := .data }], guard := none }
abbrev oFtr12 : Oper := { dst := some 144, op := .load 25 (.tmp 23), type := 25, pos := "laws.go:751", after := #[], guard := none }
abbrev oFtr13 : Oper := { dst := some 149, op := .call { callee := .value (.func 13), args := #[.tmp 144, .tmp 148], argTypes := #[25, 9] }, type := 42, pos := "laws.go:751", after := #[{ on := 0, ground := .data }, { on := 4, ground := .data }], guard := none }
abbrev oFtr14 : Oper := { dst := some 143, op := .move (.tmp 149), type := 42, pos := "laws.go:751", after := #[{ on := 5, ground := .data }], guard := none }
abbrev oFtr15 : Oper := { dst := some 150, op := .extract (.tmp 143) 0, type := 25, pos := "laws.go:751", after := #[{ on := 6, ground := .data }], guard := none }
abbrev oFtr16 : Oper := { dst := some 151, op := .extract (.tmp 143) 1, type := 3, pos := "laws.go:751", after := #[{ on := 6, ground := .data }, { on := 9, ground := .gcOnly Go.Departure.lateStores }], guard := none }
abbrev oFtr17 : Oper := { dst := none, op := .store 25 (.tmp 23) (.tmp 150), type := 0, pos := "laws.go:751", after := #[{ on := 7, ground := .data }, { on := 5, ground := .chain }, { on := 0, ground := .phase }, { on := 1, ground := .phase }, { on := 2, ground := .phase }, { on := 3, ground := .phase }, { on := 4, ground := .phase }, { on := 5, ground := .phase }, { on := 6, ground := .phase }, { on := 7, ground := .phase }, { on := 8, ground := .textOnly Go.Departure.lateStores }], guard := none }
set_option maxHeartbeats 16000000 in
set_option maxRecDepth 100000 in
theorem walk (w : World) (a0 : Option Addr) (len0 cap0 : Nat) (l0 : List UInt8) (e0 : l0.length = len0) (w0 : Row8 w a0 l0) (a1 : Option Addr) (len1 cap1 : Nat) (l1 : List UInt8) (e1 : l1.length = len1) (w1 : Row8 w a1 l1) (hT : Errs9 w) :
  Calls Tryd.prog 3 #[.slice a0 len0 cap0, .slice a1 len1 cap1] w fun e w' => e = .returned (.bool true) ∧ Below w.heap.size w w' := by
 subst e0 e1
 obtain ⟨hE, xc, xb, xs, x0, x1, x2, x3, x4, hX, hS, hq1, hq2⟩ := hT
 have r0 := w0
 have r1 := w1
 by_cases big0 : 1048576 < l0.length
 ·have b0 : (1048576 : Int) < (l0.length : Int) := by omega
  clear w0 w1 hE hX hS hq1 hq2 r0 r1
  go_enter Tryd.func3, Tryd.ntmps3
  go_wp2_with fail
  go_ret
  exact ⟨rfl, Below.refl _ _⟩
 have b0 : ¬ (1048576 : Int) < (l0.length : Int) := by omega
 by_cases big1 : 1048576 < l1.length
 ·have b1 : (1048576 : Int) < (l1.length : Int) := by omega
  clear w0 w1 hE hX hS hq1 hq2 r0 r1
  go_enter Tryd.func3, Tryd.ntmps3
  go_wp2_with fail
  go_ret
  exact ⟨rfl, Below.refl _ _⟩
 have b1 : ¬ (1048576 : Int) < (l1.length : Int) := by omega
 have HS0 : Hid (l0.length ≤ 1048600) := by show _ ≤ _; omega
 have HS1 : Hid (l1.length ≤ 1048600) := by show _ ≤ _; omega
 have HS1b : Hid (l1.length ≤ 1048576) := by show _ ≤ _; omega
 have HR0 := hide r0
 have HR1 := hide r1
 have HRM := hide (row8_V r1)
 have HE := hide hE
 have HX := hide hX
 have HSE := hide hS
 have HQ1 := hide hq1
 have HQ2 := hide hq2
 clear w0 w1 r0 r1 big0 big1 hE hX hS hq1 hq2
 have HN0 : Hid (([] : List Ent).length = 0) := rfl
 have HL00 : Hid (logB 0 1 [] = true) := rfl
 have B_0 : Hid (Below w.heap.size w w) := Below.refl _ _
 go_enter Tryd.func3, Tryd.ntmps3
 obtain ⟨P5, hP⟩ : ∃ P, P = w.heap.size := ⟨_, rfl⟩
 have B_1 : Hid (Below w.heap.size w (w.alloc (.cells #[.int .i64 0, .int .i64 (-1), .slice none 0 0] 25))) := (unhide B_0).trans ((Go.Joins.below_alloc1 w (.cells #[.int .i64 0, .int .i64 (-1), .slice none 0 0] 25)).mono (unhide B_0).size)
 clear B_0
 have ZP5_1 : Hid (BF P5 #[.int .i64 0, .int .i64 (-1), .slice none 0 0] (w.alloc (.cells #[.int .i64 0, .int .i64 (-1), .slice none 0 0] 25))) := by show BF _ _ _; rw [hP]; exact BF.new w _ _
 have HPq := hide hP
 clear hP
 go_wp2_with fail
 rw [← unhide HPq]
 clear HPq
 generalize (w.alloc (.cells #[.int .i64 0, .int .i64 (-1), .slice none 0 0] 25)) = u1 at B_1 ZP5_1 ⊢
 refine (slaterOf a0 cap0 l0 (unhide HS0) 0 (-1) none 0 0 [] HN0 (by decide) ⟨by decide, by decide⟩ HL00 u1 ((unhide HR0).below (unhide B_1)) (.inl rfl)).mono ?_
 rintro e u2 ⟨tm, vt, va, n, vc, l, rfl, hl, hn, htm, hvt, hlg, ⟨ba, rfl⟩, ho, hb⟩
 have HN := hide hl
 have HLG := hide hlg
 have hsA : stateB tm vt l = true := state_mk (by omega) hvt hl (by omega) hlg
 have HSA := hide hsA
 have B_2 : Hid (Below w.heap.size w u2) := (unhide B_1).trans (hb.mono (unhide B_1).size)
 have ZP5_2 : Hid (BF P5 #[.int .i64 0, .int .i64 (-1), .slice none 0 0] u2) := (unhide ZP5_1).below hb
 clear B_1 ZP5_1
 have RA_2 : Hid (RowV u2 (some ⟨ba, 0, none⟩) (cE l)) := rowZ_at ho
 clear hl hlg ho hb hsA
 obtain ⟨P6, hP⟩ : ∃ P, P = u2.heap.size := ⟨_, rfl⟩
 have B_3 : Hid (Below w.heap.size w (u2.alloc (.cells #[.int .i64 tm, .int .i64 vt, .slice (some ⟨ba, 0, none⟩) n vc] 25))) := (unhide B_2).trans ((Go.Joins.below_alloc1 u2 (.cells #[.int .i64 tm, .int .i64 vt, .slice (some ⟨ba, 0, none⟩) n vc] 25)).mono (unhide B_2).size)
 have ZP5_3 : Hid (BF P5 #[.int .i64 0, .int .i64 (-1), .slice none 0 0] (u2.alloc (.cells #[.int .i64 tm, .int .i64 vt, .slice (some ⟨ba, 0, none⟩) n vc] 25))) := (unhide ZP5_2).below (Go.Joins.below_alloc1 u2 (.cells #[.int .i64 tm, .int .i64 vt, .slice (some ⟨ba, 0, none⟩) n vc] 25))
 have RA_3 : Hid (RowV (u2.alloc (.cells #[.int .i64 tm, .int .i64 vt, .slice (some ⟨ba, 0, none⟩) n vc] 25)) (some ⟨ba, 0, none⟩) (cE l)) := (unhide RA_2).below (Go.Joins.below_alloc1 u2 (.cells #[.int .i64 tm, .int .i64 vt, .slice (some ⟨ba, 0, none⟩) n vc] 25))
 clear B_2 ZP5_2 RA_2
 have ZP6_3 : Hid (BF P6 #[.int .i64 tm, .int .i64 vt, .slice (some ⟨ba, 0, none⟩) n vc] (u2.alloc (.cells #[.int .i64 tm, .int .i64 vt, .slice (some ⟨ba, 0, none⟩) n vc] 25))) := by show BF _ _ _; rw [hP]; exact BF.new u2 _ _
 have HPq := hide hP
 clear hP
 have kkn := (BF.new u2 #[.int .i64 tm, .int .i64 vt, .slice (some ⟨ba, 0, none⟩) n vc] 25).S
 go_wp2_with fail
 rw [← unhide HPq]
 clear HPq kkn
 generalize (u2.alloc (.cells #[.int .i64 tm, .int .i64 vt, .slice (some ⟨ba, 0, none⟩) n vc] 25)) = u3 at B_3 ZP5_3 RA_3 ZP6_3 ⊢
 refine (slaterOf a1 cap1 l1 (unhide HS1) tm vt (some ⟨ba, 0, none⟩) vc n l HN (by omega) ⟨by omega, by omega⟩ HLG u3 ((unhide HR1).below (unhide B_3)) (unhide RA_3)).mono ?_
 rintro e u4 ⟨tm2, vt2, ve, n2, vc2, m, rfl, hm, hn2, htm2, hvt2, hlg2, ⟨be, rfl⟩, ho, hb⟩
 have HM := hide hm
 have hsB : stateB tm2 vt2 m = true := state_mk (by omega) hvt2 hm (by omega) hlg2
 have HSB := hide hsB
 have B_4 : Hid (Below w.heap.size w u4) := (unhide B_3).trans (hb.mono (unhide B_3).size)
 have ZP5_4 : Hid (BF P5 #[.int .i64 0, .int .i64 (-1), .slice none 0 0] u4) := (unhide ZP5_3).below hb
 have RA_4 : Hid (RowV u4 (some ⟨ba, 0, none⟩) (cE l)) := (unhide RA_3).below hb
 have ZP6_4 : Hid (BF P6 #[.int .i64 tm, .int .i64 vt, .slice (some ⟨ba, 0, none⟩) n vc] u4) := (unhide ZP6_3).below hb
 clear B_3 ZP5_3 RA_3 ZP6_3
 have RE_4 : Hid (RowV u4 (some ⟨be, 0, none⟩) (cE m)) := rowZ_at ho
 clear hm hlg2 ho hb hsB
 obtain ⟨P7, hP⟩ : ∃ P, P = u4.heap.size := ⟨_, rfl⟩
 have B_5 : Hid (Below w.heap.size w (u4.alloc (.cells #[.int .i64 tm2, .int .i64 vt2, .slice (some ⟨be, 0, none⟩) n2 vc2] 25))) := (unhide B_4).trans ((Go.Joins.below_alloc1 u4 (.cells #[.int .i64 tm2, .int .i64 vt2, .slice (some ⟨be, 0, none⟩) n2 vc2] 25)).mono (unhide B_4).size)
 have ZP5_5 : Hid (BF P5 #[.int .i64 0, .int .i64 (-1), .slice none 0 0] (u4.alloc (.cells #[.int .i64 tm2, .int .i64 vt2, .slice (some ⟨be, 0, none⟩) n2 vc2] 25))) := (unhide ZP5_4).below (Go.Joins.below_alloc1 u4 (.cells #[.int .i64 tm2, .int .i64 vt2, .slice (some ⟨be, 0, none⟩) n2 vc2] 25))
 have RA_5 : Hid (RowV (u4.alloc (.cells #[.int .i64 tm2, .int .i64 vt2, .slice (some ⟨be, 0, none⟩) n2 vc2] 25)) (some ⟨ba, 0, none⟩) (cE l)) := (unhide RA_4).below (Go.Joins.below_alloc1 u4 (.cells #[.int .i64 tm2, .int .i64 vt2, .slice (some ⟨be, 0, none⟩) n2 vc2] 25))
 have ZP6_5 : Hid (BF P6 #[.int .i64 tm, .int .i64 vt, .slice (some ⟨ba, 0, none⟩) n vc] (u4.alloc (.cells #[.int .i64 tm2, .int .i64 vt2, .slice (some ⟨be, 0, none⟩) n2 vc2] 25))) := (unhide ZP6_4).below (Go.Joins.below_alloc1 u4 (.cells #[.int .i64 tm2, .int .i64 vt2, .slice (some ⟨be, 0, none⟩) n2 vc2] 25))
 have RE_5 : Hid (RowV (u4.alloc (.cells #[.int .i64 tm2, .int .i64 vt2, .slice (some ⟨be, 0, none⟩) n2 vc2] 25)) (some ⟨be, 0, none⟩) (cE m)) := (unhide RE_4).below (Go.Joins.below_alloc1 u4 (.cells #[.int .i64 tm2, .int .i64 vt2, .slice (some ⟨be, 0, none⟩) n2 vc2] 25))
 clear B_4 ZP5_4 RA_4 ZP6_4 RE_4
 have ZP7_5 : Hid (BF P7 #[.int .i64 tm2, .int .i64 vt2, .slice (some ⟨be, 0, none⟩) n2 vc2] (u4.alloc (.cells #[.int .i64 tm2, .int .i64 vt2, .slice (some ⟨be, 0, none⟩) n2 vc2] 25))) := by show BF _ _ _; rw [hP]; exact BF.new u4 _ _
 have HPq := hide hP
 clear hP
 have kkn := (BF.new u4 #[.int .i64 tm2, .int .i64 vt2, .slice (some ⟨be, 0, none⟩) n2 vc2] 25).S
 have kk0 := (unhide ZP5_5).S
 have kk1 := (unhide ZP6_5).S
 go_wp2_with fail
 clear kk0 kk1
 rw [← unhide HPq]
 clear HPq kkn
 generalize (u4.alloc (.cells #[.int .i64 tm2, .int .i64 vt2, .slice (some ⟨be, 0, none⟩) n2 vc2] 25)) = u5 at B_5 ZP5_5 RA_5 ZP6_5 RE_5 ZP7_5 ⊢
 obtain ⟨L1, hL1⟩ : ∃ L, L = recsL 0 (-1) [] tm vt l := ⟨_, rfl⟩
 obtain ⟨L2, hL2⟩ : ∃ L, L = recsL tm vt l tm2 vt2 m := ⟨_, rfl⟩
 have HI1 : Hid (RecIs 0 (-1) [] tm vt l L1 0) := .inl ⟨state0, unhide HSA, hL1, rfl⟩
 have HI2 : Hid (RecIs tm vt l tm2 vt2 m L2 0) := .inl ⟨unhide HSA, unhide HSB, hL2, rfl⟩
 have h1l : L1.length ≤ 4 := by rw [hL1]; have := recsL_len 0 (-1) [] tm vt l; have := unhide HN; omega
 have h2l : L2.length ≤ 6 := by rw [hL2]; have := recsL_len tm vt l tm2 vt2 m; have := unhide HM; omega
 have HO1 : Hid (okR L1 ∧ rokB L1 = true) := by show _ ∧ _; rw [hL1]; exact recs_ok (unhide HSA)
 have HO2 : Hid (okR L2 ∧ rokB L2 = true) := by show _ ∧ _; rw [hL2]; exact recs_ok (unhide HSB)
 have HA1 : Hid (apAll (0, -1, []) L1 = some (tm, vt, l)) := by show _ = _; rw [hL1]; exact recs_lead state0 (unhide HSA) (by omega)
 have HA2 : Hid (apAll (tm, vt, l) L2 = some (tm2, vt2, m)) := by show _ = _; rw [hL2]; exact recs_lead (unhide HSA) (unhide HSB) (by omega)
 have HZ0 : Hid (∀ k (h : k < ([] : List Ent).length), ([] : List Ent)[k].2.size ≤ 1048576) := fun k h => absurd h (by simp)
 have HZA := hide (state_szs (unhide HSA)).1
 have HZB := hide (state_szs (unhide HSB)).1
 clear hL1 hL2
 refine (srecs 0 (-1) none 0 0 [] HN0 (by omega) HZ0 tm vt ba 0 vc n l HN (by omega) HZA L1 0 HI1 u5 (.inl rfl) (unhide RA_5)).mono ?_
 rintro e u6 ⟨v, rfl, ho, hb⟩
 obtain ⟨aA, cA, rfl, -⟩ := own_rowV ho
 have B_6 : Hid (Below w.heap.size w u6) := (unhide B_5).trans (hb.mono (unhide B_5).size)
 have ZP5_6 : Hid (BF P5 #[.int .i64 0, .int .i64 (-1), .slice none 0 0] u6) := (unhide ZP5_5).below hb
 have RA_6 : Hid (RowV u6 (some ⟨ba, 0, none⟩) (cE l)) := (unhide RA_5).below hb
 have ZP6_6 : Hid (BF P6 #[.int .i64 tm, .int .i64 vt, .slice (some ⟨ba, 0, none⟩) n vc] u6) := (unhide ZP6_5).below hb
 have RE_6 : Hid (RowV u6 (some ⟨be, 0, none⟩) (cE m)) := (unhide RE_5).below hb
 have ZP7_6 : Hid (BF P7 #[.int .i64 tm2, .int .i64 vt2, .slice (some ⟨be, 0, none⟩) n2 vc2] u6) := (unhide ZP7_5).below hb
 clear B_5 ZP5_5 RA_5 ZP6_5 RE_5 ZP7_5
 have SA_6 : Hid (RowV u6 aA (cS L1)) := row_at ho
 clear ho hb
 have kk0 := (unhide ZP6_6).S
 have kk1 := (unhide ZP7_6).S
 go_wp2_with fail
 clear kk0 kk1
 refine (srecs tm vt (some ⟨ba, 0, none⟩) vc n l HN (by omega) HZA tm2 vt2 be 0 vc2 n2 m HM (by omega) HZB L2 0 HI2 u6 (unhide RA_6) (unhide RE_6)).mono ?_
 rintro e u7 ⟨v, rfl, ho, hb⟩
 obtain ⟨aB, cB, rfl, -⟩ := own_rowV ho
 have B_7 : Hid (Below w.heap.size w u7) := (unhide B_6).trans (hb.mono (unhide B_6).size)
 have ZP5_7 : Hid (BF P5 #[.int .i64 0, .int .i64 (-1), .slice none 0 0] u7) := (unhide ZP5_6).below hb
 have RA_7 : Hid (RowV u7 (some ⟨ba, 0, none⟩) (cE l)) := (unhide RA_6).below hb
 have ZP6_7 : Hid (BF P6 #[.int .i64 tm, .int .i64 vt, .slice (some ⟨ba, 0, none⟩) n vc] u7) := (unhide ZP6_6).below hb
 have RE_7 : Hid (RowV u7 (some ⟨be, 0, none⟩) (cE m)) := (unhide RE_6).below hb
 have ZP7_7 : Hid (BF P7 #[.int .i64 tm2, .int .i64 vt2, .slice (some ⟨be, 0, none⟩) n2 vc2] u7) := (unhide ZP7_6).below hb
 have SA_7 : Hid (RowV u7 aA (cS L1)) := (unhide SA_6).below hb
 clear B_6 ZP5_6 RA_6 ZP6_6 RE_6 ZP7_6 SA_6
 have SB_7 : Hid (RowV u7 aB (cS L2)) := row_at ho
 clear ho hb
 obtain ⟨D1, hD1⟩ : ∃ D, D = wrD ⟨#[]⟩ L1 := ⟨_, rfl⟩
 have hd1 : D1.data.toList = wrL L1 := by rw [hD1]; unfold wrD; simp
 have hw1 : (wrL L1).length ≤ 5000 := wrL_le (unhide HO1).2 (by omega)
 have hw2 : (wrL L2).length ≤ 7000 := wrL_le (unhide HO2).2 (by omega)
 have hz1 : D1.size = (wrL L1).length := by rw [← hd1]; exact (sizeT D1).symm
 obtain ⟨D2, hD2⟩ : ∃ D, D = wrD D1 L2 := ⟨_, rfl⟩
 have hd2 : D2.data.toList = wrL (L1 ++ L2) := by rw [hD2]; unfold wrD; rw [wrL_app, ← hd1]
 have hz2 : D2.size = (wrL L1).length + (wrL L2).length := by rw [← List.length_append, ← wrL_app, ← hd2]; exact (sizeT D2).symm
 have HE0 : Hid ((⟨#[]⟩ : ByteArray).size ≤ maxLen) := by show _ ≤ _; decide
 have HM1 : Hid (D1.size ≤ maxLen) := by show _ ≤ _; unfold maxLen; omega
 have HM2 : Hid (D2.size ≤ maxLen) := by show _ ≤ _; unfold maxLen; omega
 have HW1 : Hid (WrIs ⟨#[]⟩ 0 L1 D1 0 0) := .inr (.inr (.inr (.inr ⟨by omega, by decide, (unhide HO1).2, by show 0 + _ ≤ _; omega, hD1, rfl, rfl⟩)))
 have hst1 : stoB D1 (D1.size : Int) = true := stoB_full (by omega)
 have hst2 : stoB D2 (D1.size : Int) = true := stoB_mk (by omega) (by omega) (by omega)
 have HY1 : Hid (SyncIs D1 0 D1 (D1.size : Int) 0) := .inl ⟨stoB_mk (by omega) (by omega) (by omega), rfl, rfl, rfl⟩
 have HW2 : Hid (WrIs D1 (D1.size : Int) L2 D2 (D1.size : Int) 0) := .inr (.inr (.inr (.inr ⟨by omega, hst1, (unhide HO2).2, by omega, hD2, rfl, rfl⟩)))
 have HS1L : Hid (∀ k (h : k < L1.length), L1[k].size ≤ 1048576) := fun k h => by have := ((unhide HO1).1 _ (List.getElem_mem h)).2; omega
 have HS2L : Hid (∀ k (h : k < L2.length), L2[k].size ≤ 1048576) := fun k h => by have := ((unhide HO2).1 _ (List.getElem_mem h)).2; omega
 have HD1L := hide hd1
 have HD2L := hide hd2
 have HZ1 := hide hz1
 have HZ2 := hide hz2
 have HT2 := hide hst2
 have HWL := hide (And.intro hw1 hw2)
 clear hD1 hD2 hd1 hd2 hz1 hz2 hst1 hst2 hw1 hw2
 go_wp2_with fail
 refine (iwrecs ⟨#[]⟩ 0 aA cA L1.length L1 rfl (by omega) HS1L HE0 D1 0 0 HW1 u7 ((unhide HSE).below (unhide B_7)) (unhide SA_7)).mono ?_
 rintro e u8 ⟨rfl, hb⟩
 have B_8 : Hid (Below w.heap.size w u8) := (unhide B_7).trans (hb.mono (unhide B_7).size)
 have ZP5_8 : Hid (BF P5 #[.int .i64 0, .int .i64 (-1), .slice none 0 0] u8) := (unhide ZP5_7).below hb
 have RA_8 : Hid (RowV u8 (some ⟨ba, 0, none⟩) (cE l)) := (unhide RA_7).below hb
 have ZP6_8 : Hid (BF P6 #[.int .i64 tm, .int .i64 vt, .slice (some ⟨ba, 0, none⟩) n vc] u8) := (unhide ZP6_7).below hb
 have RE_8 : Hid (RowV u8 (some ⟨be, 0, none⟩) (cE m)) := (unhide RE_7).below hb
 have ZP7_8 : Hid (BF P7 #[.int .i64 tm2, .int .i64 vt2, .slice (some ⟨be, 0, none⟩) n2 vc2] u8) := (unhide ZP7_7).below hb
 have SA_8 : Hid (RowV u8 aA (cS L1)) := (unhide SA_7).below hb
 have SB_8 : Hid (RowV u8 aB (cS L2)) := (unhide SB_7).below hb
 clear B_7 ZP5_7 RA_7 ZP6_7 RE_7 ZP7_7 SA_7 SB_7
 clear hb
 obtain ⟨P12, hP⟩ : ∃ P, P = u8.heap.size := ⟨_, rfl⟩
 have hP12 : u8.heap.size ≤ P12 := by omega
 have HP12 := hide hP12
 have D9 : Hid (Below u8.heap.size u8 (u8.alloc (.cells #[.string D1, .int .i64 0] 31))) := Go.Joins.below_alloc1 u8 _
 have Z9 : Hid (BF P12 #[.string D1, .int .i64 0] (u8.alloc (.cells #[.string D1, .int .i64 0] 31))) := by show BF _ _ _; rw [hP]; exact BF.new u8 _ _
 have kkn := (BF.new u8 #[.string D1, .int .i64 0] 31).S
 have HPq := hide hP
 clear hP hP12
 go_wp2_with fail
 rw [← unhide HPq]
 clear kkn
 generalize u8.alloc (.cells #[.string D1, .int .i64 0] 31) = u9 at D9 Z9 ⊢
 refine (isync D1 0 HM1 D1 (D1.size : Int) 0 HY1 u9).mono ?_
 rintro e u10 ⟨rfl, hb⟩
 have D10 := hide ((unhide D9).trans (hb.mono (unhide D9).size))
 have Z10 := hide ((unhide Z9).below hb)
 have D11 := hide (((unhide D10).setCell (p := ⟨P12, 0, none⟩) (by exact unhide HP12) (.string D1)).setCell (p := ⟨P12, 1, none⟩) (by exact unhide HP12) (.int .i64 (D1.size : Int)))
 have Z11 : Hid (BF P12 #[.string D1, .int .i64 (D1.size : Int)] ((u10.setCell ⟨P12, 0, none⟩ (.string D1)).setCell ⟨P12, 1, none⟩ (.int .i64 (D1.size : Int)))) := ((unhide Z10).set 0 (by simp) _).set 1 (by simp) _
 have k0 := (unhide Z10).S
 have k1 := (unhide Z10).F
 have k2 := (unhide Z11).S
 clear hb D9 Z9 HPq
 go_wp2_with fail
 clear k0 k1 k2 D10 Z10
 generalize (u10.setCell ⟨P12, 0, none⟩ (.string D1)).setCell ⟨P12, 1, none⟩ (.int .i64 (D1.size : Int)) = u11 at D11 Z11 ⊢
 have B_9 : Hid (Below w.heap.size w u11) := (unhide B_8).trans ((unhide D11).mono (unhide B_8).size)
 have ZP5_9 : Hid (BF P5 #[.int .i64 0, .int .i64 (-1), .slice none 0 0] u11) := (unhide ZP5_8).below (unhide D11)
 have RA_9 : Hid (RowV u11 (some ⟨ba, 0, none⟩) (cE l)) := (unhide RA_8).below (unhide D11)
 have ZP6_9 : Hid (BF P6 #[.int .i64 tm, .int .i64 vt, .slice (some ⟨ba, 0, none⟩) n vc] u11) := (unhide ZP6_8).below (unhide D11)
 have RE_9 : Hid (RowV u11 (some ⟨be, 0, none⟩) (cE m)) := (unhide RE_8).below (unhide D11)
 have ZP7_9 : Hid (BF P7 #[.int .i64 tm2, .int .i64 vt2, .slice (some ⟨be, 0, none⟩) n2 vc2] u11) := (unhide ZP7_8).below (unhide D11)
 have SA_9 : Hid (RowV u11 aA (cS L1)) := (unhide SA_8).below (unhide D11)
 have SB_9 : Hid (RowV u11 aB (cS L2)) := (unhide SB_8).below (unhide D11)
 clear B_8 ZP5_8 RA_8 ZP6_8 RE_8 ZP7_8 SA_8 SB_8
 refine (iwrecs D1 (D1.size : Int) aB cB L2.length L2 rfl (by omega) HS2L HM1 D2 (D1.size : Int) 0 HW2 u11 ((unhide HSE).below (unhide B_9)) (unhide SB_9)).mono ?_
 rintro e u12 ⟨rfl, hb⟩
 clear D11 Z11
 have B_10 : Hid (Below w.heap.size w u12) := (unhide B_9).trans (hb.mono (unhide B_9).size)
 have ZP5_10 : Hid (BF P5 #[.int .i64 0, .int .i64 (-1), .slice none 0 0] u12) := (unhide ZP5_9).below hb
 have RA_10 : Hid (RowV u12 (some ⟨ba, 0, none⟩) (cE l)) := (unhide RA_9).below hb
 have ZP6_10 : Hid (BF P6 #[.int .i64 tm, .int .i64 vt, .slice (some ⟨ba, 0, none⟩) n vc] u12) := (unhide ZP6_9).below hb
 have RE_10 : Hid (RowV u12 (some ⟨be, 0, none⟩) (cE m)) := (unhide RE_9).below hb
 have ZP7_10 : Hid (BF P7 #[.int .i64 tm2, .int .i64 vt2, .slice (some ⟨be, 0, none⟩) n2 vc2] u12) := (unhide ZP7_9).below hb
 have SA_10 : Hid (RowV u12 aA (cS L1)) := (unhide SA_9).below hb
 have SB_10 : Hid (RowV u12 aB (cS L2)) := (unhide SB_9).below hb
 clear B_9 ZP5_9 RA_9 ZP6_9 RE_9 ZP7_9 SA_9 SB_9
 clear hb
 clear ZP5_10
 clear ZP7_10
 clear SA_10
 clear RE_10
 obtain ⟨P15, hP⟩ : ∃ P, P = u12.heap.size := ⟨_, rfl⟩
 have B_11 : Hid (Below w.heap.size w (u12.alloc (.cells #[.string D2, .int .i64 (D1.size : Int)] 31))) := (unhide B_10).trans ((Go.Joins.below_alloc1 u12 (.cells #[.string D2, .int .i64 (D1.size : Int)] 31)).mono (unhide B_10).size)
 have RA_11 : Hid (RowV (u12.alloc (.cells #[.string D2, .int .i64 (D1.size : Int)] 31)) (some ⟨ba, 0, none⟩) (cE l)) := (unhide RA_10).below (Go.Joins.below_alloc1 u12 (.cells #[.string D2, .int .i64 (D1.size : Int)] 31))
 have ZP6_11 : Hid (BF P6 #[.int .i64 tm, .int .i64 vt, .slice (some ⟨ba, 0, none⟩) n vc] (u12.alloc (.cells #[.string D2, .int .i64 (D1.size : Int)] 31))) := (unhide ZP6_10).below (Go.Joins.below_alloc1 u12 (.cells #[.string D2, .int .i64 (D1.size : Int)] 31))
 have SB_11 : Hid (RowV (u12.alloc (.cells #[.string D2, .int .i64 (D1.size : Int)] 31)) aB (cS L2)) := (unhide SB_10).below (Go.Joins.below_alloc1 u12 (.cells #[.string D2, .int .i64 (D1.size : Int)] 31))
 clear B_10 RA_10 ZP6_10 SB_10
 have ZP15_11 : Hid (BF P15 #[.string D2, .int .i64 (D1.size : Int)] (u12.alloc (.cells #[.string D2, .int .i64 (D1.size : Int)] 31))) := by show BF _ _ _; rw [hP]; exact BF.new u12 _ _
 have HPq := hide hP
 clear hP
 have kkn := (BF.new u12 #[.string D2, .int .i64 (D1.size : Int)] 31).S
 go_wp2_with fail
 rw [← unhide HPq]
 clear HPq kkn
 generalize (u12.alloc (.cells #[.string D2, .int .i64 (D1.size : Int)] 31)) = u13 at B_11 RA_11 ZP6_11 SB_11 ZP15_11 ⊢
 obtain ⟨v, hv⟩ : ∃ v, v = atV l1 0 150 := ⟨_, rfl⟩
 have HV := hide hv
 obtain ⟨jK, hjK⟩ : ∃ jK, jK = keptN D2.size (D1.size : Int) (v : Int) := ⟨_, rfl⟩
 obtain ⟨X, hX⟩ : ∃ X, X = D2.extract 0 jK := ⟨_, rfl⟩
 have HCR : Hid (CrashIs D2 (D1.size : Int) (v : Int) X (jK : Int) 0) := .inl ⟨unhide HT2, by rw [← hjK]; exact hX, by rw [← hjK], rfl⟩
 have hKb : (wrL L1).length ≤ jK ∧ jK ≤ (wrL (L1 ++ L2)).length := by
  obtain ⟨M, N, -, -, -, e1, e2, e3, e4⟩ := kept_spec (a := D2.size) (s := (D1.size : Int)) (v : Int) (by omega) (by rw [unhide HZ1, unhide HZ2]; omega)
  rw [← hjK] at e3 e4
  have := unhide HZ1; have := unhide HZ2
  rw [wrL_app, List.length_append]
  omega
 have hXl : X.data.toList = (wrL (L1 ++ L2)).take jK := by rw [hX, ext_list, unhide HD2L]
 have hXs : X.size = jK := by rw [← sizeT, hXl, List.length_take]; omega
 obtain ⟨i0, hi0, htorn⟩ := torn (unhide HO1).1 (unhide HO2).1 hKb.1 hKb.2
 obtain ⟨f1, f2, f3, f4, f5⟩ := htorn X hXl
 obtain ⟨⟨tq, vq, lq⟩, hq1, hq2⟩ := apAll_take (unhide HA2) i0
 have hall : apAll (0, -1, []) (L1 ++ L2.take i0) = some (tq, vq, lq) := by rw [apAll_app _ _ _ _ (unhide HA1)]; exact hq1
 have hsq : stateB tq vq lq = true := apAll_right _ _ _ _ _ _ _ (unhide HSA) hq1
 have hwL := unhide HWL
 have hK6 : jK ≤ 12000 := by have := hKb.2; rw [wrL_app, List.length_append] at this; omega
 obtain ⟨D3, hD3⟩ : ∃ D, D = X.extract 0 (wrL (L1 ++ L2.take i0)).length := ⟨_, rfl⟩
 have hd3 : D3.data.toList = wrL (L1 ++ L2.take i0) := by rw [hD3, ext_list]; exact f5
 have hz3 : D3.size = (wrL (L1 ++ L2.take i0)).length := by rw [← hd3]; exact (sizeT D3).symm
 have hs3 : D3.size ≤ 60000 := by rw [hz3]; omega
 have HRV : Hid (RvIs X (jK : Int) tq vq lq D3 (D3.size : Int) 0) := rv_is (stoB_mk (by omega) (by omega) (by omega)) f1 (by rw [f2, hz3]) f3 hall (by rw [hz3]; exact hD3)
 have hok3 : okR (L1 ++ L2.take i0) := fun t ht => (List.mem_append.1 ht).elim ((unhide HO1).1 t) (fun h => (unhide HO2).1 t (List.mem_of_mem_take h))
 have hfr : frs D3.size D3.data.toList = (L1 ++ L2.take i0, D3.size, 0) := by
  have h := frs_wr (L1 ++ L2.take i0) [] D3.size hok3 (by rw [List.append_nil]; omega)
  rw [List.append_nil, frs_nil] at h
  rw [hd3, h, hz3]; simp
 have HRV2 : Hid (RvIs D3 (D3.size : Int) tq vq lq D3 (D3.size : Int) 0) := rv_is (stoB_full hs3) (by rw [hfr]) (by rw [hfr]) (by rw [hfr]; show ¬ (0 : Int) = 8; decide) hall (by
  refine barr_ext ?_
  rw [ext_list, List.take_of_length_le (by rw [sizeT]; exact Nat.le_refl _)])
 have HXM : Hid (X.size ≤ maxLen) := by show _ ≤ _; unfold maxLen; omega
 have H3M : Hid (D3.size ≤ maxLen) := by show _ ≤ _; unfold maxLen; omega
 have HST3 : Hid (true = stoB D3 (D3.size : Int)) := (stoB_full hs3).symm
 have HSQ := hide hsq
 have HQA := hide hq1
 have HI0 := hide hi0
 obtain ⟨nq, hnq⟩ : ∃ nq, lq.length = nq := ⟨_, rfl⟩
 have HNQ := hide hnq
 have hnq60 : nq ≤ 60 := by rw [← hnq]; exact (state_szs hsq).2
 have HZQ := hide (state_szs hsq).1
 clear hv hjK hX hKb hXl hXs htorn f1 f2 f3 f4 f5 hq1 hq2 hall hsq hwL hK6 hD3 hd3 hz3 hs3 hok3 hfr hnq hi0
 apply Code.wp_mono (Q := CutP _ (fun P17 v' => Hid (u13.heap.size ≤ P17) ∧ Hid (Below u13.heap.size u13 v') ∧ Hid (BF P17 #[.string X, .int .i64 (jK : Int)] v')))
 rotate_left 1
 ·refine wp_region_held_drew (S := fun w' => ∀ o, w'.cell? ⟨P15, o, none⟩ = (#[.string D2, .int .i64 (D1.size : Int)] : Array Value)[o]?) (by kernel_rfl) (unhide ZP15_11).S (fun hHeld => ?_)
  have E0 : Hid (Below u13.heap.size u13 u13.drew) := (Below.refl _ _).drew
  generalize u13.drew = v0 at E0 hHeld ⊢
  refine wtv 0 (oi := { dst := some 77, op := .load 31 (.tmp 15), type := 31, pos := "laws.go:737", after := #[], guard := none }) ?_
  refine wtv 1 (oi := { dst := some 78, op := .move (.tmp 1), type := 22, pos := "laws.go:737", after := #[], guard := none }) ?_
  refine wpAnyH_ready (rs := [2, 7]) (by kernel_rfl) (by simp) ?_
  refine AllReadyH.cons (o := oFtr0) rfl (fun K hK => ?_) (AllReadyH.cons (o := oFtr1) rfl (fun K hK => ?_) AllReadyH.nil)
  ·go_simp
   have T := latV a1 cap1 l1 0 150 v HV (unhide HS1b) (by decide) (by decide) (by decide) v0 ((unhide HRM).below ((unhide B_11).trans ((unhide E0).mono (unhide B_11).size)))
   change Calls _ _ #[_, .int .i64 0, .int .i64 150] _ _ at T
   refine T.mono ?_
   rintro e v1 ⟨rfl, hb⟩
   have E1 := hide ((unhide E0).trans (hb.mono (unhide E0).size))
   have hbx := hide hb
   clear hb T
   go_wp2_with fail
   refine hK.out _ _ ?_ (fun hHeld2 => ?_)
   ·exact ((unhide ZP15_11).below (unhide E1)).S
   clear hK K
   try simp only [Act.put, qqA, qqB, qqC]
   refine wpAnyH_ready (rs := [3, 7]) (by kernel_rfl) (by simp) ?_
   refine AllReadyH.cons (o := oFtr2) rfl (fun K hK => ?_) (AllReadyH.cons (o := oFtr1) rfl (fun K hK => ?_) AllReadyH.nil)
   ·go_simp
    refine (icrash D2 (D1.size : Int) (v : Int) HM2 X (jK : Int) 0 HCR v1).mono ?_
    rintro e v2 ⟨rfl, hb⟩
    have E2 := hide ((unhide E1).trans (hb.mono (unhide E1).size))
    clear hb
    go_wp2_with fail
    refine hK.out _ _ ?_ (fun hHeld3 => ?_)
    ·exact ((unhide ZP15_11).below (unhide E2)).S
    clear hK K
    try simp only [Act.put, qqA, qqB, qqC]
    refine wtv 4 (oi := oFtr3) ?_
    refine wtv 5 (oi := oFtr4) ?_
    refine wtv 6 (oi := oFtr5) ?_
    refine wpAnyH_ready (rs := [7]) (by kernel_rfl) (by simp) ?_
    refine AllReadyH.cons (o := oFtr1) rfl (fun K hK => ?_) AllReadyH.nil
    obtain ⟨P17, hP⟩ : ∃ P, P = v2.heap.size := ⟨_, rfl⟩
    have h17 : u13.heap.size ≤ P17 := by rw [hP]; exact (unhide E2).size
    have H17 := hide h17
    have E3 := hide ((unhide E2).trans ((Go.Joins.below_alloc1 v2 (.cells #[.string ⟨#[]⟩, .int .i64 0] 31)).mono (unhide E2).size))
    have M3 : Hid (BF P17 #[.string ⟨#[]⟩, .int .i64 0] (v2.alloc (.cells #[.string ⟨#[]⟩, .int .i64 0] 31))) := by show BF _ _ _; rw [hP]; exact BF.new v2 _ _
    go_simp
    rw [← hP]
    clear hP h17
    generalize v2.alloc (.cells #[.string ⟨#[]⟩, .int .i64 0] 31) = v3 at E3 M3 ⊢
    refine hK.out _ _ ?_ (fun hHeld7 => ?_)
    ·exact ((unhide ZP15_11).below (unhide E3)).S
    clear hK K
    try simp only [Act.put, qqA, qqB, qqC]
    refine wpAnyH_ready (rs := [8]) (by kernel_rfl) (by simp) ?_
    refine AllReadyH.cons (o := oFtr6) rfl (fun K hK => ?_) AllReadyH.nil
    have km := (unhide M3).S
    have kf := (unhide M3).F
    have E4 := hide (((unhide E3).setCell (p := ⟨P17, 0, none⟩) (by exact unhide H17) (.string X)).setCell (p := ⟨P17, 1, none⟩) (by exact unhide H17) (.int .i64 (jK : Int)))
    have M4 : Hid (BF P17 #[.string X, .int .i64 (jK : Int)] ((v3.setCell ⟨P17, 0, none⟩ (.string X)).setCell ⟨P17, 1, none⟩ (.int .i64 (jK : Int)))) := ((unhide M3).set 0 (by simp) _).set 1 (by simp) _
    go_simp
    clear km kf
    refine hK.out _ _ ?_ (fun hHeld8 => ?_)
    ·exact ((unhide ZP15_11).below (unhide E4)).S
    clear hK K
    try simp only [Act.put, qqA, qqB, qqC]
    refine wtv 9 (oi := oFtr7) ?_
    refine wpAnyH_done (by kernel_rfl) ?_ _
    exact ⟨P17, rfl, H17, E4, M4⟩
   ·obtain ⟨P17, hP⟩ : ∃ P, P = v1.heap.size := ⟨_, rfl⟩
    have h17 : u13.heap.size ≤ P17 := by rw [hP]; exact (unhide E1).size
    have H17 := hide h17
    have E2 := hide ((unhide E1).trans ((Go.Joins.below_alloc1 v1 (.cells #[.string ⟨#[]⟩, .int .i64 0] 31)).mono (unhide E1).size))
    have M2 : Hid (BF P17 #[.string ⟨#[]⟩, .int .i64 0] (v1.alloc (.cells #[.string ⟨#[]⟩, .int .i64 0] 31))) := by show BF _ _ _; rw [hP]; exact BF.new v1 _ _
    go_simp
    rw [← hP]
    clear hP h17
    generalize v1.alloc (.cells #[.string ⟨#[]⟩, .int .i64 0] 31) = v2 at E2 M2 ⊢
    refine hK.out _ _ ?_ (fun hHeld7 => ?_)
    ·exact ((unhide ZP15_11).below (unhide E2)).S
    clear hK K
    try simp only [Act.put, qqA, qqB, qqC]
    refine wpAnyH_ready (rs := [3]) (by kernel_rfl) (by simp) ?_
    refine AllReadyH.cons (o := oFtr2) rfl (fun K hK => ?_) AllReadyH.nil
    go_simp
    refine (icrash D2 (D1.size : Int) (v : Int) HM2 X (jK : Int) 0 HCR v2).mono ?_
    rintro e v3 ⟨rfl, hb⟩
    have E3 := hide ((unhide E2).trans (hb.mono (unhide E2).size))
    have M3 := hide ((unhide M2).below hb)
    clear hb
    go_wp2_with fail
    refine hK.out _ _ ?_ (fun hHeld3 => ?_)
    ·exact ((unhide ZP15_11).below (unhide E3)).S
    clear hK K
    try simp only [Act.put, qqA, qqB, qqC]
    refine wtv 4 (oi := oFtr3) ?_
    refine wtv 5 (oi := oFtr4) ?_
    refine wtv 6 (oi := oFtr5) ?_
    refine wpAnyH_ready (rs := [8]) (by kernel_rfl) (by simp) ?_
    refine AllReadyH.cons (o := oFtr6) rfl (fun K hK => ?_) AllReadyH.nil
    have km := (unhide M3).S
    have kf := (unhide M3).F
    have E4 := hide (((unhide E3).setCell (p := ⟨P17, 0, none⟩) (by exact unhide H17) (.string X)).setCell (p := ⟨P17, 1, none⟩) (by exact unhide H17) (.int .i64 (jK : Int)))
    have M4 : Hid (BF P17 #[.string X, .int .i64 (jK : Int)] ((v3.setCell ⟨P17, 0, none⟩ (.string X)).setCell ⟨P17, 1, none⟩ (.int .i64 (jK : Int)))) := ((unhide M3).set 0 (by simp) _).set 1 (by simp) _
    go_simp
    clear km kf
    refine hK.out _ _ ?_ (fun hHeld8 => ?_)
    ·exact ((unhide ZP15_11).below (unhide E4)).S
    clear hK K
    try simp only [Act.put, qqA, qqB, qqC]
    refine wtv 9 (oi := oFtr7) ?_
    refine wpAnyH_done (by kernel_rfl) ?_ _
    exact ⟨P17, rfl, H17, E4, M4⟩
  ·obtain ⟨P17, hP⟩ : ∃ P, P = v0.heap.size := ⟨_, rfl⟩
   have h17 : u13.heap.size ≤ P17 := by rw [hP]; exact (unhide E0).size
   have H17 := hide h17
   have E1 := hide ((unhide E0).trans ((Go.Joins.below_alloc1 v0 (.cells #[.string ⟨#[]⟩, .int .i64 0] 31)).mono (unhide E0).size))
   have M1 : Hid (BF P17 #[.string ⟨#[]⟩, .int .i64 0] (v0.alloc (.cells #[.string ⟨#[]⟩, .int .i64 0] 31))) := by show BF _ _ _; rw [hP]; exact BF.new v0 _ _
   go_simp
   rw [← hP]
   clear hP h17
   generalize v0.alloc (.cells #[.string ⟨#[]⟩, .int .i64 0] 31) = v1 at E1 M1 ⊢
   refine hK.out _ _ ?_ (fun hHeld7 => ?_)
   ·exact ((unhide ZP15_11).below (unhide E1)).S
   clear hK K
   try simp only [Act.put, qqA, qqB, qqC]
   refine wpAnyH_ready (rs := [2]) (by kernel_rfl) (by simp) ?_
   refine AllReadyH.cons (o := oFtr0) rfl (fun K hK => ?_) AllReadyH.nil
   go_simp
   have T := latV a1 cap1 l1 0 150 v HV (unhide HS1b) (by decide) (by decide) (by decide) v1 ((unhide HRM).below ((unhide B_11).trans ((unhide E1).mono (unhide B_11).size)))
   change Calls _ _ #[_, .int .i64 0, .int .i64 150] _ _ at T
   refine T.mono ?_
   rintro e v2 ⟨rfl, hb⟩
   have E2 := hide ((unhide E1).trans (hb.mono (unhide E1).size))
   have M2 := hide ((unhide M1).below hb)
   have hbx := hide hb
   clear hb T
   go_wp2_with fail
   refine hK.out _ _ ?_ (fun hHeld2 => ?_)
   ·exact ((unhide ZP15_11).below (unhide E2)).S
   clear hK K
   try simp only [Act.put, qqA, qqB, qqC]
   refine wpAnyH_ready (rs := [3]) (by kernel_rfl) (by simp) ?_
   refine AllReadyH.cons (o := oFtr2) rfl (fun K hK => ?_) AllReadyH.nil
   go_simp
   refine (icrash D2 (D1.size : Int) (v : Int) HM2 X (jK : Int) 0 HCR v2).mono ?_
   rintro e v3 ⟨rfl, hb⟩
   have E3 := hide ((unhide E2).trans (hb.mono (unhide E2).size))
   have M3 := hide ((unhide M2).below hb)
   clear hb
   go_wp2_with fail
   refine hK.out _ _ ?_ (fun hHeld3 => ?_)
   ·exact ((unhide ZP15_11).below (unhide E3)).S
   clear hK K
   try simp only [Act.put, qqA, qqB, qqC]
   refine wtv 4 (oi := oFtr3) ?_
   refine wtv 5 (oi := oFtr4) ?_
   refine wtv 6 (oi := oFtr5) ?_
   refine wpAnyH_ready (rs := [8]) (by kernel_rfl) (by simp) ?_
   refine AllReadyH.cons (o := oFtr6) rfl (fun K hK => ?_) AllReadyH.nil
   have km := (unhide M3).S
   have kf := (unhide M3).F
   have E4 := hide (((unhide E3).setCell (p := ⟨P17, 0, none⟩) (by exact unhide H17) (.string X)).setCell (p := ⟨P17, 1, none⟩) (by exact unhide H17) (.int .i64 (jK : Int)))
   have M4 : Hid (BF P17 #[.string X, .int .i64 (jK : Int)] ((v3.setCell ⟨P17, 0, none⟩ (.string X)).setCell ⟨P17, 1, none⟩ (.int .i64 (jK : Int)))) := ((unhide M3).set 0 (by simp) _).set 1 (by simp) _
   go_simp
   clear km kf
   refine hK.out _ _ ?_ (fun hHeld8 => ?_)
   ·exact ((unhide ZP15_11).below (unhide E4)).S
   clear hK K
   try simp only [Act.put, qqA, qqB, qqC]
   refine wtv 9 (oi := oFtr7) ?_
   refine wpAnyH_done (by kernel_rfl) ?_ _
   exact ⟨P17, rfl, H17, E4, M4⟩
 intro x a' u14 h
 cases x
 all_goals try exact False.elim h
 obtain ⟨P17, rfl, H17, DX, ZX⟩ := h
 have B_12 : Hid (Below w.heap.size w u14) := (unhide B_11).trans ((unhide DX).mono (unhide B_11).size)
 have RA_12 : Hid (RowV u14 (some ⟨ba, 0, none⟩) (cE l)) := (unhide RA_11).below (unhide DX)
 have ZP6_12 : Hid (BF P6 #[.int .i64 tm, .int .i64 vt, .slice (some ⟨ba, 0, none⟩) n vc] u14) := (unhide ZP6_11).below (unhide DX)
 have SB_12 : Hid (RowV u14 aB (cS L2)) := (unhide SB_11).below (unhide DX)
 have ZP15_12 : Hid (BF P15 #[.string D2, .int .i64 (D1.size : Int)] u14) := (unhide ZP15_11).below (unhide DX)
 clear B_11 RA_11 ZP6_11 SB_11 ZP15_11
 have Z17_12 : Hid (BF P17 #[.string X, .int .i64 (jK : Int)] u14) := ZX
 clear DX ZX H17
 clear ZP15_12
 have kk0 := (unhide Z17_12).S
 go_wp2_with fail
 clear kk0
 refine (irecov X (jK : Int) HXM tq vq lq nq D3 (D3.size : Int) 0 HRV HNQ u14 ((unhide HE).below (unhide B_12)) ((unhide HX).below (unhide B_12)) ((unhide HSE).below (unhide B_12)) HQ1 HQ2).mono ?_
 rintro e u15 ⟨vv, rfl, ho, hb⟩
 obtain ⟨aq, cq, rfl, -⟩ := ownZ_rowV ho
 have B_13 : Hid (Below w.heap.size w u15) := (unhide B_12).trans (hb.mono (unhide B_12).size)
 have RA_13 : Hid (RowV u15 (some ⟨ba, 0, none⟩) (cE l)) := (unhide RA_12).below hb
 have ZP6_13 : Hid (BF P6 #[.int .i64 tm, .int .i64 vt, .slice (some ⟨ba, 0, none⟩) n vc] u15) := (unhide ZP6_12).below hb
 have SB_13 : Hid (RowV u15 aB (cS L2)) := (unhide SB_12).below hb
 have Z17_13 : Hid (BF P17 #[.string X, .int .i64 (jK : Int)] u15) := (unhide Z17_12).below hb
 clear B_12 RA_12 ZP6_12 SB_12 Z17_12
 have RQ_13 : Hid (RowV u15 aq (cE lq)) := rowZ_at ho
 clear ho hb
 clear Z17_13
 obtain ⟨P19, hPa⟩ : ∃ P, P = u15.heap.size := ⟨_, rfl⟩
 obtain ⟨P20, hPb⟩ : ∃ P, P = u15.heap.size + 1 := ⟨_, rfl⟩
 have hsz : (u15.alloc (.cells #[.int .i64 tq, .int .i64 vq, .slice aq nq cq] 25)).heap.size = P20 := by rw [hPb]; simp
 have B_14 : Hid (Below w.heap.size w ((u15.alloc (.cells #[.int .i64 tq, .int .i64 vq, .slice aq nq cq] 25)).alloc (.cells #[.string D3, .int .i64 (D3.size : Int)] 31))) := (unhide B_13).trans ((Go.Joins.below_alloc2 u15 (.cells #[.int .i64 tq, .int .i64 vq, .slice aq nq cq] 25) (.cells #[.string D3, .int .i64 (D3.size : Int)] 31)).mono (unhide B_13).size)
 have RA_14 : Hid (RowV ((u15.alloc (.cells #[.int .i64 tq, .int .i64 vq, .slice aq nq cq] 25)).alloc (.cells #[.string D3, .int .i64 (D3.size : Int)] 31)) (some ⟨ba, 0, none⟩) (cE l)) := (unhide RA_13).below (Go.Joins.below_alloc2 u15 (.cells #[.int .i64 tq, .int .i64 vq, .slice aq nq cq] 25) (.cells #[.string D3, .int .i64 (D3.size : Int)] 31))
 have ZP6_14 : Hid (BF P6 #[.int .i64 tm, .int .i64 vt, .slice (some ⟨ba, 0, none⟩) n vc] ((u15.alloc (.cells #[.int .i64 tq, .int .i64 vq, .slice aq nq cq] 25)).alloc (.cells #[.string D3, .int .i64 (D3.size : Int)] 31))) := (unhide ZP6_13).below (Go.Joins.below_alloc2 u15 (.cells #[.int .i64 tq, .int .i64 vq, .slice aq nq cq] 25) (.cells #[.string D3, .int .i64 (D3.size : Int)] 31))
 have SB_14 : Hid (RowV ((u15.alloc (.cells #[.int .i64 tq, .int .i64 vq, .slice aq nq cq] 25)).alloc (.cells #[.string D3, .int .i64 (D3.size : Int)] 31)) aB (cS L2)) := (unhide SB_13).below (Go.Joins.below_alloc2 u15 (.cells #[.int .i64 tq, .int .i64 vq, .slice aq nq cq] 25) (.cells #[.string D3, .int .i64 (D3.size : Int)] 31))
 have RQ_14 : Hid (RowV ((u15.alloc (.cells #[.int .i64 tq, .int .i64 vq, .slice aq nq cq] 25)).alloc (.cells #[.string D3, .int .i64 (D3.size : Int)] 31)) aq (cE lq)) := (unhide RQ_13).below (Go.Joins.below_alloc2 u15 (.cells #[.int .i64 tq, .int .i64 vq, .slice aq nq cq] 25) (.cells #[.string D3, .int .i64 (D3.size : Int)] 31))
 clear B_13 RA_13 ZP6_13 SB_13 RQ_13
 have ZP19_14 : Hid (BF P19 #[.int .i64 tq, .int .i64 vq, .slice aq nq cq] ((u15.alloc (.cells #[.int .i64 tq, .int .i64 vq, .slice aq nq cq] 25)).alloc (.cells #[.string D3, .int .i64 (D3.size : Int)] 31))) := by show BF _ _ _; rw [hPa]; exact (BF.new u15 _ _).alloc _
 have ZP20_14 : Hid (BF P20 #[.string D3, .int .i64 (D3.size : Int)] ((u15.alloc (.cells #[.int .i64 tq, .int .i64 vq, .slice aq nq cq] 25)).alloc (.cells #[.string D3, .int .i64 (D3.size : Int)] 31))) := by show BF _ _ _; rw [← hsz]; exact BF.new _ _ _
 have ka := (unhide ZP19_14).S
 have kb := (unhide ZP20_14).S
 rw [hPa] at ka
 rw [hPb] at kb
 have HPa := hide hPa
 have HPb := hide hPb
 clear hPa hPb hsz
 go_wp2_with fail
 rw [← unhide HPb, ← unhide HPa]
 clear ka kb HPa HPb
 generalize ((u15.alloc (.cells #[.int .i64 tq, .int .i64 vq, .slice aq nq cq] 25)).alloc (.cells #[.string D3, .int .i64 (D3.size : Int)] 31)) = u16 at B_14 RA_14 ZP6_14 SB_14 RQ_14 ZP19_14 ZP20_14 ⊢
 refine (istoreok D3 (D3.size : Int) H3M true HST3 u16).mono ?_
 rintro e u17 ⟨rfl, hb⟩
 have B_15 : Hid (Below w.heap.size w u17) := (unhide B_14).trans (hb.mono (unhide B_14).size)
 have RA_15 : Hid (RowV u17 (some ⟨ba, 0, none⟩) (cE l)) := (unhide RA_14).below hb
 have ZP6_15 : Hid (BF P6 #[.int .i64 tm, .int .i64 vt, .slice (some ⟨ba, 0, none⟩) n vc] u17) := (unhide ZP6_14).below hb
 have SB_15 : Hid (RowV u17 aB (cS L2)) := (unhide SB_14).below hb
 have RQ_15 : Hid (RowV u17 aq (cE lq)) := (unhide RQ_14).below hb
 have ZP19_15 : Hid (BF P19 #[.int .i64 tq, .int .i64 vq, .slice aq nq cq] u17) := (unhide ZP19_14).below hb
 have ZP20_15 : Hid (BF P20 #[.string D3, .int .i64 (D3.size : Int)] u17) := (unhide ZP20_14).below hb
 clear B_14 RA_14 ZP6_14 SB_14 RQ_14 ZP19_14 ZP20_14
 clear hb
 obtain ⟨P23, hP⟩ : ∃ P, P = u17.heap.size := ⟨_, rfl⟩
 have EX0 : Hid (Below u17.heap.size u17 (u17.alloc (.cells #[.int .i64 tm, .int .i64 vt, .slice (some ⟨ba, 0, none⟩) n vc] 25))) := Go.Joins.below_alloc1 u17 _
 have Z23_0 : Hid (BF P23 #[.int .i64 tm, .int .i64 vt, .slice (some ⟨ba, 0, none⟩) n vc] (u17.alloc (.cells #[.int .i64 tm, .int .i64 vt, .slice (some ⟨ba, 0, none⟩) n vc] 25))) := by show BF _ _ _; rw [hP]; exact BF.new u17 _ _
 have RN_0 := hide ((unhide RA_15).below (Go.Joins.below_alloc1 u17 (.cells #[.int .i64 tm, .int .i64 vt, .slice (some ⟨ba, 0, none⟩) n vc] 25)))
 have h23 : u17.heap.size ≤ P23 := by omega
 have H23 := hide h23
 have HP23 := hide hP
 have nn3 : ((D3.size : Int) != (D3.size : Int)) = false := by simp
 clear hP h23
 have kk0 := (unhide ZP20_15).S
 have kk1 := (unhide ZP6_15).S
 go_wp2_with fail
 clear kk0 kk1
 rw [← unhide HP23]
 clear nn3 HP23
 generalize u17.alloc (.cells #[.int .i64 tm, .int .i64 vt, .slice (some ⟨ba, 0, none⟩) n vc] 25) = u18 at EX0 Z23_0 RN_0 ⊢
 have HAP0 : Hid (apAll (tm, vt, l) (L2.take 0) = some (tm, vt, l)) := rfl
 go_loopw [22, 24] (fun f i wr => ∃ (k : Nat) (fb : Bool) (tmn vtn : Int) (an : Option Addr) (nn cn : Nat) (ln : List Ent), k ≤ L2.length + 1 ∧ f = .bool fb ∧ i = .int .i64 (k : Int) ∧ (i0 < k → fb = true) ∧ Hid (ln.length = nn) ∧ Hid (stateB tmn vtn ln = true) ∧ Hid (apAll (tm, vt, l) (L2.take k) = some (tmn, vtn, ln)) ∧ Hid (Below u17.heap.size u17 wr) ∧ Hid (BF P23 #[.int .i64 tmn, .int .i64 vtn, .slice an nn cn] wr) ∧ Hid (RowV wr an (cE ln))) (fun _ i _ => L2.length + 1 - (intOf i).toNat)
 case atStart => exact ⟨0, false, tm, vt, some ⟨ba, 0, none⟩, n, vc, l, Nat.zero_le _, rfl, rfl, fun h => absurd h (by omega), HN, HSA, HAP0, EX0, Z23_0, RN_0⟩
 case round =>
  clear EX0 Z23_0 RN_0 HAP0
  obtain ⟨k, fb, tmn, vtn, an, nn, cn, ln, hk, rfl, rfl, hfb, HNN, HSN, HAP, EX, Z23, RN⟩ := hrel
  have k19 := ((unhide ZP19_15).below (unhide EX)).S
  have k23 := (unhide Z23).S
  have hn60 : nn ≤ 60 := by have := (state_szs (unhide HSN)).2; have := unhide HNN; omega
  have HZN := hide (state_szs (unhide HSN)).1
  by_cases hlt : k ≤ L2.length
  ·have hlt' : (k : Int) ≤ (L2.length : Int) := by omega
   go_wp2_with fail
   clear k19 k23
   obtain ⟨R, hR⟩ : ∃ R : Bool, R = decide (tq = tmn ∧ vq = vtn ∧ lq = ln) := ⟨_, rfl⟩
   have HIS : Hid (SameIs tq vq lq tmn vtn ln R 0) := .inl ⟨unhide HSQ, unhide HSN, hR, rfl⟩
   have hfr : i0 < k + 1 → fb = true ∨ R = true := by
    intro h
    by_cases e : i0 < k
    ·exact .inl (hfb e)
    ·right
     obtain rfl : i0 = k := by omega
     have h1 := (unhide HQA).symm.trans (unhide HAP)
     injection h1 with h1; injection h1 with e1 h1; injection h1 with e2 e3
     rw [hR]; exact decide_eq_true ⟨e1, e2, e3⟩
   clear hR hfb
   refine (isame tq vq aq cq nq lq HNQ (by omega) HZQ tmn vtn an cn nn ln HNN (by omega) HZN R 0 HIS wr ((unhide RQ_15).below (unhide EX)) (unhide RN)).mono ?_
   rintro e wa ⟨rfl, hb⟩
   have EX1 := hide ((unhide EX).trans (hb.mono (unhide EX).size))
   have Z1 := hide ((unhide Z23).below hb)
   have RN1 := hide ((unhide RN).below hb)
   clear hb EX Z23 RN HIS
   by_cases hlt2 : k < L2.length
   ·have hlt2' : (k : Int) < (L2.length : Int) := by omega
    have hlt0 : (0 : Int) ≤ (k : Int) := by omega
    obtain ⟨ta, tb, tc, hi1, hi2, hi3⟩ := ap_step1 (unhide HA2) (unhide HAP) hlt2 (unhide HSN) ((unhide HO2).1 _ (List.getElem_mem hlt2)).2
    obtain ⟨t, ht⟩ : ∃ t, t = L2[k] := ⟨_, rfl⟩
    have htz : t.size ≤ 65536 := by rw [ht]; exact ((unhide HO2).1 _ (List.getElem_mem hlt2)).2
    rw [← ht] at hi1
    have HIT := hide hi1
    have HSC := hide hi2
    have HAC := hide hi3
    obtain ⟨nc, hnc⟩ : ∃ nc, tc.length = nc := ⟨_, rfl⟩
    have HNC := hide hnc
    have hc60 : nc ≤ 60 := by rw [← hnc]; exact (state_szs hi2).2
    have hSB := (unhide SB_15).below (unhide EX1)
    obtain ⟨bL, oL, haL, hbL, hcL⟩ := hSB.at (by rw [cS_len]; omega)
    subst haL
    have xk : wa.cell? ⟨bL, oL + k, none⟩ = some (.string t) := by rw [ht]; exact hcL k _ (cS_at L2 k hlt2)
    have HTK := hide ht
    clear hi1 hi2 hi3 hnc hSB hbL hcL ht
    cases fb with
    | false =>
     cases R with
     | false =>
      go_wp2_with fail
      refine wp_region_held_drew (S := fun w' => w'.cell? ⟨bL, oL + k, none⟩ = some (.string t)) (by kernel_rfl) xk (fun hHeld => ?_)
      have EX2 := hide (unhide EX1).drew
      have Z2 := hide (unhide Z1).drew
      have RN2 := hide ((unhide RN1).below ((Below.refl wa.heap.size wa).drew))
      clear EX1 Z1 RN1 xk
      generalize wa.drew = v0 at EX2 Z2 RN2 hHeld ⊢
      refine wtv 1 (oi := oFtr8) ?_
      refine wtv 2 (oi := oFtr9) ?_
      refine wtv 3 (oi := oFtr10) ?_
      refine wtv 4 (oi := oFtr11) ?_
      refine wpAnyH_ready (rs := [0]) (by kernel_rfl) (by simp) ?_
      refine AllReadyH.cons (o := oFtr12) rfl (fun K hK => ?_) AllReadyH.nil
      have kz := (unhide Z2).S
      go_simp
      refine hK.out _ _ ?_ (fun hHeld0 => ?_)
      ·exact rowS_cell ((unhide SB_15).below (unhide EX2)) hlt2 (unhide HTK)
      clear hK K
      try simp only [Act.put, qqA, qqB, qqC]
      refine wpAnyH_ready (rs := [5]) (by kernel_rfl) (by simp) ?_
      refine AllReadyH.cons (o := oFtr13) rfl (fun K hK => ?_) AllReadyH.nil
      clear kz
      go_simp
      refine (sapp tmn vtn an cn nn ln HNN (by omega) HZN t t.size rfl (by omega) ta tb tc nc 0 HIT HNC (by show _ ≤ _; omega) v0 (unhide RN2)).mono ?_
      rintro e v1 ⟨vv, rfl, ho, hb⟩
      obtain ⟨an2, cn2, rfl, -⟩ := ownZ_rowV ho
      have h5 : P23 < v0.heap.size := (unhide Z2).lt
      have EX3 := hide ((unhide EX2).trans (hb.mono (unhide EX2).size))
      have Z3 := hide ((unhide Z2).below hb)
      have ON := hide (Go.Joins.ownsRow_le ho (show P23 + 1 ≤ _ by omega))
      clear ho hb EX2 Z2 RN2 h5
      go_wp2_with fail
      refine hK.out _ _ ?_ (fun hHeld5 => ?_)
      ·exact rowS_cell ((unhide SB_15).below (unhide EX3)) hlt2 (unhide HTK)
      clear hK K
      try simp only [Act.put, qqA, qqB, qqC]
      refine wtv 6 (oi := oFtr14) ?_
      refine wtv 7 (oi := oFtr15) ?_
      refine wtv 8 (oi := oFtr16) ?_
      refine wpAnyH_ready (rs := [9]) (by kernel_rfl) (by simp) ?_
      refine AllReadyH.cons (o := oFtr17) rfl (fun K hK => ?_) AllReadyH.nil
      have km := (unhide Z3).S
      have kf := (unhide Z3).F
      have EX4 : Hid (Below u17.heap.size u17 (((v1.setCell ⟨P23, 0, none⟩ (.int .i64 ta)).setCell ⟨P23, 1, none⟩ (.int .i64 tb)).setCell ⟨P23, 2, none⟩ (.slice an2 nc cn2))) := (((unhide EX3).setCell (p := ⟨P23, 0, none⟩) (by exact unhide H23) _).setCell (p := ⟨P23, 1, none⟩) (by exact unhide H23) _).setCell (p := ⟨P23, 2, none⟩) (by exact unhide H23) _
      have Z4 : Hid (BF P23 #[.int .i64 ta, .int .i64 tb, .slice an2 nc cn2] (((v1.setCell ⟨P23, 0, none⟩ (.int .i64 ta)).setCell ⟨P23, 1, none⟩ (.int .i64 tb)).setCell ⟨P23, 2, none⟩ (.slice an2 nc cn2))) := (((unhide Z3).set 0 (by simp) _).set 1 (by simp) _).set 2 (by simp) _
      have RN4 : Hid (RowV (((v1.setCell ⟨P23, 0, none⟩ (.int .i64 ta)).setCell ⟨P23, 1, none⟩ (.int .i64 tb)).setCell ⟨P23, 2, none⟩ (.slice an2 nc cn2)) an2 (cE tc)) := by
       refine rowZ_at (base := P23 + 1) (e := 62) (z := 2) (n := nc) (cap := cn2) ?_
       iterate 3 refine ownsRow_setCell_below ?_ (by exact Nat.lt_succ_self _) _
       exact unhide ON
      go_simp
      clear km kf EX3 Z3 ON
      refine hK.out _ _ ?_ (fun hHeld9 => ?_)
      ·exact rowS_cell ((unhide SB_15).below (unhide EX4)) hlt2 (unhide HTK)
      clear hK K
      try simp only [Act.put, qqA, qqB, qqC]
      refine wpAnyH_done (by kernel_rfl) ?_ _
      go_wp2_with fail
      go_roundw
      case rel => exact ⟨k + 1, false, ta, tb, an2, nc, cn2, tc, by omega, rfl, by go_num, fun h => (hfr h).elim (fun e => by cases e) (fun e => by cases e), HNC, HSC, HAC, EX4, Z4, RN4⟩
      case measure => simp [intOf]; omega
     | true =>
      go_wp2_with fail
      refine wp_region_held_drew (S := fun w' => w'.cell? ⟨bL, oL + k, none⟩ = some (.string t)) (by kernel_rfl) xk (fun hHeld => ?_)
      have EX2 := hide (unhide EX1).drew
      have Z2 := hide (unhide Z1).drew
      have RN2 := hide ((unhide RN1).below ((Below.refl wa.heap.size wa).drew))
      clear EX1 Z1 RN1 xk
      generalize wa.drew = v0 at EX2 Z2 RN2 hHeld ⊢
      refine wtv 1 (oi := oFtr8) ?_
      refine wtv 2 (oi := oFtr9) ?_
      refine wtv 3 (oi := oFtr10) ?_
      refine wtv 4 (oi := oFtr11) ?_
      refine wpAnyH_ready (rs := [0]) (by kernel_rfl) (by simp) ?_
      refine AllReadyH.cons (o := oFtr12) rfl (fun K hK => ?_) AllReadyH.nil
      have kz := (unhide Z2).S
      go_simp
      refine hK.out _ _ ?_ (fun hHeld0 => ?_)
      ·exact rowS_cell ((unhide SB_15).below (unhide EX2)) hlt2 (unhide HTK)
      clear hK K
      try simp only [Act.put, qqA, qqB, qqC]
      refine wpAnyH_ready (rs := [5]) (by kernel_rfl) (by simp) ?_
      refine AllReadyH.cons (o := oFtr13) rfl (fun K hK => ?_) AllReadyH.nil
      clear kz
      go_simp
      refine (sapp tmn vtn an cn nn ln HNN (by omega) HZN t t.size rfl (by omega) ta tb tc nc 0 HIT HNC (by show _ ≤ _; omega) v0 (unhide RN2)).mono ?_
      rintro e v1 ⟨vv, rfl, ho, hb⟩
      obtain ⟨an2, cn2, rfl, -⟩ := ownZ_rowV ho
      have h5 : P23 < v0.heap.size := (unhide Z2).lt
      have EX3 := hide ((unhide EX2).trans (hb.mono (unhide EX2).size))
      have Z3 := hide ((unhide Z2).below hb)
      have ON := hide (Go.Joins.ownsRow_le ho (show P23 + 1 ≤ _ by omega))
      clear ho hb EX2 Z2 RN2 h5
      go_wp2_with fail
      refine hK.out _ _ ?_ (fun hHeld5 => ?_)
      ·exact rowS_cell ((unhide SB_15).below (unhide EX3)) hlt2 (unhide HTK)
      clear hK K
      try simp only [Act.put, qqA, qqB, qqC]
      refine wtv 6 (oi := oFtr14) ?_
      refine wtv 7 (oi := oFtr15) ?_
      refine wtv 8 (oi := oFtr16) ?_
      refine wpAnyH_ready (rs := [9]) (by kernel_rfl) (by simp) ?_
      refine AllReadyH.cons (o := oFtr17) rfl (fun K hK => ?_) AllReadyH.nil
      have km := (unhide Z3).S
      have kf := (unhide Z3).F
      have EX4 : Hid (Below u17.heap.size u17 (((v1.setCell ⟨P23, 0, none⟩ (.int .i64 ta)).setCell ⟨P23, 1, none⟩ (.int .i64 tb)).setCell ⟨P23, 2, none⟩ (.slice an2 nc cn2))) := (((unhide EX3).setCell (p := ⟨P23, 0, none⟩) (by exact unhide H23) _).setCell (p := ⟨P23, 1, none⟩) (by exact unhide H23) _).setCell (p := ⟨P23, 2, none⟩) (by exact unhide H23) _
      have Z4 : Hid (BF P23 #[.int .i64 ta, .int .i64 tb, .slice an2 nc cn2] (((v1.setCell ⟨P23, 0, none⟩ (.int .i64 ta)).setCell ⟨P23, 1, none⟩ (.int .i64 tb)).setCell ⟨P23, 2, none⟩ (.slice an2 nc cn2))) := (((unhide Z3).set 0 (by simp) _).set 1 (by simp) _).set 2 (by simp) _
      have RN4 : Hid (RowV (((v1.setCell ⟨P23, 0, none⟩ (.int .i64 ta)).setCell ⟨P23, 1, none⟩ (.int .i64 tb)).setCell ⟨P23, 2, none⟩ (.slice an2 nc cn2)) an2 (cE tc)) := by
       refine rowZ_at (base := P23 + 1) (e := 62) (z := 2) (n := nc) (cap := cn2) ?_
       iterate 3 refine ownsRow_setCell_below ?_ (by exact Nat.lt_succ_self _) _
       exact unhide ON
      go_simp
      clear km kf EX3 Z3 ON
      refine hK.out _ _ ?_ (fun hHeld9 => ?_)
      ·exact rowS_cell ((unhide SB_15).below (unhide EX4)) hlt2 (unhide HTK)
      clear hK K
      try simp only [Act.put, qqA, qqB, qqC]
      refine wpAnyH_done (by kernel_rfl) ?_ _
      go_wp2_with fail
      go_roundw
      case rel => exact ⟨k + 1, true, ta, tb, an2, nc, cn2, tc, by omega, rfl, by go_num, fun _ => rfl, HNC, HSC, HAC, EX4, Z4, RN4⟩
      case measure => simp [intOf]; omega
    | true =>
     cases R with
     | false =>
      go_wp2_with fail
      refine wp_region_held_drew (S := fun w' => w'.cell? ⟨bL, oL + k, none⟩ = some (.string t)) (by kernel_rfl) xk (fun hHeld => ?_)
      have EX2 := hide (unhide EX1).drew
      have Z2 := hide (unhide Z1).drew
      have RN2 := hide ((unhide RN1).below ((Below.refl wa.heap.size wa).drew))
      clear EX1 Z1 RN1 xk
      generalize wa.drew = v0 at EX2 Z2 RN2 hHeld ⊢
      refine wtv 1 (oi := oFtr8) ?_
      refine wtv 2 (oi := oFtr9) ?_
      refine wtv 3 (oi := oFtr10) ?_
      refine wtv 4 (oi := oFtr11) ?_
      refine wpAnyH_ready (rs := [0]) (by kernel_rfl) (by simp) ?_
      refine AllReadyH.cons (o := oFtr12) rfl (fun K hK => ?_) AllReadyH.nil
      have kz := (unhide Z2).S
      go_simp
      refine hK.out _ _ ?_ (fun hHeld0 => ?_)
      ·exact rowS_cell ((unhide SB_15).below (unhide EX2)) hlt2 (unhide HTK)
      clear hK K
      try simp only [Act.put, qqA, qqB, qqC]
      refine wpAnyH_ready (rs := [5]) (by kernel_rfl) (by simp) ?_
      refine AllReadyH.cons (o := oFtr13) rfl (fun K hK => ?_) AllReadyH.nil
      clear kz
      go_simp
      refine (sapp tmn vtn an cn nn ln HNN (by omega) HZN t t.size rfl (by omega) ta tb tc nc 0 HIT HNC (by show _ ≤ _; omega) v0 (unhide RN2)).mono ?_
      rintro e v1 ⟨vv, rfl, ho, hb⟩
      obtain ⟨an2, cn2, rfl, -⟩ := ownZ_rowV ho
      have h5 : P23 < v0.heap.size := (unhide Z2).lt
      have EX3 := hide ((unhide EX2).trans (hb.mono (unhide EX2).size))
      have Z3 := hide ((unhide Z2).below hb)
      have ON := hide (Go.Joins.ownsRow_le ho (show P23 + 1 ≤ _ by omega))
      clear ho hb EX2 Z2 RN2 h5
      go_wp2_with fail
      refine hK.out _ _ ?_ (fun hHeld5 => ?_)
      ·exact rowS_cell ((unhide SB_15).below (unhide EX3)) hlt2 (unhide HTK)
      clear hK K
      try simp only [Act.put, qqA, qqB, qqC]
      refine wtv 6 (oi := oFtr14) ?_
      refine wtv 7 (oi := oFtr15) ?_
      refine wtv 8 (oi := oFtr16) ?_
      refine wpAnyH_ready (rs := [9]) (by kernel_rfl) (by simp) ?_
      refine AllReadyH.cons (o := oFtr17) rfl (fun K hK => ?_) AllReadyH.nil
      have km := (unhide Z3).S
      have kf := (unhide Z3).F
      have EX4 : Hid (Below u17.heap.size u17 (((v1.setCell ⟨P23, 0, none⟩ (.int .i64 ta)).setCell ⟨P23, 1, none⟩ (.int .i64 tb)).setCell ⟨P23, 2, none⟩ (.slice an2 nc cn2))) := (((unhide EX3).setCell (p := ⟨P23, 0, none⟩) (by exact unhide H23) _).setCell (p := ⟨P23, 1, none⟩) (by exact unhide H23) _).setCell (p := ⟨P23, 2, none⟩) (by exact unhide H23) _
      have Z4 : Hid (BF P23 #[.int .i64 ta, .int .i64 tb, .slice an2 nc cn2] (((v1.setCell ⟨P23, 0, none⟩ (.int .i64 ta)).setCell ⟨P23, 1, none⟩ (.int .i64 tb)).setCell ⟨P23, 2, none⟩ (.slice an2 nc cn2))) := (((unhide Z3).set 0 (by simp) _).set 1 (by simp) _).set 2 (by simp) _
      have RN4 : Hid (RowV (((v1.setCell ⟨P23, 0, none⟩ (.int .i64 ta)).setCell ⟨P23, 1, none⟩ (.int .i64 tb)).setCell ⟨P23, 2, none⟩ (.slice an2 nc cn2)) an2 (cE tc)) := by
       refine rowZ_at (base := P23 + 1) (e := 62) (z := 2) (n := nc) (cap := cn2) ?_
       iterate 3 refine ownsRow_setCell_below ?_ (by exact Nat.lt_succ_self _) _
       exact unhide ON
      go_simp
      clear km kf EX3 Z3 ON
      refine hK.out _ _ ?_ (fun hHeld9 => ?_)
      ·exact rowS_cell ((unhide SB_15).below (unhide EX4)) hlt2 (unhide HTK)
      clear hK K
      try simp only [Act.put, qqA, qqB, qqC]
      refine wpAnyH_done (by kernel_rfl) ?_ _
      go_wp2_with fail
      go_roundw
      case rel => exact ⟨k + 1, true, ta, tb, an2, nc, cn2, tc, by omega, rfl, by go_num, fun _ => rfl, HNC, HSC, HAC, EX4, Z4, RN4⟩
      case measure => simp [intOf]; omega
     | true =>
      go_wp2_with fail
      refine wp_region_held_drew (S := fun w' => w'.cell? ⟨bL, oL + k, none⟩ = some (.string t)) (by kernel_rfl) xk (fun hHeld => ?_)
      have EX2 := hide (unhide EX1).drew
      have Z2 := hide (unhide Z1).drew
      have RN2 := hide ((unhide RN1).below ((Below.refl wa.heap.size wa).drew))
      clear EX1 Z1 RN1 xk
      generalize wa.drew = v0 at EX2 Z2 RN2 hHeld ⊢
      refine wtv 1 (oi := oFtr8) ?_
      refine wtv 2 (oi := oFtr9) ?_
      refine wtv 3 (oi := oFtr10) ?_
      refine wtv 4 (oi := oFtr11) ?_
      refine wpAnyH_ready (rs := [0]) (by kernel_rfl) (by simp) ?_
      refine AllReadyH.cons (o := oFtr12) rfl (fun K hK => ?_) AllReadyH.nil
      have kz := (unhide Z2).S
      go_simp
      refine hK.out _ _ ?_ (fun hHeld0 => ?_)
      ·exact rowS_cell ((unhide SB_15).below (unhide EX2)) hlt2 (unhide HTK)
      clear hK K
      try simp only [Act.put, qqA, qqB, qqC]
      refine wpAnyH_ready (rs := [5]) (by kernel_rfl) (by simp) ?_
      refine AllReadyH.cons (o := oFtr13) rfl (fun K hK => ?_) AllReadyH.nil
      clear kz
      go_simp
      refine (sapp tmn vtn an cn nn ln HNN (by omega) HZN t t.size rfl (by omega) ta tb tc nc 0 HIT HNC (by show _ ≤ _; omega) v0 (unhide RN2)).mono ?_
      rintro e v1 ⟨vv, rfl, ho, hb⟩
      obtain ⟨an2, cn2, rfl, -⟩ := ownZ_rowV ho
      have h5 : P23 < v0.heap.size := (unhide Z2).lt
      have EX3 := hide ((unhide EX2).trans (hb.mono (unhide EX2).size))
      have Z3 := hide ((unhide Z2).below hb)
      have ON := hide (Go.Joins.ownsRow_le ho (show P23 + 1 ≤ _ by omega))
      clear ho hb EX2 Z2 RN2 h5
      go_wp2_with fail
      refine hK.out _ _ ?_ (fun hHeld5 => ?_)
      ·exact rowS_cell ((unhide SB_15).below (unhide EX3)) hlt2 (unhide HTK)
      clear hK K
      try simp only [Act.put, qqA, qqB, qqC]
      refine wtv 6 (oi := oFtr14) ?_
      refine wtv 7 (oi := oFtr15) ?_
      refine wtv 8 (oi := oFtr16) ?_
      refine wpAnyH_ready (rs := [9]) (by kernel_rfl) (by simp) ?_
      refine AllReadyH.cons (o := oFtr17) rfl (fun K hK => ?_) AllReadyH.nil
      have km := (unhide Z3).S
      have kf := (unhide Z3).F
      have EX4 : Hid (Below u17.heap.size u17 (((v1.setCell ⟨P23, 0, none⟩ (.int .i64 ta)).setCell ⟨P23, 1, none⟩ (.int .i64 tb)).setCell ⟨P23, 2, none⟩ (.slice an2 nc cn2))) := (((unhide EX3).setCell (p := ⟨P23, 0, none⟩) (by exact unhide H23) _).setCell (p := ⟨P23, 1, none⟩) (by exact unhide H23) _).setCell (p := ⟨P23, 2, none⟩) (by exact unhide H23) _
      have Z4 : Hid (BF P23 #[.int .i64 ta, .int .i64 tb, .slice an2 nc cn2] (((v1.setCell ⟨P23, 0, none⟩ (.int .i64 ta)).setCell ⟨P23, 1, none⟩ (.int .i64 tb)).setCell ⟨P23, 2, none⟩ (.slice an2 nc cn2))) := (((unhide Z3).set 0 (by simp) _).set 1 (by simp) _).set 2 (by simp) _
      have RN4 : Hid (RowV (((v1.setCell ⟨P23, 0, none⟩ (.int .i64 ta)).setCell ⟨P23, 1, none⟩ (.int .i64 tb)).setCell ⟨P23, 2, none⟩ (.slice an2 nc cn2)) an2 (cE tc)) := by
       refine rowZ_at (base := P23 + 1) (e := 62) (z := 2) (n := nc) (cap := cn2) ?_
       iterate 3 refine ownsRow_setCell_below ?_ (by exact Nat.lt_succ_self _) _
       exact unhide ON
      go_simp
      clear km kf EX3 Z3 ON
      refine hK.out _ _ ?_ (fun hHeld9 => ?_)
      ·exact rowS_cell ((unhide SB_15).below (unhide EX4)) hlt2 (unhide HTK)
      clear hK K
      try simp only [Act.put, qqA, qqB, qqC]
      refine wpAnyH_done (by kernel_rfl) ?_ _
      go_wp2_with fail
      go_roundw
      case rel => exact ⟨k + 1, true, ta, tb, an2, nc, cn2, tc, by omega, rfl, by go_num, fun _ => rfl, HNC, HSC, HAC, EX4, Z4, RN4⟩
      case measure => simp [intOf]; omega
   ·have hlt2' : ¬ (k : Int) < (L2.length : Int) := by omega
    have hke : k = L2.length := by omega
    have HAK : Hid (apAll (tm, vt, l) (L2.take (k + 1)) = some (tmn, vtn, ln)) := by
     show _ = _
     have h := unhide HAP
     rw [List.take_of_length_le (by omega)] at h ⊢
     exact h
    have HKE := hide hke
    clear hke
    cases fb with
    | false =>
     cases R with
     | false =>
      go_wp2_with fail
      go_roundw
      case rel => exact ⟨k + 1, false, tmn, vtn, an, nn, cn, ln, by have := unhide HKE; omega, rfl, by go_num, fun h => (hfr h).elim (fun e => by cases e) (fun e => by cases e), HNN, HSN, HAK, EX1, Z1, RN1⟩
      case measure => have := unhide HKE; simp [intOf]; omega
     | true =>
      go_wp2_with fail
      go_roundw
      case rel => exact ⟨k + 1, true, tmn, vtn, an, nn, cn, ln, by have := unhide HKE; omega, rfl, by go_num, fun _ => rfl, HNN, HSN, HAK, EX1, Z1, RN1⟩
      case measure => have := unhide HKE; simp [intOf]; omega
    | true =>
     cases R with
     | false =>
      go_wp2_with fail
      go_roundw
      case rel => exact ⟨k + 1, true, tmn, vtn, an, nn, cn, ln, by have := unhide HKE; omega, rfl, by go_num, fun _ => rfl, HNN, HSN, HAK, EX1, Z1, RN1⟩
      case measure => have := unhide HKE; simp [intOf]; omega
     | true =>
      go_wp2_with fail
      go_roundw
      case rel => exact ⟨k + 1, true, tmn, vtn, an, nn, cn, ln, by have := unhide HKE; omega, rfl, by go_num, fun _ => rfl, HNN, HSN, HAK, EX1, Z1, RN1⟩
      case measure => have := unhide HKE; simp [intOf]; omega
  ·have hlt' : ¬ (k : Int) ≤ (L2.length : Int) := by omega
   have hft : fb = true := hfb (by have := unhide HI0; omega)
   subst hft
   clear k19 k23
   have B_16 : Hid (Below w.heap.size w wr) := (unhide B_15).trans ((unhide EX).mono (unhide B_15).size)
   have RQ_16 : Hid (RowV wr aq (cE lq)) := (unhide RQ_15).below (unhide EX)
   have ZP19_16 : Hid (BF P19 #[.int .i64 tq, .int .i64 vq, .slice aq nq cq] wr) := (unhide ZP19_15).below (unhide EX)
   have ZP20_16 : Hid (BF P20 #[.string D3, .int .i64 (D3.size : Int)] wr) := (unhide ZP20_15).below (unhide EX)
   have kk0 := (unhide ZP20_16).S
   go_wp2_with fail
   clear kk0
   refine (irecov D3 (D3.size : Int) H3M tq vq lq nq D3 (D3.size : Int) 0 HRV2 HNQ wr ((unhide HE).below (unhide B_16)) ((unhide HX).below (unhide B_16)) ((unhide HSE).below (unhide B_16)) HQ1 HQ2).mono ?_
   rintro e uz ⟨vv, rfl, ho, hb⟩
   obtain ⟨a3, c3, rfl, -⟩ := ownZ_rowV ho
   have B_17 : Hid (Below w.heap.size w uz) := (unhide B_16).trans (hb.mono (unhide B_16).size)
   have RQ_17 : Hid (RowV uz aq (cE lq)) := (unhide RQ_16).below hb
   have ZP19_17 : Hid (BF P19 #[.int .i64 tq, .int .i64 vq, .slice aq nq cq] uz) := (unhide ZP19_16).below hb
   have ZP20_17 : Hid (BF P20 #[.string D3, .int .i64 (D3.size : Int)] uz) := (unhide ZP20_16).below hb
   clear B_16 RQ_16 ZP19_16 ZP20_16
   have R3_17 : Hid (RowV uz a3 (cE lq)) := rowZ_at ho
   clear ho hb
   obtain ⟨P27, hPa⟩ : ∃ P, P = uz.heap.size := ⟨_, rfl⟩
   obtain ⟨P28, hPb⟩ : ∃ P, P = uz.heap.size + 1 := ⟨_, rfl⟩
   have hsz : (uz.alloc (.cells #[.int .i64 tq, .int .i64 vq, .slice a3 nq c3] 25)).heap.size = P28 := by rw [hPb]; simp
   have B_18 : Hid (Below w.heap.size w ((uz.alloc (.cells #[.int .i64 tq, .int .i64 vq, .slice a3 nq c3] 25)).alloc (.cells #[.string D3, .int .i64 (D3.size : Int)] 31))) := (unhide B_17).trans ((Go.Joins.below_alloc2 uz (.cells #[.int .i64 tq, .int .i64 vq, .slice a3 nq c3] 25) (.cells #[.string D3, .int .i64 (D3.size : Int)] 31)).mono (unhide B_17).size)
   have RQ_18 : Hid (RowV ((uz.alloc (.cells #[.int .i64 tq, .int .i64 vq, .slice a3 nq c3] 25)).alloc (.cells #[.string D3, .int .i64 (D3.size : Int)] 31)) aq (cE lq)) := (unhide RQ_17).below (Go.Joins.below_alloc2 uz (.cells #[.int .i64 tq, .int .i64 vq, .slice a3 nq c3] 25) (.cells #[.string D3, .int .i64 (D3.size : Int)] 31))
   have ZP19_18 : Hid (BF P19 #[.int .i64 tq, .int .i64 vq, .slice aq nq cq] ((uz.alloc (.cells #[.int .i64 tq, .int .i64 vq, .slice a3 nq c3] 25)).alloc (.cells #[.string D3, .int .i64 (D3.size : Int)] 31))) := (unhide ZP19_17).below (Go.Joins.below_alloc2 uz (.cells #[.int .i64 tq, .int .i64 vq, .slice a3 nq c3] 25) (.cells #[.string D3, .int .i64 (D3.size : Int)] 31))
   have ZP20_18 : Hid (BF P20 #[.string D3, .int .i64 (D3.size : Int)] ((uz.alloc (.cells #[.int .i64 tq, .int .i64 vq, .slice a3 nq c3] 25)).alloc (.cells #[.string D3, .int .i64 (D3.size : Int)] 31))) := (unhide ZP20_17).below (Go.Joins.below_alloc2 uz (.cells #[.int .i64 tq, .int .i64 vq, .slice a3 nq c3] 25) (.cells #[.string D3, .int .i64 (D3.size : Int)] 31))
   have R3_18 : Hid (RowV ((uz.alloc (.cells #[.int .i64 tq, .int .i64 vq, .slice a3 nq c3] 25)).alloc (.cells #[.string D3, .int .i64 (D3.size : Int)] 31)) a3 (cE lq)) := (unhide R3_17).below (Go.Joins.below_alloc2 uz (.cells #[.int .i64 tq, .int .i64 vq, .slice a3 nq c3] 25) (.cells #[.string D3, .int .i64 (D3.size : Int)] 31))
   clear B_17 RQ_17 ZP19_17 ZP20_17 R3_17
   have ZP27_18 : Hid (BF P27 #[.int .i64 tq, .int .i64 vq, .slice a3 nq c3] ((uz.alloc (.cells #[.int .i64 tq, .int .i64 vq, .slice a3 nq c3] 25)).alloc (.cells #[.string D3, .int .i64 (D3.size : Int)] 31))) := by show BF _ _ _; rw [hPa]; exact (BF.new uz _ _).alloc _
   have ZP28_18 : Hid (BF P28 #[.string D3, .int .i64 (D3.size : Int)] ((uz.alloc (.cells #[.int .i64 tq, .int .i64 vq, .slice a3 nq c3] 25)).alloc (.cells #[.string D3, .int .i64 (D3.size : Int)] 31))) := by show BF _ _ _; rw [← hsz]; exact BF.new _ _ _
   have ka := (unhide ZP27_18).S
   have kb := (unhide ZP28_18).S
   rw [hPa] at ka
   rw [hPb] at kb
   have HPa := hide hPa
   have HPb := hide hPb
   clear hPa hPb hsz
   have kk0 := (unhide ZP19_18).S
   go_wp2_with fail
   clear kk0
   rw [← unhide HPb, ← unhide HPa]
   clear ka kb HPa HPb
   generalize ((uz.alloc (.cells #[.int .i64 tq, .int .i64 vq, .slice a3 nq c3] 25)).alloc (.cells #[.string D3, .int .i64 (D3.size : Int)] 31)) = uy at B_18 RQ_18 ZP19_18 ZP20_18 R3_18 ZP27_18 ZP28_18 ⊢
   have HSM : Hid (SameIs tq vq lq tq vq lq true 0) := .inl ⟨unhide HSQ, unhide HSQ, (decide_eq_true ⟨rfl, rfl, rfl⟩).symm, rfl⟩
   refine (isame tq vq a3 c3 nq lq HNQ (by omega) HZQ tq vq aq cq nq lq HNQ (by omega) HZQ true 0 HSM uy (unhide R3_18) (unhide RQ_18)).mono ?_
   rintro e ux ⟨rfl, hb⟩
   have BZ := (unhide B_18).trans (hb.mono (unhide B_18).size)
   go_wp2_with fail
   go_ret
   exact ⟨rfl, BZ⟩

theorem own : ownKnob Tryd.prog.godebug = none := by kernel_rfl
theorem laidOut : laidOutB Tryd.prog = true := by kernel_rfl
theorem door_met (os : Os) (args : Array Value) : laidMetH Tryd.prog Rows.fnTornRow.laid ((World.doorLaid Tryd.prog 187 os).forCall (fun _ _ => 0) ⟨#[], args, []⟩).memory :=
 laidMetH_of_parts3 (fuel := 8) (laidMet_of_run' 8 (by kernel_rfl) (by kernel_rfl)) (by kernel_rfl) (by kernel_rfl)
set_option maxRecDepth 100000 in
theorem lifted (os : Os) (started : os.Started) (H : Type) (enc : TypeId × Value → H) :
  ReturnsInHanded {} Tryd.checked os 3 .any (fun w args => (Rows.fnTornSpec.pre enc Tryd.prog Tryd.f3 [] false w args ∧ laidMetH Tryd.prog Rows.fnTornRow.laid w) ∧ sizedMet enc Tryd.prog Tryd.f3 (OpenSpec.ofChange Rows.fnTornSpec) false w args)
   (Rows.fnTornSpec.post enc Tryd.prog Tryd.f3 false true false false) := by
 refine returnsInHanded_of_change_and (C := Tryd.checked) (X := fun w _ => laidMetH Tryd.prog Rows.fnTornRow.laid w) (fun _ _ _ hh h => h.of_heap hh) own started (by kernel_rfl) Tryd.func3
  (ChangeSpec.witness_shaped (enc := enc) (C := Tryd.checked) (os := os) (X := fun w _ => laidMetH Tryd.prog Rows.fnTornRow.laid w) false (World.doorLaid Tryd.prog 187 os) #[.slice none 0 0, .slice none 0 0] 8 rfl (World.shaped_of_RefB (by kernel_rfl) (by kernel_rfl)) (by kernel_rfl) (by kernel_rfl) (by kernel_rfl) (door_met os _)) ?_
 intro W base args ds gs before hval0 hW _ _ hL _
 have hval : ∀ (j : Nat) t v, Tryd.f3.params[j]? = some t → args[j]? = some v → Value.okWide Tryd.prog W .any base t v := hval0
 have hW' := hW
 obtain ⟨p, q, hA0, hV, rfl, hfz, hnd⟩ := hW
 have hA : DataW.TrodAll enc Tryd.prog W 0 (fun _ => true) true Tryd.f3.params.toList args.toList ds p := hA0
 rw [Tryd.params3] at hA hval
 obtain ⟨v0, vs0, d0, ds0, p0, q0, hargs, rfl, rfl, h0, r0⟩ := trodAll_cons hA
 obtain ⟨v1, vs1, d1, ds1, p1, q1, rfl, rfl, rfl, h1, r1⟩ := trodAll_cons r0
 obtain ⟨rfl, rfl, rfl⟩ := trodAll_nil r1
 obtain rfl : args = #[v0, v1] := by cases args; simp_all
 obtain ⟨g1, g2, g3, g4, g5, g6, g7, g8, g9, rfl⟩ : ∃ d1x d2x d3x d4x d5x d6x d7x d8x d9x, gs = [d1x, d2x, d3x, d4x, d5x, d6x, d7x, d8x, d9x] := vars_len9 hV
 have k0 := h0
 have lt0 : ∀ x ∈ p0, x.block < W.heap.size := by obtain ⟨m, hm⟩ := k0; exact DataW.trod_lt m _ _ _ hm
 have k1 := h1
 have lt1 : ∀ x ∈ p1, x.block < W.heap.size := by obtain ⟨m, hm⟩ := k1; exact DataW.trod_lt m _ _ _ hm
 obtain ⟨a0, len0, cap0, rfl⟩ := okWide_slice Tryd.underlying22 (hval 0 22 v0 rfl rfl)
 obtain ⟨l0, e0, w0⟩ : ∃ l : List UInt8, l.length = len0 ∧ Row8 W a0 l := by
  obtain ⟨fuel, hf⟩ := h0
  rcases open_ints Tryd.underlying22 Tryd.underlying5 (by kernel_rfl) hf with ⟨hcs, _⟩ | ⟨x, l, c, zs, hcs, _, hl, hm, hz, _, hcell, hwz⟩
  ·simp [Value.cells] at hcs
   obtain ⟨rfl, rfl, rfl⟩ := hcs
   exact ⟨[], rfl, .inl rfl⟩
  ·simp [Value.cells] at hcs
   obtain ⟨rfl, rfl, rfl⟩ := hcs
   exact row8_ints hl (by simpa using hz) hcell hwz
 obtain ⟨a1, len1, cap1, rfl⟩ := okWide_slice Tryd.underlying22 (hval 1 22 v1 rfl rfl)
 obtain ⟨l1, e1, w1⟩ : ∃ l : List UInt8, l.length = len1 ∧ Row8 W a1 l := by
  obtain ⟨fuel, hf⟩ := h1
  rcases open_ints Tryd.underlying22 Tryd.underlying5 (by kernel_rfl) hf with ⟨hcs, _⟩ | ⟨x, l, c, zs, hcs, _, hl, hm, hz, _, hcell, hwz⟩
  ·simp [Value.cells] at hcs
   obtain ⟨rfl, rfl, rfl⟩ := hcs
   exact ⟨[], rfl, .inl rfl⟩
  ·simp [Value.cells] at hcs
   obtain ⟨rfl, rfl, rfl⟩ := hcs
   exact row8_ints hl (by simpa using hz) hcell hwz
 have hT := errs_laidT hL
 clear hA0 hval0
 refine (walk W a0 len0 cap0 l0 e0 w0 a1 len1 cap1 l1 e1 w1 hT).mono fun e W' ⟨he, bel⟩ => ?_
 subst he
 exact ⟨_, rfl, _, _, _, [], _, _, hW', trodAll_mk1 (shut_bool Tryd.underlying4 _), (trodAll_cons_mk (Below.trod laidOut (by kernel_rfl) (of_decide_eq_true (by kernel_rfl)) k0 bel lt0) (trodAll_cons_mk (Below.trod laidOut (by kernel_rfl) (of_decide_eq_true (by kernel_rfl)) k1 bel lt1) trodAll_mk0)), Below.trodVars laidOut bel (by kernel_rfl) hV, bel.frame _, fun h => by cases h⟩

theorem said : Rows.FnTornSaid :=
 OpenClaim.holds_of_wide 3 Tryd.f3 rfl rfl rfl rfl rfl rfl rfl ⟨rfl, rfl, rfl, rfl, rfl⟩ rfl rfl rfl rfl rfl (by kernel_rfl) Tryd.func3 (by kernel_rfl)
  (of_decide_eq_true (by kernel_rfl)) (by unfold Func.isWrapper; first | (rw [if_pos (by decide +kernel)]; kernel_rfl) | (rw [if_neg (by decide +kernel)]; exact ⟨rfl, rfl⟩))
  (fun os started H enc _ => lifted os started H enc)

theorem card : Rows.FnTornCardSaid :=
 Claim7.holds_tied_plain_at .later [] _ _ _ _ said (fun _ h => by cases h) (by kernel_rfl) (fun _ h => by cases h) fnTorn_row_tie rfl ⟨rfl, rfl⟩ (by kernel_rfl) rfl
  (fun f fn hf hfn => by
   obtain rfl : f = 3 := Option.some.inj ((show Tryd.prog.funcNamed Tryd.f3.name = some 3 by kernel_rfl).symm.trans hf) |>.symm
   obtain rfl : fn = Tryd.f3 := (Option.some.inj (Tryd.func3.symm.trans hfn)).symm
   exact ⟨by kernel_rfl, fun j t ht => by
    rw [Tryd.params3] at ht
    have hm : t ∈ [22, 22] := by simpa using Array.mem_of_getElem? ht
    have hall : ([22, 22].all fun u => !Tryd.prog.wantsStandIn u) = true := by kernel_rfl
    exact (show Tryd.prog.wantsStandIn t = false by simpa using List.all_eq_true.1 hall t hm)⟩)
  (by kernel_rfl)
#print axioms card
end Go.Proofs.YtamjljhbnhdgdaaDoor
