/- Which nodes are right: what the specification answers. -/
import Derived.Test.YtfogppnijdjakaaGreatDoorZG1
import Derived.Test.YtfogppnijdjakaaGreatDoorZSteS
namespace Go.Proofs.YtfogppnijdjakaaGreatDoor
open Go.ChangeShapes Go.WideShapes Go.ChangeAt Go.RowKit
set_option linter.unusedVariables false
abbrev oNdS0 : Oper := { dst := some 90, op := .fieldAddr 71 (.tmp 1) 11, type := 0, pos := "l08_raft.go:29", after := #[], guard := none }
abbrev oNdS1 : Oper := { dst := some 91, op := .load 59 (.tmp 90), type := 59, pos := "l08_raft.go:29", after := #[{ on := 0, ground := .data }], guard := none }
abbrev oNdS2 : Oper := { dst := some 92, op := .move (.tmp 3), type := 3, pos := "l08_raft.go:29", after := #[], guard := none }
abbrev oNdS3 : Oper := { dst := some 93, op := .indexAddr 59 (.tmp 91) (.tmp 92), type := 0, pos := "l08_raft.go:29", after := #[{ on := 1, ground := .data }, { on := 2, ground := .data }], guard := none }
abbrev oNdS4 : Oper := { dst := some 94, op := .load 3 (.tmp 93), type := 3, pos := "l08_raft.go:29", after := #[{ on := 3, ground := .data }], guard := none }
abbrev oNdS5 : Oper := { dst := some 95, op := .fieldAddr 71 (.tmp 1) 6, type := 0, pos := "l08_raft.go:29", after := #[], guard := none }
abbrev oNdS6 : Oper := { dst := some 96, op := .load 69 (.tmp 95), type := 69, pos := "l08_raft.go:29", after := #[{ on := 5, ground := .data }], guard := none }
abbrev oNdS7 : Oper := { dst := some 97, op := .call { callee := .builtin Go.Builtin.len, args := #[.tmp 96], argTypes := #[69] }, type := 3, pos := "l08_raft.go:29", after := #[{ on := 6, ground := .data }], guard := none }
abbrev oNdS8 : Oper := { dst := some 98, op := .binOp .add 3 (.tmp 97) (.const (.int .i64 1)) 3, type := 3, pos := "l08_raft.go:29", after := #[{ on := 7, ground := .data }], guard := none }
abbrev oNdS9 : Oper := { dst := some 99, op := .call { callee := .value (.func 56), args := #[.tmp 94, .const (.int .i64 1), .tmp 98], argTypes := #[3, 3, 3] }, type := 4, pos := "l08_raft.go:29", after := #[{ on := 4, ground := .data }, { on := 8, ground := .data }], guard := none }
abbrev oNdS10 : Oper := { dst := some 100, op := .unOp .not 4 (.tmp 99), type := 4, pos := "l08_raft.go:29", after := #[{ on := 9, ground := .data }], guard := none }
abbrev oNdS11 : Oper := { dst := some 101, op := .move (.tmp 100), type := 4, pos := "l08_raft.go:29", after := #[{ on := 10, ground := .data }, { on := 9, ground := .chain }], guard := none }
abbrev oNdS12 : Oper := { dst := some 102, op := .fieldAddr 71 (.tmp 1) 12, type := 0, pos := "l08_raft.go:29", after := #[{ on := 11, ground := .guard }], guard := some (11, false) }
abbrev oNdS13 : Oper := { dst := some 103, op := .load 59 (.tmp 102), type := 59, pos := "l08_raft.go:29", after := #[{ on := 12, ground := .data }, { on := 11, ground := .guard }], guard := some (11, false) }
abbrev oNdS14 : Oper := { dst := some 104, op := .move (.tmp 3), type := 3, pos := "l08_raft.go:29", after := #[{ on := 11, ground := .guard }], guard := some (11, false) }
abbrev oNdS15 : Oper := { dst := some 105, op := .indexAddr 59 (.tmp 103) (.tmp 104), type := 0, pos := "l08_raft.go:29", after := #[{ on := 13, ground := .data }, { on := 14, ground := .data }, { on := 11, ground := .guard }], guard := some (11, false) }
abbrev oNdS16 : Oper := { dst := some 106, op := .load 3 (.tmp 105), type := 3, pos := "l08_raft.go:29", after := #[{ on := 15, ground := .data }, { on := 11, ground := .guard }], guard := some (11, false) }
abbrev oNdS17 : Oper := { dst := some 107, op := .fieldAddr 71 (.tmp 1) 11, type := 0, pos := "l08_raft.go:29", after := #[{ on := 11, ground := .guard }], guard := some (11, false) }
abbrev oNdS18 : Oper := { dst := some 108, op := .load 59 (.tmp 107), type := 59, pos := "l08_raft.go:29", after := #[{ on := 17, ground := .data }, { on := 11, ground := .guard }], guard := some (11, false) }
abbrev oNdS19 : Oper := { dst := some 109, op := .move (.tmp 3), type := 3, pos := "l08_raft.go:29", after := #[{ on := 11, ground := .guard }], guard := some (11, false) }
abbrev oNdS20 : Oper := { dst := some 110, op := .indexAddr 59 (.tmp 108) (.tmp 109), type := 0, pos := "l08_raft.go:29", after := #[{ on := 18, ground := .data }, { on := 19, ground := .data }, { on := 11, ground := .guard }], guard := some (11, false) }
abbrev oNdS21 : Oper := { dst := some 111, op := .load 3 (.tmp 110), type := 3, pos := "l08_raft.go:29", after := #[{ on := 20, ground := .data }, { on := 11, ground := .guard }], guard := some (11, false) }
abbrev oNdS22 : Oper := { dst := some 112, op := .binOp .sub 3 (.tmp 111) (.const (.int .i64 1)) 3, type := 3, pos := "l08_raft.go:29", after := #[{ on := 21, ground := .data }, { on := 11, ground := .guard }], guard := some (11, false) }
abbrev oNdS23 : Oper := { dst := some 113, op := .call { callee := .value (.func 56), args := #[.tmp 106, .const (.int .i64 0), .tmp 112], argTypes := #[3, 3, 3] }, type := 4, pos := "l08_raft.go:29", after := #[{ on := 16, ground := .data }, { on := 22, ground := .data }, { on := 11, ground := .chain }, { on := 11, ground := .guard }], guard := some (11, false) }
abbrev oNdS24 : Oper := { dst := some 114, op := .unOp .not 4 (.tmp 113), type := 4, pos := "l08_raft.go:29", after := #[{ on := 23, ground := .data }, { on := 11, ground := .guard }], guard := some (11, false) }
abbrev oNdS25 : Oper := { dst := some 115, op := .pick (.tmp 101) (.const (.bool true)) (.tmp 114), type := 4, pos := "l08_raft.go:29", after := #[{ on := 11, ground := .data }, { on := 24, ground := .data }], guard := none }
abbrev oNdS26 : Oper := { dst := some 123, op := .fieldAddr 71 (.tmp 1) 10, type := 0, pos := "l08_raft.go:34", after := #[], guard := none }
abbrev oNdS27 : Oper := { dst := some 124, op := .load 59 (.tmp 123), type := 59, pos := "l08_raft.go:34", after := #[{ on := 0, ground := .data }], guard := none }
abbrev oNdS28 : Oper := { dst := some 125, op := .move (.tmp 4), type := 3, pos := "l08_raft.go:34", after := #[], guard := none }
abbrev oNdS29 : Oper := { dst := some 126, op := .indexAddr 59 (.tmp 124) (.tmp 125), type := 0, pos := "l08_raft.go:34", after := #[{ on := 1, ground := .data }, { on := 2, ground := .data }], guard := none }
abbrev oNdS30 : Oper := { dst := some 127, op := .load 3 (.tmp 126), type := 3, pos := "l08_raft.go:34", after := #[{ on := 3, ground := .data }], guard := none }
abbrev oNdS31 : Oper := { dst := some 128, op := .fieldAddr 71 (.tmp 1) 1, type := 0, pos := "l08_raft.go:34", after := #[], guard := none }
abbrev oNdS32 : Oper := { dst := some 129, op := .load 3 (.tmp 128), type := 3, pos := "l08_raft.go:34", after := #[{ on := 5, ground := .data }], guard := none }
abbrev oNdS33 : Oper := { dst := some 130, op := .binOp .sub 3 (.tmp 129) (.const (.int .i64 1)) 3, type := 3, pos := "l08_raft.go:34", after := #[{ on := 6, ground := .data }], guard := none }
abbrev oNdS34 : Oper := { dst := some 131, op := .call { callee := .value (.func 56), args := #[.tmp 127, .const (.int .i64 0), .tmp 130], argTypes := #[3, 3, 3] }, type := 4, pos := "l08_raft.go:34", after := #[{ on := 4, ground := .data }, { on := 7, ground := .data }], guard := none }
abbrev oNdS35 : Oper := { dst := some 132, op := .unOp .not 4 (.tmp 131), type := 4, pos := "l08_raft.go:34", after := #[{ on := 8, ground := .data }], guard := none }
abbrev oNdS36 : Oper := { dst := some 133, op := .move (.tmp 132), type := 4, pos := "l08_raft.go:34", after := #[{ on := 9, ground := .data }, { on := 8, ground := .chain }], guard := none }
abbrev oNdS37 : Oper := { dst := some 134, op := .move (.tmp 4), type := 3, pos := "l08_raft.go:34", after := #[{ on := 10, ground := .guard }], guard := some (10, false) }
abbrev oNdS38 : Oper := { dst := some 135, op := .binOp .gtr 3 (.tmp 134) (.const (.int .i64 0)) 3, type := 4, pos := "l08_raft.go:34", after := #[{ on := 11, ground := .data }, { on := 10, ground := .guard }], guard := some (10, false) }
abbrev oNdS39 : Oper := { dst := some 136, op := .move (.tmp 135), type := 4, pos := "l08_raft.go:34", after := #[{ on := 12, ground := .data }, { on := 10, ground := .chain }, { on := 10, ground := .guard }], guard := some (10, false) }
abbrev oNdS40 : Oper := { dst := some 137, op := .fieldAddr 71 (.tmp 1) 10, type := 0, pos := "l08_raft.go:34", after := #[{ on := 13, ground := .guard }], guard := some (13, true) }
abbrev oNdS41 : Oper := { dst := some 138, op := .load 59 (.tmp 137), type := 59, pos := "l08_raft.go:34", after := #[{ on := 14, ground := .data }, { on := 13, ground := .guard }], guard := some (13, true) }
abbrev oNdS42 : Oper := { dst := some 139, op := .move (.tmp 4), type := 3, pos := "l08_raft.go:34", after := #[{ on := 13, ground := .guard }], guard := some (13, true) }
abbrev oNdS43 : Oper := { dst := some 140, op := .binOp .sub 3 (.tmp 139) (.const (.int .i64 1)) 3, type := 3, pos := "l08_raft.go:34", after := #[{ on := 16, ground := .data }, { on := 13, ground := .guard }], guard := some (13, true) }
abbrev oNdS44 : Oper := { dst := some 141, op := .indexAddr 59 (.tmp 138) (.tmp 140), type := 0, pos := "l08_raft.go:34", after := #[{ on := 15, ground := .data }, { on := 17, ground := .data }, { on := 13, ground := .guard }], guard := some (13, true) }
abbrev oNdS45 : Oper := { dst := some 142, op := .load 3 (.tmp 141), type := 3, pos := "l08_raft.go:34", after := #[{ on := 18, ground := .data }, { on := 13, ground := .guard }], guard := some (13, true) }
abbrev oNdS46 : Oper := { dst := some 143, op := .fieldAddr 71 (.tmp 1) 10, type := 0, pos := "l08_raft.go:34", after := #[{ on := 13, ground := .guard }], guard := some (13, true) }
abbrev oNdS47 : Oper := { dst := some 144, op := .load 59 (.tmp 143), type := 59, pos := "l08_raft.go:34", after := #[{ on := 20, ground := .data }, { on := 13, ground := .guard }], guard := some (13, true) }
abbrev oNdS48 : Oper := { dst := some 145, op := .move (.tmp 4), type := 3, pos := "l08_raft.go:34", after := #[{ on := 13, ground := .guard }], guard := some (13, true) }
abbrev oNdS49 : Oper := { dst := some 146, op := .indexAddr 59 (.tmp 144) (.tmp 145), type := 0, pos := "l08_raft.go:34", after := #[{ on := 21, ground := .data }, { on := 22, ground := .data }, { on := 13, ground := .guard }], guard := some (13, true) }
abbrev oNdS50 : Oper := { dst := some 147, op := .load 3 (.tmp 146), type := 3, pos := "l08_raft.go:34", after := #[{ on := 23, ground := .data }, { on := 13, ground := .guard }], guard := some (13, true) }
abbrev oNdS51 : Oper := { dst := some 148, op := .binOp .geq 3 (.tmp 142) (.tmp 147) 3, type := 4, pos := "l08_raft.go:34", after := #[{ on := 19, ground := .data }, { on := 24, ground := .data }, { on := 13, ground := .guard }], guard := some (13, true) }
abbrev oNdS52 : Oper := { dst := some 149, op := .pick (.tmp 136) (.tmp 148) (.const (.bool false)), type := 4, pos := "l08_raft.go:34", after := #[{ on := 13, ground := .data }, { on := 25, ground := .data }, { on := 10, ground := .guard }], guard := some (10, false) }
abbrev oNdS53 : Oper := { dst := some 150, op := .pick (.tmp 133) (.const (.bool true)) (.tmp 149), type := 4, pos := "l08_raft.go:34", after := #[{ on := 10, ground := .data }, { on := 26, ground := .data }], guard := none }
set_option maxHeartbeats 4000000 in
set_option maxRecDepth 100000 in
theorem snstate (id nd tm vt ro cm el wt : Int) (up : Bool) (a : Option Addr) (cap n : Nat) (av : Option Addr) (cv nv : Nat) (ax : Option Addr) (cx nx : Nat) (ag : Option Addr) (cg ng : Nat) (w : World) : Calls Tryz.prog 40 #[.agg #[.int .i64 id, .int .i64 nd, .int .i64 tm, .int .i64 vt, .int .i64 ro, .bool up, .slice a n cap, .int .i64 cm, .int .i64 el, .int .i64 wt, .slice av nv cv, .slice ax nx cx, .slice ag ng cg]] w fun e w' => e = .returned (.agg #[.int .i64 tm, .int .i64 vt, .slice a n cap]) ∧ Below w.heap.size w w' := by
 have B0 := hide (Go.Joins.below_alloc2 w (.cells #[.int .i64 id, .int .i64 nd, .int .i64 tm, .int .i64 vt, .int .i64 ro, .bool up, .slice a n cap, .int .i64 cm, .int .i64 el, .int .i64 wt, .slice av nv cv, .slice ax nx cx, .slice ag ng cg] 71) (.cells #[.int .i64 tm, .int .i64 vt, .slice a n cap] 76))
 go_enter Tryz.func40, Tryz.ntmps40
 go_wp2_with fail
 refine bodyPost_ret (v := .agg #[.int .i64 tm, .int .i64 vt, .slice a n cap]) (by simp [results, Tryz.results40, go_sem]) rfl ⟨rfl, ?_⟩
 exact unhide B0
theorem snodes (nd : Int) (w : World) : Calls Tryz.prog 35 #[.int .i64 nd] w fun e w' => e = .returned (.bool (inB nd 1 5)) ∧ w' = w := by
 go_enter Tryz.func35, Tryz.ntmps35
 go_wp2_with fail
 refine (sin nd 1 5 _).mono ?_
 rintro e w1 ⟨rfl, rfl⟩
 go_wp2_with fail
 go_ret
 exact ⟨rfl, rfl⟩
set_option maxHeartbeats 4000000 in
set_option maxRecDepth 100000 in
theorem snodeok (id nd tm vt ro cm el wt : Int) (up : Bool) (a : Option Addr) (cap n : Nat) (l : List (Int × ByteArray)) (HN : Hid (l.length = n)) (av : Option Addr) (cv nv : Nat) (lv : List Int) (HNv : Hid (lv.length = nv)) (ax : Option Addr) (cx nx : Nat) (lx : List Int) (HNx : Hid (lx.length = nx)) (ag : Option Addr) (cg ng : Nat) (lg : List Int) (HNg : Hid (lg.length = ng)) (hn : n ≤ 1048576) (hnv : nv ≤ 1048576) (hnx : nx ≤ 1048576) (hng : ng ≤ 1048576) (HSZ : Hid (∀ k (h : k < l.length), l[k].2.size ≤ 1048576)) (R : Bool) (HR : Hid (R = nodeB id nd tm vt ro cm el wt up l lv lx lg)) (w : World) (hr : RowV w a (cE l)) (hrv : RowV w av (cI lv)) (hrx : RowV w ax (cI lx)) (hrg : RowV w ag (cI lg)) :
  Calls Tryz.prog 36 #[.agg #[.int .i64 id, .int .i64 nd, .int .i64 tm, .int .i64 vt, .int .i64 ro, .bool up, .slice a n cap, .int .i64 cm, .int .i64 el, .int .i64 wt, .slice av nv cv, .slice ax nx cx, .slice ag ng cg]] w fun e w' => e = .returned (.bool R) ∧ Below w.heap.size w w' := by
 have hR0 := unhide HR
 unfold nodeB roleB placesB at hR0
 rw [unhide HN, unhide HNx, unhide HNg] at hR0
 have HRR := hide hR0
 have HRW := hide hr
 have HRv := hide hrv
 have HRx := hide hrx
 have HRg := hide hrg
 clear hr hrv hrx hrg HR hR0
 have B0 := hide (Go.Joins.below_alloc1 w (.cells #[.int .i64 id, .int .i64 nd, .int .i64 tm, .int .i64 vt, .int .i64 ro, .bool up, .slice a n cap, .int .i64 cm, .int .i64 el, .int .i64 wt, .slice av nv cv, .slice ax nx cx, .slice ag ng cg] 71))
 have A0 := hide (BF.new w #[.int .i64 id, .int .i64 nd, .int .i64 tm, .int .i64 vt, .int .i64 ro, .bool up, .slice a n cap, .int .i64 cm, .int .i64 el, .int .i64 wt, .slice av nv cv, .slice ax nx cx, .slice ag ng cg] 71)
 go_enter Tryz.func36, Tryz.ntmps36
 simp only [List.append_eq, List.cons_append, List.nil_append]
 rcases bdic (inB nd 1 5) with c0 | c0
 ·have hR : R = false := by rw [unhide HRR, c0]; simp
  go_wp2_with fail
  refine (snodes nd _).mono ?_
  rintro e w1 ⟨rfl, rfl⟩
  rw [c0]
  subst hR
  go_wp2_with fail
  go_ret
  exact ⟨rfl, unhide B0⟩
 go_wp2_with fail
 refine (snodes nd _).mono ?_
 rintro e w1 ⟨rfl, rfl⟩
 rw [c0]
 have Hc0 := hide c0
 clear c0
 have hnd : 1 ≤ nd ∧ nd ≤ 5 := by have := unhide Hc0; unfold inB at this; simpa using this
 obtain ⟨h1, h5⟩ := hnd
 have e1 : IntKind.i64.wrap (nd - 1) = nd - 1 := wrapi _ (by omega) (by omega)
 rcases bdic (inB id 0 (nd - 1)) with c1 | c1
 ·have hR : R = false := by rw [unhide HRR, c1]; simp
  go_wp2_with fail
  refine (sin id 0 (nd - 1) _).mono ?_
  rintro e w1 ⟨rfl, rfl⟩
  rw [c1]
  subst hR
  go_wp2_with fail
  go_ret
  exact ⟨rfl, unhide B0⟩
 go_wp2_with fail
 refine (sin id 0 (nd - 1) _).mono ?_
 rintro e w1 ⟨rfl, rfl⟩
 rw [c1]
 have Hc1 := hide c1
 clear c1
 obtain ⟨R3, hR3⟩ : ∃ b, b = stateB tm vt l := ⟨_, rfl⟩
 have HR3 := hide hR3
 clear hR3
 go_wp2_with fail
 refine (snstate id nd tm vt ro cm el wt up a cap n av cv nv ax cx nx ag cg ng _).mono ?_
 rintro e w1 ⟨rfl, hb1⟩
 have B1 := hide ((unhide B0).trans (hb1.mono (unhide B0).size))
 have A1 := hide ((unhide A0).below hb1)
 clear hb1 B0 A0
 have a1 := (unhide A1).S
 go_wp2_with fail
 refine (sstateok tm vt a cap n l HN hn HSZ R3 HR3 _ ((unhide HRW).below (unhide B1))).mono ?_
 rintro e w2 ⟨rfl, hb2⟩
 have B2 := hide ((unhide B1).trans (hb2.mono (unhide B1).size))
 have A2 := hide ((unhide A1).below hb2)
 clear hb2 B1 A1 a1
 have a2 := (unhide A2).S
 rcases bdic R3 with c3 | c3
 ·have hR : R = false := by rw [unhide HRR, ← unhide HR3, c3]; simp
  subst c3
  subst hR
  go_wp2_with fail
  go_ret
  exact ⟨rfl, unhide B2⟩
 have HRR2 := unhide HRR
 rw [← unhide HR3, c3] at HRR2
 replace HRR := hide HRR2
 subst c3
 clear HRR2 HR3
 by_cases hv : vt < nd
 rotate_left
 ·have hR : R = false := by rw [unhide HRR, decide_eq_false hv]; simp
  have dv : nd ≤ vt := by omega
  subst hR
  go_wp2_with fail
  go_ret
  exact ⟨rfl, unhide B2⟩
 have dv : ¬ nd ≤ vt := by omega
 have Hv := hide hv
 clear hv
 rcases bdic (inB ro 0 2) with c4 | c4
 ·have hR : R = false := by rw [unhide HRR, c4]; simp
  go_wp2_with fail
  refine (sin ro 0 2 _).mono ?_
  rintro e w1 ⟨rfl, rfl⟩
  rw [c4]
  subst hR
  go_wp2_with fail
  go_ret
  exact ⟨rfl, unhide B2⟩
 go_wp2_with fail
 refine (sin ro 0 2 _).mono ?_
 rintro e w1 ⟨rfl, rfl⟩
 rw [c4]
 have Hc4 := hide c4
 clear c4
 rcases bdic (inB cm 0 (n : Int)) with c5 | c5
 ·have hR : R = false := by rw [unhide HRR, c5]; simp
  go_wp2_with fail
  refine (sin cm 0 (n : Int) _).mono ?_
  rintro e w1 ⟨rfl, rfl⟩
  rw [c5]
  subst hR
  go_wp2_with fail
  go_ret
  exact ⟨rfl, unhide B2⟩
 go_wp2_with fail
 refine (sin cm 0 (n : Int) _).mono ?_
 rintro e w1 ⟨rfl, rfl⟩
 rw [c5]
 have Hc5 := hide c5
 clear c5
 rcases bdic (inB el 0 1000) with c6 | c6
 ·have hR : R = false := by rw [unhide HRR, c6]; simp
  go_wp2_with fail
  refine (sin el 0 1000 _).mono ?_
  rintro e w1 ⟨rfl, rfl⟩
  rw [c6]
  subst hR
  go_wp2_with fail
  go_ret
  exact ⟨rfl, unhide B2⟩
 go_wp2_with fail
 refine (sin el 0 1000 _).mono ?_
 rintro e w1 ⟨rfl, rfl⟩
 rw [c6]
 have Hc6 := hide c6
 clear c6
 rcases bdic (inB wt 5 100) with c7 | c7
 ·have hR : R = false := by rw [unhide HRR, c7]; simp
  go_wp2_with fail
  refine (sin wt 5 100 _).mono ?_
  rintro e w1 ⟨rfl, rfl⟩
  rw [c7]
  subst hR
  go_wp2_with fail
  go_ret
  exact ⟨rfl, unhide B2⟩
 go_wp2_with fail
 refine (sin wt 5 100 _).mono ?_
 rintro e w1 ⟨rfl, rfl⟩
 rw [c7]
 have Hc7 := hide c7
 clear c7
 by_cases hx : (nx : Int) = nd
 rotate_left
 ·have hR : R = false := by rw [unhide HRR, decide_eq_false hx]; simp
  have nx1 : ((nx : Int) != nd) = true := by simpa using hx
  subst hR
  go_wp2_with fail
  go_ret
  exact ⟨rfl, unhide B2⟩
 have nx1 : ((nx : Int) != nd) = false := by simpa using hx
 by_cases hg : (ng : Int) = nd
 rotate_left
 ·have hR : R = false := by rw [unhide HRR, decide_eq_false hg]; simp
  have ng1 : ((ng : Int) != nd) = true := by simpa using hg
  clear hx
  subst hR
  go_wp2_with fail
  go_ret
  exact ⟨rfl, unhide B2⟩
 have ng1 : ((ng : Int) != nd) = false := by simpa using hg
 have Hx := hide hx
 have Hg := hide hg
 clear hx hg
 have hUP : (up = true ∨ (up = false ∧ (ro != 0) = false ∧ ro = 0)) ∨ (up = false ∧ (ro != 0) = true ∧ ro ≠ 0) := by
  cases up with
  | true => exact .inl (.inl rfl)
  | false =>
   by_cases h : ro = 0
   ·exact .inl (.inr ⟨rfl, by simpa using h, h⟩)
   ·exact .inr ⟨rfl, by simpa using h, h⟩
 rcases hUP with hUP | ⟨rfl, hz, hz2⟩
 rotate_left
 ·have hR : R = false := by rw [unhide HRR, decide_eq_false hz2]; simp
  clear hz2
  subst hR
  go_wp2_with fail
  go_ret
  exact ⟨rfl, unhide B2⟩
 have HQ0 : Hid (R = (upB nd 0 lv && plB (n : Int) (lx.drop 0) (lg.drop 0))) := by
  show _ = _
  rw [unhide HRR, unhide Hc0, unhide Hc1, decide_eq_true (unhide Hv), unhide Hc4, unhide Hc5, unhide Hc6, unhide Hc7, decide_eq_true (unhide Hx), decide_eq_true (unhide Hg), List.drop_zero, List.drop_zero]
  rcases hUP with rfl | ⟨rfl, -, h⟩
  ·simp
  ·simp [h]
 clear HRR Hc0 Hc1 Hv Hc4 Hc5 Hc6 Hc7
 have e3 : IntKind.i64.wrap ((n : Int) + 1) = (n : Int) + 1 := wrapi _ (by omega) (by omega)
 rcases hUP with rfl | ⟨rfl, hz, hz2⟩
 ·try clear hz2
  go_wp2_with fail
  clear nx1 ng1
  try clear hz
  go_loopw [3] (fun i wr => ∃ (k : Nat), k ≤ nx ∧ i = .int .i64 k ∧ Hid (R = (upB nd 0 lv && plB (n : Int) (lx.drop k) (lg.drop k))) ∧ Hid (BF w.heap.size #[.int .i64 id, .int .i64 nd, .int .i64 tm, .int .i64 vt, .int .i64 ro, .bool true, .slice a n cap, .int .i64 cm, .int .i64 el, .int .i64 wt, .slice av nv cv, .slice ax nx cx, .slice ag ng cg] wr) ∧ Hid (Below w.heap.size w wr)) (fun i _ => nx - (intOf i).toNat)
  case atStart => exact ⟨0, by omega, rfl, HQ0, A2, B2⟩
  case round =>
   clear HQ0 a2 A2 B2 dv
   obtain ⟨k, hk, rfl, HQ, A1, B1⟩ := hrel
   have a1 := (unhide A1).S
   by_cases hlt : k < nx
   ·have hltg : k < ng := by have := unhide Hx; have := unhide Hg; omega
    have hknd : (k : Int) < nd := by have := unhide Hx; omega
    obtain ⟨b, off, ha, hblt, hc⟩ := (unhide HRx).at (by rw [cI_len, unhide HNx]; omega)
    subst ha
    obtain ⟨b2, off2, ha2, hblt2, hc2⟩ := (unhide HRg).at (by rw [cI_len, unhide HNg]; omega)
    subst ha2
    have hlk : k < lx.length := by rw [unhide HNx]; exact hlt
    have hlk2 : k < lg.length := by rw [unhide HNg]; exact hltg
    obtain ⟨t, et⟩ : ∃ t, t = lx[k] := ⟨_, rfl⟩
    obtain ⟨u, eu⟩ : ∃ u, u = lg[k] := ⟨_, rfl⟩
    have x0 := hc k _ (cI_at lx k hlk)
    have y0 := hc2 k _ (cI_at lg k hlk2)
    rw [← et] at x0
    rw [← eu] at y0
    have hx0 : wr.cell? ⟨b, off + k, none⟩ = some (.int .i64 t) := ((unhide B1).cell (p := ⟨b, off + k, none⟩) hblt).trans x0
    have hy0 : wr.cell? ⟨b2, off2 + k, none⟩ = some (.int .i64 u) := ((unhide B1).cell (p := ⟨b2, off2 + k, none⟩) hblt2).trans y0
    have hq := unhide HQ
    rw [plB_step (n : Int) lx lg k hlk hlk2, ← et, ← eu] at hq
    have HQ2 := hide hq
    have hlt' : (k : Int) < (nx : Int) := by omega
    have hltg' : (k : Int) < (ng : Int) := by omega
    have hlt0 : (0 : Int) ≤ (k : Int) := by omega
    have k1 : (∀ o, wr.cell? ⟨w.heap.size, o, none⟩ = (#[.int .i64 id, .int .i64 nd, .int .i64 tm, .int .i64 vt, .int .i64 ro, .bool true, .slice a n cap, .int .i64 cm, .int .i64 el, .int .i64 wt, .slice av nv cv, .slice (some ⟨b, off, none⟩) nx cx, .slice (some ⟨b2, off2, none⟩) ng cg] : Array Value)[o]?) ∧ wr.cell? ⟨b, off + k, none⟩ = some (.int .i64 t) ∧ wr.cell? ⟨b2, off2 + k, none⟩ = some (.int .i64 u) := ⟨a1, hx0, hy0⟩
    clear hc x0 et hq HQ hc2 y0 eu hlk hlk2 hx0 hy0
    rcases bdic (inB t 1 ((n : Int) + 1)) with d1 | d1
    ·have hR : R = false := by rw [unhide HQ2, d1]; simp
     subst hR
     clear HQ2
     go_wp2_with fail
     refine wp_region_held_drew (S := fun w' => (∀ o, w'.cell? ⟨w.heap.size, o, none⟩ = (#[.int .i64 id, .int .i64 nd, .int .i64 tm, .int .i64 vt, .int .i64 ro, .bool true, .slice a n cap, .int .i64 cm, .int .i64 el, .int .i64 wt, .slice av nv cv, .slice (some ⟨b, off, none⟩) nx cx, .slice (some ⟨b2, off2, none⟩) ng cg] : Array Value)[o]?) ∧ w'.cell? ⟨b, off + k, none⟩ = some (.int .i64 t) ∧ w'.cell? ⟨b2, off2 + k, none⟩ = some (.int .i64 u)) (by kernel_rfl) k1 (fun hHeld => ?_)
     refine wtv 0 (oi := oNdS0) ?_
     refine wtv 1 (oi := oNdS1) ?_
     refine wtv 2 (oi := oNdS2) ?_
     refine wtv 3 (oi := oNdS3) ?_
     refine wtv 4 (oi := oNdS4) ?_
     refine wtv 5 (oi := oNdS5) ?_
     refine wtv 6 (oi := oNdS6) ?_
     refine wtv 7 (oi := oNdS7) ?_
     refine wtv 8 (oi := oNdS8) ?_
     refine wpAnyH_ready (rs := [9]) (by kernel_rfl) (by simp) ?_
     refine AllReadyH.cons (o := oNdS9) rfl (fun K hK => ?_) AllReadyH.nil
     go_simp
     refine (sin t 1 ((n : Int) + 1) _).mono ?_
     rintro e w2 ⟨rfl, rfl⟩
     rw [d1]
     go_wp2_with fail
     refine hK.out _ _ ?_ (fun hHeld9 => ?_)
     ·exact k1
     clear hK K
     try simp only [Act.put, qqA, qqB, qqC]
     refine wtv 10 (oi := oNdS10) ?_
     refine wtv 11 (oi := oNdS11) ?_
     refine wtu 12 (oi := oNdS12) ?_
     refine wtu 13 (oi := oNdS13) ?_
     refine wtu 14 (oi := oNdS14) ?_
     refine wtu 15 (oi := oNdS15) ?_
     refine wtu 16 (oi := oNdS16) ?_
     refine wtu 17 (oi := oNdS17) ?_
     refine wtu 18 (oi := oNdS18) ?_
     refine wtu 19 (oi := oNdS19) ?_
     refine wtu 20 (oi := oNdS20) ?_
     refine wtu 21 (oi := oNdS21) ?_
     refine wtu 22 (oi := oNdS22) ?_
     refine wtu 23 (oi := oNdS23) ?_
     refine wtu 24 (oi := oNdS24) ?_
     refine wtv 25 (oi := oNdS25) ?_
     refine wpAnyH_done (by kernel_rfl) ?_ _
     go_wp2_with fail
     go_ret
     exact ⟨rfl, (unhide B1).drew⟩
    ·have hb : 1 ≤ t ∧ t ≤ (n : Int) + 1 := by have := d1; unfold inB at this; simpa using this
     have e2 : IntKind.i64.wrap (t - 1) = t - 1 := wrapi _ (by omega) (by omega)
     clear hb
     rcases bdic (inB u 0 (t - 1)) with d2 | d2
     ·have hR : R = false := by rw [unhide HQ2, d2]; simp
      subst hR
      clear HQ2
      go_wp2_with fail
      refine wp_region_held_drew (S := fun w' => (∀ o, w'.cell? ⟨w.heap.size, o, none⟩ = (#[.int .i64 id, .int .i64 nd, .int .i64 tm, .int .i64 vt, .int .i64 ro, .bool true, .slice a n cap, .int .i64 cm, .int .i64 el, .int .i64 wt, .slice av nv cv, .slice (some ⟨b, off, none⟩) nx cx, .slice (some ⟨b2, off2, none⟩) ng cg] : Array Value)[o]?) ∧ w'.cell? ⟨b, off + k, none⟩ = some (.int .i64 t) ∧ w'.cell? ⟨b2, off2 + k, none⟩ = some (.int .i64 u)) (by kernel_rfl) k1 (fun hHeld => ?_)
      refine wtv 0 (oi := oNdS0) ?_
      refine wtv 1 (oi := oNdS1) ?_
      refine wtv 2 (oi := oNdS2) ?_
      refine wtv 3 (oi := oNdS3) ?_
      refine wtv 4 (oi := oNdS4) ?_
      refine wtv 5 (oi := oNdS5) ?_
      refine wtv 6 (oi := oNdS6) ?_
      refine wtv 7 (oi := oNdS7) ?_
      refine wtv 8 (oi := oNdS8) ?_
      refine wpAnyH_ready (rs := [9]) (by kernel_rfl) (by simp) ?_
      refine AllReadyH.cons (o := oNdS9) rfl (fun K hK => ?_) AllReadyH.nil
      go_simp
      refine (sin t 1 ((n : Int) + 1) _).mono ?_
      rintro e w2 ⟨rfl, rfl⟩
      rw [d1]
      go_wp2_with fail
      refine hK.out _ _ ?_ (fun hHeld9 => ?_)
      ·exact k1
      clear hK K
      try simp only [Act.put, qqA, qqB, qqC]
      refine wtv 10 (oi := oNdS10) ?_
      refine wtv 11 (oi := oNdS11) ?_
      refine wtv 12 (oi := oNdS12) ?_
      refine wtv 13 (oi := oNdS13) ?_
      refine wtv 14 (oi := oNdS14) ?_
      refine wtv 15 (oi := oNdS15) ?_
      refine wtv 16 (oi := oNdS16) ?_
      refine wtv 17 (oi := oNdS17) ?_
      refine wtv 18 (oi := oNdS18) ?_
      refine wtv 19 (oi := oNdS19) ?_
      refine wtv 20 (oi := oNdS20) ?_
      refine wtv 21 (oi := oNdS21) ?_
      refine wtv 22 (oi := oNdS22) ?_
      refine wpAnyH_ready (rs := [23]) (by kernel_rfl) (by simp) ?_
      refine AllReadyH.cons (o := oNdS23) rfl (fun K hK => ?_) AllReadyH.nil
      go_simp
      refine (sin u 0 (t - 1) _).mono ?_
      rintro e w2 ⟨rfl, rfl⟩
      rw [d2]
      go_wp2_with fail
      refine hK.out _ _ ?_ (fun hHeld23 => ?_)
      ·exact k1
      clear hK K
      try simp only [Act.put, qqA, qqB, qqC]
      refine wtv 24 (oi := oNdS24) ?_
      refine wtv 25 (oi := oNdS25) ?_
      refine wpAnyH_done (by kernel_rfl) ?_ _
      go_wp2_with fail
      go_ret
      exact ⟨rfl, (unhide B1).drew⟩
     ·have HQ3 : Hid (R = (upB nd 0 lv && plB (n : Int) (lx.drop (k + 1)) (lg.drop (k + 1)))) := by show _ = _; rw [unhide HQ2, d1, d2]; simp
      clear HQ2
      go_wp2_with fail
      refine wp_region_held_drew (S := fun w' => (∀ o, w'.cell? ⟨w.heap.size, o, none⟩ = (#[.int .i64 id, .int .i64 nd, .int .i64 tm, .int .i64 vt, .int .i64 ro, .bool true, .slice a n cap, .int .i64 cm, .int .i64 el, .int .i64 wt, .slice av nv cv, .slice (some ⟨b, off, none⟩) nx cx, .slice (some ⟨b2, off2, none⟩) ng cg] : Array Value)[o]?) ∧ w'.cell? ⟨b, off + k, none⟩ = some (.int .i64 t) ∧ w'.cell? ⟨b2, off2 + k, none⟩ = some (.int .i64 u)) (by kernel_rfl) k1 (fun hHeld => ?_)
      refine wtv 0 (oi := oNdS0) ?_
      refine wtv 1 (oi := oNdS1) ?_
      refine wtv 2 (oi := oNdS2) ?_
      refine wtv 3 (oi := oNdS3) ?_
      refine wtv 4 (oi := oNdS4) ?_
      refine wtv 5 (oi := oNdS5) ?_
      refine wtv 6 (oi := oNdS6) ?_
      refine wtv 7 (oi := oNdS7) ?_
      refine wtv 8 (oi := oNdS8) ?_
      refine wpAnyH_ready (rs := [9]) (by kernel_rfl) (by simp) ?_
      refine AllReadyH.cons (o := oNdS9) rfl (fun K hK => ?_) AllReadyH.nil
      go_simp
      refine (sin t 1 ((n : Int) + 1) _).mono ?_
      rintro e w2 ⟨rfl, rfl⟩
      rw [d1]
      go_wp2_with fail
      refine hK.out _ _ ?_ (fun hHeld9 => ?_)
      ·exact k1
      clear hK K
      try simp only [Act.put, qqA, qqB, qqC]
      refine wtv 10 (oi := oNdS10) ?_
      refine wtv 11 (oi := oNdS11) ?_
      refine wtv 12 (oi := oNdS12) ?_
      refine wtv 13 (oi := oNdS13) ?_
      refine wtv 14 (oi := oNdS14) ?_
      refine wtv 15 (oi := oNdS15) ?_
      refine wtv 16 (oi := oNdS16) ?_
      refine wtv 17 (oi := oNdS17) ?_
      refine wtv 18 (oi := oNdS18) ?_
      refine wtv 19 (oi := oNdS19) ?_
      refine wtv 20 (oi := oNdS20) ?_
      refine wtv 21 (oi := oNdS21) ?_
      refine wtv 22 (oi := oNdS22) ?_
      refine wpAnyH_ready (rs := [23]) (by kernel_rfl) (by simp) ?_
      refine AllReadyH.cons (o := oNdS23) rfl (fun K hK => ?_) AllReadyH.nil
      go_simp
      refine (sin u 0 (t - 1) _).mono ?_
      rintro e w2 ⟨rfl, rfl⟩
      rw [d2]
      go_wp2_with fail
      refine hK.out _ _ ?_ (fun hHeld23 => ?_)
      ·exact k1
      clear hK K
      try simp only [Act.put, qqA, qqB, qqC]
      refine wtv 24 (oi := oNdS24) ?_
      refine wtv 25 (oi := oNdS25) ?_
      refine wpAnyH_done (by kernel_rfl) ?_ _
      clear k1
      go_wp2_with fail
      go_roundw
      case rel => exact ⟨k + 1, by omega, by go_num, HQ3, (unhide A1).drew, (unhide B1).drew⟩
      case measure => simp [intOf]; omega
   ·have hknd : ¬ (k : Int) < nd := by have := unhide Hx; omega
    have HV0 : Hid (R = upB nd 0 (lv.drop 0)) := by show _ = _; rw [unhide HQ, plB_end _ _ _ _ (by rw [unhide HNx]; omega), List.drop_zero]; simp
    clear HQ
    have A2 := A1
    have B2 := B1
    clear A1 B1
    obtain ⟨w5, hw5⟩ : ∃ w5, w5 = wr := ⟨_, rfl⟩
    subst hw5
    go_wp2_with fail
    clear a1 hknd hlt
    go_loopw [4] (fun i wr => ∃ (k : Nat) (q : Int), k ≤ nv ∧ i = .int .i64 k ∧ Hid (q = prevV lv k) ∧ 0 ≤ q ∧ Hid (R = upB nd q (lv.drop k)) ∧ Hid (BF w.heap.size #[.int .i64 id, .int .i64 nd, .int .i64 tm, .int .i64 vt, .int .i64 ro, .bool true, .slice a n cap, .int .i64 cm, .int .i64 el, .int .i64 wt, .slice av nv cv, .slice ax nx cx, .slice ag ng cg] wr) ∧ Hid (Below w.heap.size w wr)) (fun i _ => nv - (intOf i).toNat)
    case atStart => exact ⟨0, 0, by omega, rfl, (prevV_zero lv).symm, by omega, HV0, A2, B2⟩
    case round =>
     clear HV0 A2 B2 hk HRx HRg Hx Hg
     obtain ⟨k, q, hk, rfl, HP, hq0, HQ, A1, B1⟩ := hrel
     have a1 := (unhide A1).S
     by_cases hlt : k < nv
     ·obtain ⟨b, off, ha, hblt, hc⟩ := (unhide HRv).at (by rw [cI_len, unhide HNv]; omega)
      subst ha
      have hlk : k < lv.length := by rw [unhide HNv]; exact hlt
      obtain ⟨t, et⟩ : ∃ t, t = lv[k] := ⟨_, rfl⟩
      have x0 := hc k _ (cI_at lv k hlk)
      rw [← et] at x0
      have hx0 : wr.cell? ⟨b, off + k, none⟩ = some (.int .i64 t) := ((unhide B1).cell (p := ⟨b, off + k, none⟩) hblt).trans x0
      have hq := (unhide HQ).trans (upB_step nd q lv k hlk)
      rw [← et] at hq
      have HQ2 := hide hq
      have HP2 : Hid (t + 1 = prevV lv (k + 1)) := by show _ = _; rw [prevV_succ lv k hlk, et]
      have hlt' : (k : Int) < (nv : Int) := by omega
      have hlt0 : (0 : Int) ≤ (k : Int) := by omega
      have k1 : (∀ o, wr.cell? ⟨w.heap.size, o, none⟩ = (#[.int .i64 id, .int .i64 nd, .int .i64 tm, .int .i64 vt, .int .i64 ro, .bool true, .slice a n cap, .int .i64 cm, .int .i64 el, .int .i64 wt, .slice (some ⟨b, off, none⟩) nv cv, .slice ax nx cx, .slice ag ng cg] : Array Value)[o]?) ∧ wr.cell? ⟨b, off + k, none⟩ = some (.int .i64 t) := ⟨a1, hx0⟩
      clear x0 et hq HQ hx0 hlk
      rcases bdic (inB t 0 (nd - 1)) with d1 | d1
      ·have hR : R = false := by
        rw [unhide HQ2, show inB t q (nd - 1) = false from by unfold inB at d1 ⊢; simp at d1 ⊢; omega]; rfl
       subst hR
       clear HQ2 hc
       go_wp2_with fail
       refine wp_region_held_drew (S := fun w' => (∀ o, w'.cell? ⟨w.heap.size, o, none⟩ = (#[.int .i64 id, .int .i64 nd, .int .i64 tm, .int .i64 vt, .int .i64 ro, .bool true, .slice a n cap, .int .i64 cm, .int .i64 el, .int .i64 wt, .slice (some ⟨b, off, none⟩) nv cv, .slice ax nx cx, .slice ag ng cg] : Array Value)[o]?) ∧ w'.cell? ⟨b, off + k, none⟩ = some (.int .i64 t)) (by kernel_rfl) k1 (fun hHeld => ?_)
       refine wtv 0 (oi := oNdS26) ?_
       refine wtv 1 (oi := oNdS27) ?_
       refine wtv 2 (oi := oNdS28) ?_
       refine wtv 3 (oi := oNdS29) ?_
       refine wtv 4 (oi := oNdS30) ?_
       refine wtv 5 (oi := oNdS31) ?_
       refine wtv 6 (oi := oNdS32) ?_
       refine wtv 7 (oi := oNdS33) ?_
       refine wpAnyH_ready (rs := [8]) (by kernel_rfl) (by simp) ?_
       refine AllReadyH.cons (o := oNdS34) rfl (fun K hK => ?_) AllReadyH.nil
       go_simp
       refine (sin t 0 (nd - 1) _).mono ?_
       rintro e w2 ⟨rfl, rfl⟩
       rw [d1]
       go_wp2_with fail
       refine hK.out _ _ ?_ (fun hHeld8 => ?_)
       ·exact k1
       clear hK K
       try simp only [Act.put, qqA, qqB, qqC]
       refine wtv 9 (oi := oNdS35) ?_
       refine wtv 10 (oi := oNdS36) ?_
       refine wtu 11 (oi := oNdS37) ?_
       refine wtu 12 (oi := oNdS38) ?_
       refine wtu 13 (oi := oNdS39) ?_
       refine wtu 14 (oi := oNdS40) ?_
       refine wtu 15 (oi := oNdS41) ?_
       refine wtu 16 (oi := oNdS42) ?_
       refine wtu 17 (oi := oNdS43) ?_
       refine wtu 18 (oi := oNdS44) ?_
       refine wtu 19 (oi := oNdS45) ?_
       refine wtu 20 (oi := oNdS46) ?_
       refine wtu 21 (oi := oNdS47) ?_
       refine wtu 22 (oi := oNdS48) ?_
       refine wtu 23 (oi := oNdS49) ?_
       refine wtu 24 (oi := oNdS50) ?_
       refine wtu 25 (oi := oNdS51) ?_
       refine wtu 26 (oi := oNdS52) ?_
       refine wtv 27 (oi := oNdS53) ?_
       refine wpAnyH_done (by kernel_rfl) ?_ _
       go_wp2_with fail
       go_ret
       exact ⟨rfl, (unhide B1).drew⟩
      ·have hb : 0 ≤ t ∧ t ≤ nd - 1 := by have := d1; unfold inB at this; simpa using this
       have ht1 : 0 ≤ t + 1 := by omega
       by_cases hk0 : k = 0
       ·have q1 : q = 0 := by rw [unhide HP, hk0]; exact prevV_zero lv
        have hkpos : decide (0 < k) = false := decide_eq_false (by omega)
        have HQ3 : Hid (R = upB nd (t + 1) (lv.drop (k + 1))) := by show _ = _; rw [unhide HQ2, q1, d1]; rfl
        clear HQ2 hc hk0 q1 hb HP
        go_wp2_with fail
        refine wp_region_held_drew (S := fun w' => (∀ o, w'.cell? ⟨w.heap.size, o, none⟩ = (#[.int .i64 id, .int .i64 nd, .int .i64 tm, .int .i64 vt, .int .i64 ro, .bool true, .slice a n cap, .int .i64 cm, .int .i64 el, .int .i64 wt, .slice (some ⟨b, off, none⟩) nv cv, .slice ax nx cx, .slice ag ng cg] : Array Value)[o]?) ∧ w'.cell? ⟨b, off + k, none⟩ = some (.int .i64 t)) (by kernel_rfl) k1 (fun hHeld => ?_)
        refine wtv 0 (oi := oNdS26) ?_
        refine wtv 1 (oi := oNdS27) ?_
        refine wtv 2 (oi := oNdS28) ?_
        refine wtv 3 (oi := oNdS29) ?_
        refine wtv 4 (oi := oNdS30) ?_
        refine wtv 5 (oi := oNdS31) ?_
        refine wtv 6 (oi := oNdS32) ?_
        refine wtv 7 (oi := oNdS33) ?_
        refine wpAnyH_ready (rs := [8]) (by kernel_rfl) (by simp) ?_
        refine AllReadyH.cons (o := oNdS34) rfl (fun K hK => ?_) AllReadyH.nil
        go_simp
        refine (sin t 0 (nd - 1) _).mono ?_
        rintro e w2 ⟨rfl, rfl⟩
        rw [d1]
        go_wp2_with fail
        refine hK.out _ _ ?_ (fun hHeld8 => ?_)
        ·exact k1
        clear hK K
        try simp only [Act.put, qqA, qqB, qqC]
        refine wtv 9 (oi := oNdS35) ?_
        refine wtv 10 (oi := oNdS36) ?_
        refine wtv 11 (oi := oNdS37) ?_
        refine wtv 12 (oi := oNdS38) ?_
        refine wtv 13 (oi := oNdS39) ?_
        refine wtu 14 (oi := oNdS40) ?_
        refine wtu 15 (oi := oNdS41) ?_
        refine wtu 16 (oi := oNdS42) ?_
        refine wtu 17 (oi := oNdS43) ?_
        refine wtu 18 (oi := oNdS44) ?_
        refine wtu 19 (oi := oNdS45) ?_
        refine wtu 20 (oi := oNdS46) ?_
        refine wtu 21 (oi := oNdS47) ?_
        refine wtu 22 (oi := oNdS48) ?_
        refine wtu 23 (oi := oNdS49) ?_
        refine wtu 24 (oi := oNdS50) ?_
        refine wtu 25 (oi := oNdS51) ?_
        refine wtv 26 (oi := oNdS52) ?_
        refine wtv 27 (oi := oNdS53) ?_
        refine wpAnyH_done (by kernel_rfl) ?_ _
        clear k1
        go_wp2_with fail
        go_roundw
        case rel => exact ⟨k + 1, t + 1, by omega, by go_num, HP2, ht1, HQ3, (unhide A1).drew, (unhide B1).drew⟩
        case measure => simp [intOf]; omega
       ·obtain ⟨j, hj⟩ : ∃ j, k = j + 1 := ⟨k - 1, by omega⟩
        have hjl : j < lv.length := by rw [unhide HNv]; omega
        obtain ⟨p, ep⟩ : ∃ p, p = lv[j] := ⟨_, rfl⟩
        have hqk : q = p + 1 := by have h := prevV_succ lv j hjl; rw [← hj] at h; rw [ep]; exact (unhide HP).trans h
        have hxp : wr.cell? ⟨b, off + j, none⟩ = some (.int .i64 p) := by rw [ep]; exact ((unhide B1).cell (p := ⟨b, off + j, none⟩) hblt).trans (hc j _ (cI_at lv j hjl))
        have hw1 : IntKind.i64.wrap ((k : Int) - 1) = (j : Int) := by rw [wrapi _ (by omega) (by omega)]; omega
        have hj1 : (j : Int) < (nv : Int) := by omega
        have hj0 : (0 : Int) ≤ (j : Int) := by omega
        have hkpos : decide (0 < k) = true := decide_eq_true (by omega)
        replace k1 : (∀ o, wr.cell? ⟨w.heap.size, o, none⟩ = (#[.int .i64 id, .int .i64 nd, .int .i64 tm, .int .i64 vt, .int .i64 ro, .bool true, .slice a n cap, .int .i64 cm, .int .i64 el, .int .i64 wt, .slice (some ⟨b, off, none⟩) nv cv, .slice ax nx cx, .slice ag ng cg] : Array Value)[o]?) ∧ wr.cell? ⟨b, off + k, none⟩ = some (.int .i64 t) ∧ wr.cell? ⟨b, off + j, none⟩ = some (.int .i64 p) := ⟨k1.1, k1.2, hxp⟩
        by_cases hpt : p < t
        ·have HQ3 : Hid (R = upB nd (t + 1) (lv.drop (k + 1))) := by
          show _ = _
          rw [unhide HQ2, show inB t q (nd - 1) = true from by unfold inB; simp; omega]; rfl
         have dp : decide (t ≤ p) = false := decide_eq_false (by omega)
         clear HQ2 hc hk0 hb HP hqk hxp ep hjl hj hpt
         go_wp2_with fail
         refine wp_region_held_drew (S := fun w' => (∀ o, w'.cell? ⟨w.heap.size, o, none⟩ = (#[.int .i64 id, .int .i64 nd, .int .i64 tm, .int .i64 vt, .int .i64 ro, .bool true, .slice a n cap, .int .i64 cm, .int .i64 el, .int .i64 wt, .slice (some ⟨b, off, none⟩) nv cv, .slice ax nx cx, .slice ag ng cg] : Array Value)[o]?) ∧ w'.cell? ⟨b, off + k, none⟩ = some (.int .i64 t) ∧ w'.cell? ⟨b, off + j, none⟩ = some (.int .i64 p)) (by kernel_rfl) k1 (fun hHeld => ?_)
         refine wtv 0 (oi := oNdS26) ?_
         refine wtv 1 (oi := oNdS27) ?_
         refine wtv 2 (oi := oNdS28) ?_
         refine wtv 3 (oi := oNdS29) ?_
         refine wtv 4 (oi := oNdS30) ?_
         refine wtv 5 (oi := oNdS31) ?_
         refine wtv 6 (oi := oNdS32) ?_
         refine wtv 7 (oi := oNdS33) ?_
         refine wpAnyH_ready (rs := [8]) (by kernel_rfl) (by simp) ?_
         refine AllReadyH.cons (o := oNdS34) rfl (fun K hK => ?_) AllReadyH.nil
         go_simp
         refine (sin t 0 (nd - 1) _).mono ?_
         rintro e w2 ⟨rfl, rfl⟩
         rw [d1]
         go_wp2_with fail
         refine hK.out _ _ ?_ (fun hHeld8 => ?_)
         ·exact k1
         clear hK K
         try simp only [Act.put, qqA, qqB, qqC]
         refine wtv 9 (oi := oNdS35) ?_
         refine wtv 10 (oi := oNdS36) ?_
         refine wtv 11 (oi := oNdS37) ?_
         refine wtv 12 (oi := oNdS38) ?_
         refine wtv 13 (oi := oNdS39) ?_
         refine wtv 14 (oi := oNdS40) ?_
         refine wtv 15 (oi := oNdS41) ?_
         refine wtv 16 (oi := oNdS42) ?_
         refine wtv 17 (oi := oNdS43) ?_
         refine wtv 18 (oi := oNdS44) ?_
         refine wtv 19 (oi := oNdS45) ?_
         refine wtv 20 (oi := oNdS46) ?_
         refine wtv 21 (oi := oNdS47) ?_
         refine wtv 22 (oi := oNdS48) ?_
         refine wtv 23 (oi := oNdS49) ?_
         refine wtv 24 (oi := oNdS50) ?_
         refine wtv 25 (oi := oNdS51) ?_
         refine wtv 26 (oi := oNdS52) ?_
         refine wtv 27 (oi := oNdS53) ?_
         refine wpAnyH_done (by kernel_rfl) ?_ _
         clear k1
         go_wp2_with fail
         go_roundw
         case rel => exact ⟨k + 1, t + 1, by omega, by go_num, HP2, ht1, HQ3, (unhide A1).drew, (unhide B1).drew⟩
         case measure => simp [intOf]; omega
        ·have hR : R = false := by
          rw [unhide HQ2, show inB t q (nd - 1) = false from by unfold inB; simp; omega]; rfl
         have dp : decide (t ≤ p) = true := decide_eq_true (by omega)
         subst hR
         clear HQ2 hc hk0 hb HP hqk hxp ep hjl hj hpt
         go_wp2_with fail
         refine wp_region_held_drew (S := fun w' => (∀ o, w'.cell? ⟨w.heap.size, o, none⟩ = (#[.int .i64 id, .int .i64 nd, .int .i64 tm, .int .i64 vt, .int .i64 ro, .bool true, .slice a n cap, .int .i64 cm, .int .i64 el, .int .i64 wt, .slice (some ⟨b, off, none⟩) nv cv, .slice ax nx cx, .slice ag ng cg] : Array Value)[o]?) ∧ w'.cell? ⟨b, off + k, none⟩ = some (.int .i64 t) ∧ w'.cell? ⟨b, off + j, none⟩ = some (.int .i64 p)) (by kernel_rfl) k1 (fun hHeld => ?_)
         refine wtv 0 (oi := oNdS26) ?_
         refine wtv 1 (oi := oNdS27) ?_
         refine wtv 2 (oi := oNdS28) ?_
         refine wtv 3 (oi := oNdS29) ?_
         refine wtv 4 (oi := oNdS30) ?_
         refine wtv 5 (oi := oNdS31) ?_
         refine wtv 6 (oi := oNdS32) ?_
         refine wtv 7 (oi := oNdS33) ?_
         refine wpAnyH_ready (rs := [8]) (by kernel_rfl) (by simp) ?_
         refine AllReadyH.cons (o := oNdS34) rfl (fun K hK => ?_) AllReadyH.nil
         go_simp
         refine (sin t 0 (nd - 1) _).mono ?_
         rintro e w2 ⟨rfl, rfl⟩
         rw [d1]
         go_wp2_with fail
         refine hK.out _ _ ?_ (fun hHeld8 => ?_)
         ·exact k1
         clear hK K
         try simp only [Act.put, qqA, qqB, qqC]
         refine wtv 9 (oi := oNdS35) ?_
         refine wtv 10 (oi := oNdS36) ?_
         refine wtv 11 (oi := oNdS37) ?_
         refine wtv 12 (oi := oNdS38) ?_
         refine wtv 13 (oi := oNdS39) ?_
         refine wtv 14 (oi := oNdS40) ?_
         refine wtv 15 (oi := oNdS41) ?_
         refine wtv 16 (oi := oNdS42) ?_
         refine wtv 17 (oi := oNdS43) ?_
         refine wtv 18 (oi := oNdS44) ?_
         refine wtv 19 (oi := oNdS45) ?_
         refine wtv 20 (oi := oNdS46) ?_
         refine wtv 21 (oi := oNdS47) ?_
         refine wtv 22 (oi := oNdS48) ?_
         refine wtv 23 (oi := oNdS49) ?_
         refine wtv 24 (oi := oNdS50) ?_
         refine wtv 25 (oi := oNdS51) ?_
         refine wtv 26 (oi := oNdS52) ?_
         refine wtv 27 (oi := oNdS53) ?_
         refine wpAnyH_done (by kernel_rfl) ?_ _
         go_wp2_with fail
         go_ret
         exact ⟨rfl, (unhide B1).drew⟩
     ·have hR : R = true := (unhide HQ).trans (upB_end _ _ _ _ (by rw [unhide HNv]; omega))
      subst hR
      go_wp2_with fail
      go_ret
      exact ⟨rfl, unhide B1⟩
 ·try clear hz2
  go_wp2_with fail
  clear nx1 ng1
  try clear hz
  go_loopw [3] (fun i wr => ∃ (k : Nat), k ≤ nx ∧ i = .int .i64 k ∧ Hid (R = (upB nd 0 lv && plB (n : Int) (lx.drop k) (lg.drop k))) ∧ Hid (BF w.heap.size #[.int .i64 id, .int .i64 nd, .int .i64 tm, .int .i64 vt, .int .i64 ro, .bool false, .slice a n cap, .int .i64 cm, .int .i64 el, .int .i64 wt, .slice av nv cv, .slice ax nx cx, .slice ag ng cg] wr) ∧ Hid (Below w.heap.size w wr)) (fun i _ => nx - (intOf i).toNat)
  case atStart => exact ⟨0, by omega, rfl, HQ0, A2, B2⟩
  case round =>
   clear HQ0 a2 A2 B2 dv
   obtain ⟨k, hk, rfl, HQ, A1, B1⟩ := hrel
   have a1 := (unhide A1).S
   by_cases hlt : k < nx
   ·have hltg : k < ng := by have := unhide Hx; have := unhide Hg; omega
    have hknd : (k : Int) < nd := by have := unhide Hx; omega
    obtain ⟨b, off, ha, hblt, hc⟩ := (unhide HRx).at (by rw [cI_len, unhide HNx]; omega)
    subst ha
    obtain ⟨b2, off2, ha2, hblt2, hc2⟩ := (unhide HRg).at (by rw [cI_len, unhide HNg]; omega)
    subst ha2
    have hlk : k < lx.length := by rw [unhide HNx]; exact hlt
    have hlk2 : k < lg.length := by rw [unhide HNg]; exact hltg
    obtain ⟨t, et⟩ : ∃ t, t = lx[k] := ⟨_, rfl⟩
    obtain ⟨u, eu⟩ : ∃ u, u = lg[k] := ⟨_, rfl⟩
    have x0 := hc k _ (cI_at lx k hlk)
    have y0 := hc2 k _ (cI_at lg k hlk2)
    rw [← et] at x0
    rw [← eu] at y0
    have hx0 : wr.cell? ⟨b, off + k, none⟩ = some (.int .i64 t) := ((unhide B1).cell (p := ⟨b, off + k, none⟩) hblt).trans x0
    have hy0 : wr.cell? ⟨b2, off2 + k, none⟩ = some (.int .i64 u) := ((unhide B1).cell (p := ⟨b2, off2 + k, none⟩) hblt2).trans y0
    have hq := unhide HQ
    rw [plB_step (n : Int) lx lg k hlk hlk2, ← et, ← eu] at hq
    have HQ2 := hide hq
    have hlt' : (k : Int) < (nx : Int) := by omega
    have hltg' : (k : Int) < (ng : Int) := by omega
    have hlt0 : (0 : Int) ≤ (k : Int) := by omega
    have k1 : (∀ o, wr.cell? ⟨w.heap.size, o, none⟩ = (#[.int .i64 id, .int .i64 nd, .int .i64 tm, .int .i64 vt, .int .i64 ro, .bool false, .slice a n cap, .int .i64 cm, .int .i64 el, .int .i64 wt, .slice av nv cv, .slice (some ⟨b, off, none⟩) nx cx, .slice (some ⟨b2, off2, none⟩) ng cg] : Array Value)[o]?) ∧ wr.cell? ⟨b, off + k, none⟩ = some (.int .i64 t) ∧ wr.cell? ⟨b2, off2 + k, none⟩ = some (.int .i64 u) := ⟨a1, hx0, hy0⟩
    clear hc x0 et hq HQ hc2 y0 eu hlk hlk2 hx0 hy0
    rcases bdic (inB t 1 ((n : Int) + 1)) with d1 | d1
    ·have hR : R = false := by rw [unhide HQ2, d1]; simp
     subst hR
     clear HQ2
     go_wp2_with fail
     refine wp_region_held_drew (S := fun w' => (∀ o, w'.cell? ⟨w.heap.size, o, none⟩ = (#[.int .i64 id, .int .i64 nd, .int .i64 tm, .int .i64 vt, .int .i64 ro, .bool false, .slice a n cap, .int .i64 cm, .int .i64 el, .int .i64 wt, .slice av nv cv, .slice (some ⟨b, off, none⟩) nx cx, .slice (some ⟨b2, off2, none⟩) ng cg] : Array Value)[o]?) ∧ w'.cell? ⟨b, off + k, none⟩ = some (.int .i64 t) ∧ w'.cell? ⟨b2, off2 + k, none⟩ = some (.int .i64 u)) (by kernel_rfl) k1 (fun hHeld => ?_)
     refine wtv 0 (oi := oNdS0) ?_
     refine wtv 1 (oi := oNdS1) ?_
     refine wtv 2 (oi := oNdS2) ?_
     refine wtv 3 (oi := oNdS3) ?_
     refine wtv 4 (oi := oNdS4) ?_
     refine wtv 5 (oi := oNdS5) ?_
     refine wtv 6 (oi := oNdS6) ?_
     refine wtv 7 (oi := oNdS7) ?_
     refine wtv 8 (oi := oNdS8) ?_
     refine wpAnyH_ready (rs := [9]) (by kernel_rfl) (by simp) ?_
     refine AllReadyH.cons (o := oNdS9) rfl (fun K hK => ?_) AllReadyH.nil
     go_simp
     refine (sin t 1 ((n : Int) + 1) _).mono ?_
     rintro e w2 ⟨rfl, rfl⟩
     rw [d1]
     go_wp2_with fail
     refine hK.out _ _ ?_ (fun hHeld9 => ?_)
     ·exact k1
     clear hK K
     try simp only [Act.put, qqA, qqB, qqC]
     refine wtv 10 (oi := oNdS10) ?_
     refine wtv 11 (oi := oNdS11) ?_
     refine wtu 12 (oi := oNdS12) ?_
     refine wtu 13 (oi := oNdS13) ?_
     refine wtu 14 (oi := oNdS14) ?_
     refine wtu 15 (oi := oNdS15) ?_
     refine wtu 16 (oi := oNdS16) ?_
     refine wtu 17 (oi := oNdS17) ?_
     refine wtu 18 (oi := oNdS18) ?_
     refine wtu 19 (oi := oNdS19) ?_
     refine wtu 20 (oi := oNdS20) ?_
     refine wtu 21 (oi := oNdS21) ?_
     refine wtu 22 (oi := oNdS22) ?_
     refine wtu 23 (oi := oNdS23) ?_
     refine wtu 24 (oi := oNdS24) ?_
     refine wtv 25 (oi := oNdS25) ?_
     refine wpAnyH_done (by kernel_rfl) ?_ _
     go_wp2_with fail
     go_ret
     exact ⟨rfl, (unhide B1).drew⟩
    ·have hb : 1 ≤ t ∧ t ≤ (n : Int) + 1 := by have := d1; unfold inB at this; simpa using this
     have e2 : IntKind.i64.wrap (t - 1) = t - 1 := wrapi _ (by omega) (by omega)
     clear hb
     rcases bdic (inB u 0 (t - 1)) with d2 | d2
     ·have hR : R = false := by rw [unhide HQ2, d2]; simp
      subst hR
      clear HQ2
      go_wp2_with fail
      refine wp_region_held_drew (S := fun w' => (∀ o, w'.cell? ⟨w.heap.size, o, none⟩ = (#[.int .i64 id, .int .i64 nd, .int .i64 tm, .int .i64 vt, .int .i64 ro, .bool false, .slice a n cap, .int .i64 cm, .int .i64 el, .int .i64 wt, .slice av nv cv, .slice (some ⟨b, off, none⟩) nx cx, .slice (some ⟨b2, off2, none⟩) ng cg] : Array Value)[o]?) ∧ w'.cell? ⟨b, off + k, none⟩ = some (.int .i64 t) ∧ w'.cell? ⟨b2, off2 + k, none⟩ = some (.int .i64 u)) (by kernel_rfl) k1 (fun hHeld => ?_)
      refine wtv 0 (oi := oNdS0) ?_
      refine wtv 1 (oi := oNdS1) ?_
      refine wtv 2 (oi := oNdS2) ?_
      refine wtv 3 (oi := oNdS3) ?_
      refine wtv 4 (oi := oNdS4) ?_
      refine wtv 5 (oi := oNdS5) ?_
      refine wtv 6 (oi := oNdS6) ?_
      refine wtv 7 (oi := oNdS7) ?_
      refine wtv 8 (oi := oNdS8) ?_
      refine wpAnyH_ready (rs := [9]) (by kernel_rfl) (by simp) ?_
      refine AllReadyH.cons (o := oNdS9) rfl (fun K hK => ?_) AllReadyH.nil
      go_simp
      refine (sin t 1 ((n : Int) + 1) _).mono ?_
      rintro e w2 ⟨rfl, rfl⟩
      rw [d1]
      go_wp2_with fail
      refine hK.out _ _ ?_ (fun hHeld9 => ?_)
      ·exact k1
      clear hK K
      try simp only [Act.put, qqA, qqB, qqC]
      refine wtv 10 (oi := oNdS10) ?_
      refine wtv 11 (oi := oNdS11) ?_
      refine wtv 12 (oi := oNdS12) ?_
      refine wtv 13 (oi := oNdS13) ?_
      refine wtv 14 (oi := oNdS14) ?_
      refine wtv 15 (oi := oNdS15) ?_
      refine wtv 16 (oi := oNdS16) ?_
      refine wtv 17 (oi := oNdS17) ?_
      refine wtv 18 (oi := oNdS18) ?_
      refine wtv 19 (oi := oNdS19) ?_
      refine wtv 20 (oi := oNdS20) ?_
      refine wtv 21 (oi := oNdS21) ?_
      refine wtv 22 (oi := oNdS22) ?_
      refine wpAnyH_ready (rs := [23]) (by kernel_rfl) (by simp) ?_
      refine AllReadyH.cons (o := oNdS23) rfl (fun K hK => ?_) AllReadyH.nil
      go_simp
      refine (sin u 0 (t - 1) _).mono ?_
      rintro e w2 ⟨rfl, rfl⟩
      rw [d2]
      go_wp2_with fail
      refine hK.out _ _ ?_ (fun hHeld23 => ?_)
      ·exact k1
      clear hK K
      try simp only [Act.put, qqA, qqB, qqC]
      refine wtv 24 (oi := oNdS24) ?_
      refine wtv 25 (oi := oNdS25) ?_
      refine wpAnyH_done (by kernel_rfl) ?_ _
      go_wp2_with fail
      go_ret
      exact ⟨rfl, (unhide B1).drew⟩
     ·have HQ3 : Hid (R = (upB nd 0 lv && plB (n : Int) (lx.drop (k + 1)) (lg.drop (k + 1)))) := by show _ = _; rw [unhide HQ2, d1, d2]; simp
      clear HQ2
      go_wp2_with fail
      refine wp_region_held_drew (S := fun w' => (∀ o, w'.cell? ⟨w.heap.size, o, none⟩ = (#[.int .i64 id, .int .i64 nd, .int .i64 tm, .int .i64 vt, .int .i64 ro, .bool false, .slice a n cap, .int .i64 cm, .int .i64 el, .int .i64 wt, .slice av nv cv, .slice (some ⟨b, off, none⟩) nx cx, .slice (some ⟨b2, off2, none⟩) ng cg] : Array Value)[o]?) ∧ w'.cell? ⟨b, off + k, none⟩ = some (.int .i64 t) ∧ w'.cell? ⟨b2, off2 + k, none⟩ = some (.int .i64 u)) (by kernel_rfl) k1 (fun hHeld => ?_)
      refine wtv 0 (oi := oNdS0) ?_
      refine wtv 1 (oi := oNdS1) ?_
      refine wtv 2 (oi := oNdS2) ?_
      refine wtv 3 (oi := oNdS3) ?_
      refine wtv 4 (oi := oNdS4) ?_
      refine wtv 5 (oi := oNdS5) ?_
      refine wtv 6 (oi := oNdS6) ?_
      refine wtv 7 (oi := oNdS7) ?_
      refine wtv 8 (oi := oNdS8) ?_
      refine wpAnyH_ready (rs := [9]) (by kernel_rfl) (by simp) ?_
      refine AllReadyH.cons (o := oNdS9) rfl (fun K hK => ?_) AllReadyH.nil
      go_simp
      refine (sin t 1 ((n : Int) + 1) _).mono ?_
      rintro e w2 ⟨rfl, rfl⟩
      rw [d1]
      go_wp2_with fail
      refine hK.out _ _ ?_ (fun hHeld9 => ?_)
      ·exact k1
      clear hK K
      try simp only [Act.put, qqA, qqB, qqC]
      refine wtv 10 (oi := oNdS10) ?_
      refine wtv 11 (oi := oNdS11) ?_
      refine wtv 12 (oi := oNdS12) ?_
      refine wtv 13 (oi := oNdS13) ?_
      refine wtv 14 (oi := oNdS14) ?_
      refine wtv 15 (oi := oNdS15) ?_
      refine wtv 16 (oi := oNdS16) ?_
      refine wtv 17 (oi := oNdS17) ?_
      refine wtv 18 (oi := oNdS18) ?_
      refine wtv 19 (oi := oNdS19) ?_
      refine wtv 20 (oi := oNdS20) ?_
      refine wtv 21 (oi := oNdS21) ?_
      refine wtv 22 (oi := oNdS22) ?_
      refine wpAnyH_ready (rs := [23]) (by kernel_rfl) (by simp) ?_
      refine AllReadyH.cons (o := oNdS23) rfl (fun K hK => ?_) AllReadyH.nil
      go_simp
      refine (sin u 0 (t - 1) _).mono ?_
      rintro e w2 ⟨rfl, rfl⟩
      rw [d2]
      go_wp2_with fail
      refine hK.out _ _ ?_ (fun hHeld23 => ?_)
      ·exact k1
      clear hK K
      try simp only [Act.put, qqA, qqB, qqC]
      refine wtv 24 (oi := oNdS24) ?_
      refine wtv 25 (oi := oNdS25) ?_
      refine wpAnyH_done (by kernel_rfl) ?_ _
      clear k1
      go_wp2_with fail
      go_roundw
      case rel => exact ⟨k + 1, by omega, by go_num, HQ3, (unhide A1).drew, (unhide B1).drew⟩
      case measure => simp [intOf]; omega
   ·have hknd : ¬ (k : Int) < nd := by have := unhide Hx; omega
    have HV0 : Hid (R = upB nd 0 (lv.drop 0)) := by show _ = _; rw [unhide HQ, plB_end _ _ _ _ (by rw [unhide HNx]; omega), List.drop_zero]; simp
    clear HQ
    have A2 := A1
    have B2 := B1
    clear A1 B1
    obtain ⟨w5, hw5⟩ : ∃ w5, w5 = wr := ⟨_, rfl⟩
    subst hw5
    go_wp2_with fail
    clear a1 hknd hlt
    go_loopw [4] (fun i wr => ∃ (k : Nat) (q : Int), k ≤ nv ∧ i = .int .i64 k ∧ Hid (q = prevV lv k) ∧ 0 ≤ q ∧ Hid (R = upB nd q (lv.drop k)) ∧ Hid (BF w.heap.size #[.int .i64 id, .int .i64 nd, .int .i64 tm, .int .i64 vt, .int .i64 ro, .bool false, .slice a n cap, .int .i64 cm, .int .i64 el, .int .i64 wt, .slice av nv cv, .slice ax nx cx, .slice ag ng cg] wr) ∧ Hid (Below w.heap.size w wr)) (fun i _ => nv - (intOf i).toNat)
    case atStart => exact ⟨0, 0, by omega, rfl, (prevV_zero lv).symm, by omega, HV0, A2, B2⟩
    case round =>
     clear HV0 A2 B2 hk HRx HRg Hx Hg
     obtain ⟨k, q, hk, rfl, HP, hq0, HQ, A1, B1⟩ := hrel
     have a1 := (unhide A1).S
     by_cases hlt : k < nv
     ·obtain ⟨b, off, ha, hblt, hc⟩ := (unhide HRv).at (by rw [cI_len, unhide HNv]; omega)
      subst ha
      have hlk : k < lv.length := by rw [unhide HNv]; exact hlt
      obtain ⟨t, et⟩ : ∃ t, t = lv[k] := ⟨_, rfl⟩
      have x0 := hc k _ (cI_at lv k hlk)
      rw [← et] at x0
      have hx0 : wr.cell? ⟨b, off + k, none⟩ = some (.int .i64 t) := ((unhide B1).cell (p := ⟨b, off + k, none⟩) hblt).trans x0
      have hq := (unhide HQ).trans (upB_step nd q lv k hlk)
      rw [← et] at hq
      have HQ2 := hide hq
      have HP2 : Hid (t + 1 = prevV lv (k + 1)) := by show _ = _; rw [prevV_succ lv k hlk, et]
      have hlt' : (k : Int) < (nv : Int) := by omega
      have hlt0 : (0 : Int) ≤ (k : Int) := by omega
      have k1 : (∀ o, wr.cell? ⟨w.heap.size, o, none⟩ = (#[.int .i64 id, .int .i64 nd, .int .i64 tm, .int .i64 vt, .int .i64 ro, .bool false, .slice a n cap, .int .i64 cm, .int .i64 el, .int .i64 wt, .slice (some ⟨b, off, none⟩) nv cv, .slice ax nx cx, .slice ag ng cg] : Array Value)[o]?) ∧ wr.cell? ⟨b, off + k, none⟩ = some (.int .i64 t) := ⟨a1, hx0⟩
      clear x0 et hq HQ hx0 hlk
      rcases bdic (inB t 0 (nd - 1)) with d1 | d1
      ·have hR : R = false := by
        rw [unhide HQ2, show inB t q (nd - 1) = false from by unfold inB at d1 ⊢; simp at d1 ⊢; omega]; rfl
       subst hR
       clear HQ2 hc
       go_wp2_with fail
       refine wp_region_held_drew (S := fun w' => (∀ o, w'.cell? ⟨w.heap.size, o, none⟩ = (#[.int .i64 id, .int .i64 nd, .int .i64 tm, .int .i64 vt, .int .i64 ro, .bool false, .slice a n cap, .int .i64 cm, .int .i64 el, .int .i64 wt, .slice (some ⟨b, off, none⟩) nv cv, .slice ax nx cx, .slice ag ng cg] : Array Value)[o]?) ∧ w'.cell? ⟨b, off + k, none⟩ = some (.int .i64 t)) (by kernel_rfl) k1 (fun hHeld => ?_)
       refine wtv 0 (oi := oNdS26) ?_
       refine wtv 1 (oi := oNdS27) ?_
       refine wtv 2 (oi := oNdS28) ?_
       refine wtv 3 (oi := oNdS29) ?_
       refine wtv 4 (oi := oNdS30) ?_
       refine wtv 5 (oi := oNdS31) ?_
       refine wtv 6 (oi := oNdS32) ?_
       refine wtv 7 (oi := oNdS33) ?_
       refine wpAnyH_ready (rs := [8]) (by kernel_rfl) (by simp) ?_
       refine AllReadyH.cons (o := oNdS34) rfl (fun K hK => ?_) AllReadyH.nil
       go_simp
       refine (sin t 0 (nd - 1) _).mono ?_
       rintro e w2 ⟨rfl, rfl⟩
       rw [d1]
       go_wp2_with fail
       refine hK.out _ _ ?_ (fun hHeld8 => ?_)
       ·exact k1
       clear hK K
       try simp only [Act.put, qqA, qqB, qqC]
       refine wtv 9 (oi := oNdS35) ?_
       refine wtv 10 (oi := oNdS36) ?_
       refine wtu 11 (oi := oNdS37) ?_
       refine wtu 12 (oi := oNdS38) ?_
       refine wtu 13 (oi := oNdS39) ?_
       refine wtu 14 (oi := oNdS40) ?_
       refine wtu 15 (oi := oNdS41) ?_
       refine wtu 16 (oi := oNdS42) ?_
       refine wtu 17 (oi := oNdS43) ?_
       refine wtu 18 (oi := oNdS44) ?_
       refine wtu 19 (oi := oNdS45) ?_
       refine wtu 20 (oi := oNdS46) ?_
       refine wtu 21 (oi := oNdS47) ?_
       refine wtu 22 (oi := oNdS48) ?_
       refine wtu 23 (oi := oNdS49) ?_
       refine wtu 24 (oi := oNdS50) ?_
       refine wtu 25 (oi := oNdS51) ?_
       refine wtu 26 (oi := oNdS52) ?_
       refine wtv 27 (oi := oNdS53) ?_
       refine wpAnyH_done (by kernel_rfl) ?_ _
       go_wp2_with fail
       go_ret
       exact ⟨rfl, (unhide B1).drew⟩
      ·have hb : 0 ≤ t ∧ t ≤ nd - 1 := by have := d1; unfold inB at this; simpa using this
       have ht1 : 0 ≤ t + 1 := by omega
       by_cases hk0 : k = 0
       ·have q1 : q = 0 := by rw [unhide HP, hk0]; exact prevV_zero lv
        have hkpos : decide (0 < k) = false := decide_eq_false (by omega)
        have HQ3 : Hid (R = upB nd (t + 1) (lv.drop (k + 1))) := by show _ = _; rw [unhide HQ2, q1, d1]; rfl
        clear HQ2 hc hk0 q1 hb HP
        go_wp2_with fail
        refine wp_region_held_drew (S := fun w' => (∀ o, w'.cell? ⟨w.heap.size, o, none⟩ = (#[.int .i64 id, .int .i64 nd, .int .i64 tm, .int .i64 vt, .int .i64 ro, .bool false, .slice a n cap, .int .i64 cm, .int .i64 el, .int .i64 wt, .slice (some ⟨b, off, none⟩) nv cv, .slice ax nx cx, .slice ag ng cg] : Array Value)[o]?) ∧ w'.cell? ⟨b, off + k, none⟩ = some (.int .i64 t)) (by kernel_rfl) k1 (fun hHeld => ?_)
        refine wtv 0 (oi := oNdS26) ?_
        refine wtv 1 (oi := oNdS27) ?_
        refine wtv 2 (oi := oNdS28) ?_
        refine wtv 3 (oi := oNdS29) ?_
        refine wtv 4 (oi := oNdS30) ?_
        refine wtv 5 (oi := oNdS31) ?_
        refine wtv 6 (oi := oNdS32) ?_
        refine wtv 7 (oi := oNdS33) ?_
        refine wpAnyH_ready (rs := [8]) (by kernel_rfl) (by simp) ?_
        refine AllReadyH.cons (o := oNdS34) rfl (fun K hK => ?_) AllReadyH.nil
        go_simp
        refine (sin t 0 (nd - 1) _).mono ?_
        rintro e w2 ⟨rfl, rfl⟩
        rw [d1]
        go_wp2_with fail
        refine hK.out _ _ ?_ (fun hHeld8 => ?_)
        ·exact k1
        clear hK K
        try simp only [Act.put, qqA, qqB, qqC]
        refine wtv 9 (oi := oNdS35) ?_
        refine wtv 10 (oi := oNdS36) ?_
        refine wtv 11 (oi := oNdS37) ?_
        refine wtv 12 (oi := oNdS38) ?_
        refine wtv 13 (oi := oNdS39) ?_
        refine wtu 14 (oi := oNdS40) ?_
        refine wtu 15 (oi := oNdS41) ?_
        refine wtu 16 (oi := oNdS42) ?_
        refine wtu 17 (oi := oNdS43) ?_
        refine wtu 18 (oi := oNdS44) ?_
        refine wtu 19 (oi := oNdS45) ?_
        refine wtu 20 (oi := oNdS46) ?_
        refine wtu 21 (oi := oNdS47) ?_
        refine wtu 22 (oi := oNdS48) ?_
        refine wtu 23 (oi := oNdS49) ?_
        refine wtu 24 (oi := oNdS50) ?_
        refine wtu 25 (oi := oNdS51) ?_
        refine wtv 26 (oi := oNdS52) ?_
        refine wtv 27 (oi := oNdS53) ?_
        refine wpAnyH_done (by kernel_rfl) ?_ _
        clear k1
        go_wp2_with fail
        go_roundw
        case rel => exact ⟨k + 1, t + 1, by omega, by go_num, HP2, ht1, HQ3, (unhide A1).drew, (unhide B1).drew⟩
        case measure => simp [intOf]; omega
       ·obtain ⟨j, hj⟩ : ∃ j, k = j + 1 := ⟨k - 1, by omega⟩
        have hjl : j < lv.length := by rw [unhide HNv]; omega
        obtain ⟨p, ep⟩ : ∃ p, p = lv[j] := ⟨_, rfl⟩
        have hqk : q = p + 1 := by have h := prevV_succ lv j hjl; rw [← hj] at h; rw [ep]; exact (unhide HP).trans h
        have hxp : wr.cell? ⟨b, off + j, none⟩ = some (.int .i64 p) := by rw [ep]; exact ((unhide B1).cell (p := ⟨b, off + j, none⟩) hblt).trans (hc j _ (cI_at lv j hjl))
        have hw1 : IntKind.i64.wrap ((k : Int) - 1) = (j : Int) := by rw [wrapi _ (by omega) (by omega)]; omega
        have hj1 : (j : Int) < (nv : Int) := by omega
        have hj0 : (0 : Int) ≤ (j : Int) := by omega
        have hkpos : decide (0 < k) = true := decide_eq_true (by omega)
        replace k1 : (∀ o, wr.cell? ⟨w.heap.size, o, none⟩ = (#[.int .i64 id, .int .i64 nd, .int .i64 tm, .int .i64 vt, .int .i64 ro, .bool false, .slice a n cap, .int .i64 cm, .int .i64 el, .int .i64 wt, .slice (some ⟨b, off, none⟩) nv cv, .slice ax nx cx, .slice ag ng cg] : Array Value)[o]?) ∧ wr.cell? ⟨b, off + k, none⟩ = some (.int .i64 t) ∧ wr.cell? ⟨b, off + j, none⟩ = some (.int .i64 p) := ⟨k1.1, k1.2, hxp⟩
        by_cases hpt : p < t
        ·have HQ3 : Hid (R = upB nd (t + 1) (lv.drop (k + 1))) := by
          show _ = _
          rw [unhide HQ2, show inB t q (nd - 1) = true from by unfold inB; simp; omega]; rfl
         have dp : decide (t ≤ p) = false := decide_eq_false (by omega)
         clear HQ2 hc hk0 hb HP hqk hxp ep hjl hj hpt
         go_wp2_with fail
         refine wp_region_held_drew (S := fun w' => (∀ o, w'.cell? ⟨w.heap.size, o, none⟩ = (#[.int .i64 id, .int .i64 nd, .int .i64 tm, .int .i64 vt, .int .i64 ro, .bool false, .slice a n cap, .int .i64 cm, .int .i64 el, .int .i64 wt, .slice (some ⟨b, off, none⟩) nv cv, .slice ax nx cx, .slice ag ng cg] : Array Value)[o]?) ∧ w'.cell? ⟨b, off + k, none⟩ = some (.int .i64 t) ∧ w'.cell? ⟨b, off + j, none⟩ = some (.int .i64 p)) (by kernel_rfl) k1 (fun hHeld => ?_)
         refine wtv 0 (oi := oNdS26) ?_
         refine wtv 1 (oi := oNdS27) ?_
         refine wtv 2 (oi := oNdS28) ?_
         refine wtv 3 (oi := oNdS29) ?_
         refine wtv 4 (oi := oNdS30) ?_
         refine wtv 5 (oi := oNdS31) ?_
         refine wtv 6 (oi := oNdS32) ?_
         refine wtv 7 (oi := oNdS33) ?_
         refine wpAnyH_ready (rs := [8]) (by kernel_rfl) (by simp) ?_
         refine AllReadyH.cons (o := oNdS34) rfl (fun K hK => ?_) AllReadyH.nil
         go_simp
         refine (sin t 0 (nd - 1) _).mono ?_
         rintro e w2 ⟨rfl, rfl⟩
         rw [d1]
         go_wp2_with fail
         refine hK.out _ _ ?_ (fun hHeld8 => ?_)
         ·exact k1
         clear hK K
         try simp only [Act.put, qqA, qqB, qqC]
         refine wtv 9 (oi := oNdS35) ?_
         refine wtv 10 (oi := oNdS36) ?_
         refine wtv 11 (oi := oNdS37) ?_
         refine wtv 12 (oi := oNdS38) ?_
         refine wtv 13 (oi := oNdS39) ?_
         refine wtv 14 (oi := oNdS40) ?_
         refine wtv 15 (oi := oNdS41) ?_
         refine wtv 16 (oi := oNdS42) ?_
         refine wtv 17 (oi := oNdS43) ?_
         refine wtv 18 (oi := oNdS44) ?_
         refine wtv 19 (oi := oNdS45) ?_
         refine wtv 20 (oi := oNdS46) ?_
         refine wtv 21 (oi := oNdS47) ?_
         refine wtv 22 (oi := oNdS48) ?_
         refine wtv 23 (oi := oNdS49) ?_
         refine wtv 24 (oi := oNdS50) ?_
         refine wtv 25 (oi := oNdS51) ?_
         refine wtv 26 (oi := oNdS52) ?_
         refine wtv 27 (oi := oNdS53) ?_
         refine wpAnyH_done (by kernel_rfl) ?_ _
         clear k1
         go_wp2_with fail
         go_roundw
         case rel => exact ⟨k + 1, t + 1, by omega, by go_num, HP2, ht1, HQ3, (unhide A1).drew, (unhide B1).drew⟩
         case measure => simp [intOf]; omega
        ·have hR : R = false := by
          rw [unhide HQ2, show inB t q (nd - 1) = false from by unfold inB; simp; omega]; rfl
         have dp : decide (t ≤ p) = true := decide_eq_true (by omega)
         subst hR
         clear HQ2 hc hk0 hb HP hqk hxp ep hjl hj hpt
         go_wp2_with fail
         refine wp_region_held_drew (S := fun w' => (∀ o, w'.cell? ⟨w.heap.size, o, none⟩ = (#[.int .i64 id, .int .i64 nd, .int .i64 tm, .int .i64 vt, .int .i64 ro, .bool false, .slice a n cap, .int .i64 cm, .int .i64 el, .int .i64 wt, .slice (some ⟨b, off, none⟩) nv cv, .slice ax nx cx, .slice ag ng cg] : Array Value)[o]?) ∧ w'.cell? ⟨b, off + k, none⟩ = some (.int .i64 t) ∧ w'.cell? ⟨b, off + j, none⟩ = some (.int .i64 p)) (by kernel_rfl) k1 (fun hHeld => ?_)
         refine wtv 0 (oi := oNdS26) ?_
         refine wtv 1 (oi := oNdS27) ?_
         refine wtv 2 (oi := oNdS28) ?_
         refine wtv 3 (oi := oNdS29) ?_
         refine wtv 4 (oi := oNdS30) ?_
         refine wtv 5 (oi := oNdS31) ?_
         refine wtv 6 (oi := oNdS32) ?_
         refine wtv 7 (oi := oNdS33) ?_
         refine wpAnyH_ready (rs := [8]) (by kernel_rfl) (by simp) ?_
         refine AllReadyH.cons (o := oNdS34) rfl (fun K hK => ?_) AllReadyH.nil
         go_simp
         refine (sin t 0 (nd - 1) _).mono ?_
         rintro e w2 ⟨rfl, rfl⟩
         rw [d1]
         go_wp2_with fail
         refine hK.out _ _ ?_ (fun hHeld8 => ?_)
         ·exact k1
         clear hK K
         try simp only [Act.put, qqA, qqB, qqC]
         refine wtv 9 (oi := oNdS35) ?_
         refine wtv 10 (oi := oNdS36) ?_
         refine wtv 11 (oi := oNdS37) ?_
         refine wtv 12 (oi := oNdS38) ?_
         refine wtv 13 (oi := oNdS39) ?_
         refine wtv 14 (oi := oNdS40) ?_
         refine wtv 15 (oi := oNdS41) ?_
         refine wtv 16 (oi := oNdS42) ?_
         refine wtv 17 (oi := oNdS43) ?_
         refine wtv 18 (oi := oNdS44) ?_
         refine wtv 19 (oi := oNdS45) ?_
         refine wtv 20 (oi := oNdS46) ?_
         refine wtv 21 (oi := oNdS47) ?_
         refine wtv 22 (oi := oNdS48) ?_
         refine wtv 23 (oi := oNdS49) ?_
         refine wtv 24 (oi := oNdS50) ?_
         refine wtv 25 (oi := oNdS51) ?_
         refine wtv 26 (oi := oNdS52) ?_
         refine wtv 27 (oi := oNdS53) ?_
         refine wpAnyH_done (by kernel_rfl) ?_ _
         go_wp2_with fail
         go_ret
         exact ⟨rfl, (unhide B1).drew⟩
     ·have hR : R = true := (unhide HQ).trans (upB_end _ _ _ _ (by rw [unhide HNv]; omega))
      subst hR
      go_wp2_with fail
      go_ret
      exact ⟨rfl, unhide B1⟩
end Go.Proofs.YtfogppnijdjakaaGreatDoor
