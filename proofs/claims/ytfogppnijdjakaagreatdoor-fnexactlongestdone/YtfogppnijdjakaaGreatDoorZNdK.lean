/- Which nodes are right: what the program answers, a way each. -/
import Derived.Test.YtfogppnijdjakaaGreatDoorZG25
namespace Go.Proofs.YtfogppnijdjakaaGreatDoor
open Go.ChangeShapes Go.WideShapes Go.ChangeAt Go.RowKit
set_option linter.unusedVariables false
abbrev oNdK0 : Oper := { dst := some 3, op := .fieldAddr 71 (.tmp 1) 1, type := 0, pos := "l08_raft.go:57", after := #[], guard := none }
abbrev oNdK1 : Oper := { dst := some 4, op := .load 3 (.tmp 3), type := 3, pos := "l08_raft.go:57", after := #[{ on := 0, ground := .data }], guard := none }
abbrev oNdK2 : Oper := { dst := some 5, op := .call { callee := .value (.func 45), args := #[.tmp 4, .const (.int .i64 1), .const (.int .i64 5)], argTypes := #[3, 3, 3] }, type := 4, pos := "l08_raft.go:57", after := #[{ on := 1, ground := .data }], guard := none }
abbrev oNdK3 : Oper := { dst := some 6, op := .move (.tmp 5), type := 4, pos := "l08_raft.go:57", after := #[{ on := 2, ground := .data }, { on := 2, ground := .chain }], guard := none }
abbrev oNdK4 : Oper := { dst := some 7, op := .load 71 (.tmp 1), type := 71, pos := "l08_raft.go:57", after := #[{ on := 3, ground := .guard }], guard := some (3, true) }
abbrev oNdK5 : Oper := { dst := some 8, op := .fieldAddr 71 (.tmp 1) 0, type := 0, pos := "l08_raft.go:57", after := #[{ on := 3, ground := .guard }], guard := some (3, true) }
abbrev oNdK6 : Oper := { dst := some 9, op := .load 3 (.tmp 8), type := 3, pos := "l08_raft.go:57", after := #[{ on := 5, ground := .data }, { on := 3, ground := .guard }], guard := some (3, true) }
abbrev oNdK7 : Oper := { dst := some 10, op := .call { callee := .value (.func 82), args := #[.tmp 7, .tmp 9], argTypes := #[71, 3] }, type := 4, pos := "l08_raft.go:57", after := #[{ on := 4, ground := .data }, { on := 6, ground := .data }, { on := 3, ground := .chain }, { on := 3, ground := .guard }], guard := some (3, true) }
abbrev oNdK8 : Oper := { dst := some 11, op := .pick (.tmp 6) (.tmp 10) (.const (.bool false)), type := 4, pos := "l08_raft.go:57", after := #[{ on := 3, ground := .data }, { on := 7, ground := .data }], guard := none }
abbrev oNdK9 : Oper := { dst := some 12, op := .move (.tmp 11), type := 4, pos := "l08_raft.go:57", after := #[{ on := 8, ground := .data }, { on := 7, ground := .chain }], guard := none }
abbrev oNdK10 : Oper := { dst := some 13, op := .fieldAddr 71 (.tmp 1) 3, type := 0, pos := "l08_raft.go:57", after := #[{ on := 9, ground := .guard }], guard := some (9, true) }
abbrev oNdK11 : Oper := { dst := some 14, op := .load 3 (.tmp 13), type := 3, pos := "l08_raft.go:57", after := #[{ on := 10, ground := .data }, { on := 9, ground := .guard }], guard := some (9, true) }
abbrev oNdK12 : Oper := { dst := some 15, op := .fieldAddr 71 (.tmp 1) 1, type := 0, pos := "l08_raft.go:57", after := #[{ on := 9, ground := .guard }], guard := some (9, true) }
abbrev oNdK13 : Oper := { dst := some 16, op := .load 3 (.tmp 15), type := 3, pos := "l08_raft.go:57", after := #[{ on := 12, ground := .data }, { on := 9, ground := .guard }], guard := some (9, true) }
abbrev oNdK14 : Oper := { dst := some 17, op := .binOp .lss 3 (.tmp 14) (.tmp 16) 3, type := 4, pos := "l08_raft.go:57", after := #[{ on := 11, ground := .data }, { on := 13, ground := .data }, { on := 9, ground := .guard }], guard := some (9, true) }
abbrev oNdK15 : Oper := { dst := some 18, op := .pick (.tmp 12) (.tmp 17) (.const (.bool false)), type := 4, pos := "l08_raft.go:57", after := #[{ on := 9, ground := .data }, { on := 14, ground := .data }], guard := none }
abbrev oNdK16 : Oper := { dst := some 19, op := .move (.tmp 18), type := 4, pos := "l08_raft.go:57", after := #[{ on := 15, ground := .data }, { on := 9, ground := .chain }], guard := none }
abbrev oNdK17 : Oper := { dst := some 20, op := .load 71 (.tmp 1), type := 71, pos := "l08_raft.go:57", after := #[{ on := 16, ground := .guard }], guard := some (16, true) }
abbrev oNdK18 : Oper := { dst := some 21, op := .call { callee := .value (.func 65), args := #[.tmp 20], argTypes := #[71] }, type := 76, pos := "l08_raft.go:57", after := #[{ on := 17, ground := .data }, { on := 16, ground := .chain }, { on := 16, ground := .guard }], guard := some (16, true) }
abbrev oNdK19 : Oper := { dst := some 22, op := .call { callee := .value (.func 83), args := #[.tmp 21], argTypes := #[76] }, type := 4, pos := "l08_raft.go:57", after := #[{ on := 18, ground := .data }, { on := 18, ground := .chain }, { on := 16, ground := .guard }], guard := some (16, true) }
abbrev oNdK20 : Oper := { dst := some 23, op := .pick (.tmp 19) (.tmp 22) (.const (.bool false)), type := 4, pos := "l08_raft.go:57", after := #[{ on := 16, ground := .data }, { on := 19, ground := .data }], guard := none }
abbrev oNdK21 : Oper := { dst := some 24, op := .move (.tmp 23), type := 4, pos := "l08_raft.go:57", after := #[{ on := 20, ground := .data }, { on := 19, ground := .chain }], guard := none }
abbrev oNdK22 : Oper := { dst := some 25, op := .load 71 (.tmp 1), type := 71, pos := "l08_raft.go:57", after := #[{ on := 21, ground := .guard }], guard := some (21, true) }
abbrev oNdK23 : Oper := { dst := some 26, op := .call { callee := .value (.func 84), args := #[.tmp 25], argTypes := #[71] }, type := 4, pos := "l08_raft.go:57", after := #[{ on := 22, ground := .data }, { on := 21, ground := .chain }, { on := 21, ground := .guard }], guard := some (21, true) }
abbrev oNdK24 : Oper := { dst := some 27, op := .pick (.tmp 24) (.tmp 26) (.const (.bool false)), type := 4, pos := "l08_raft.go:57", after := #[{ on := 21, ground := .data }, { on := 23, ground := .data }], guard := none }
abbrev oNdK25 : Oper := { dst := some 28, op := .move (.tmp 27), type := 4, pos := "l08_raft.go:57", after := #[{ on := 24, ground := .data }, { on := 23, ground := .chain }], guard := none }
abbrev oNdK26 : Oper := { dst := some 29, op := .fieldAddr 71 (.tmp 1) 7, type := 0, pos := "l08_raft.go:57", after := #[{ on := 25, ground := .guard }], guard := some (25, true) }
abbrev oNdK27 : Oper := { dst := some 30, op := .load 3 (.tmp 29), type := 3, pos := "l08_raft.go:57", after := #[{ on := 26, ground := .data }, { on := 25, ground := .guard }], guard := some (25, true) }
abbrev oNdK28 : Oper := { dst := some 31, op := .load 71 (.tmp 1), type := 71, pos := "l08_raft.go:57", after := #[{ on := 25, ground := .guard }], guard := some (25, true) }
abbrev oNdK29 : Oper := { dst := some 32, op := .call { callee := .value (.func 85), args := #[.tmp 31], argTypes := #[71] }, type := 3, pos := "l08_raft.go:58", after := #[{ on := 28, ground := .data }, { on := 25, ground := .chain }, { on := 25, ground := .guard }], guard := some (25, true) }
abbrev oNdK30 : Oper := { dst := some 33, op := .call { callee := .value (.func 45), args := #[.tmp 30, .const (.int .i64 0), .tmp 32], argTypes := #[3, 3, 3] }, type := 4, pos := "l08_raft.go:58", after := #[{ on := 27, ground := .data }, { on := 29, ground := .data }, { on := 29, ground := .chain }, { on := 25, ground := .guard }], guard := some (25, true) }
abbrev oNdK31 : Oper := { dst := some 34, op := .pick (.tmp 28) (.tmp 33) (.const (.bool false)), type := 4, pos := "l08_raft.go:57", after := #[{ on := 25, ground := .data }, { on := 30, ground := .data }], guard := none }
abbrev oNdK32 : Oper := { dst := some 35, op := .move (.tmp 34), type := 4, pos := "l08_raft.go:57", after := #[{ on := 31, ground := .data }, { on := 30, ground := .chain }], guard := none }
abbrev oNdK33 : Oper := { dst := some 36, op := .fieldAddr 71 (.tmp 1) 8, type := 0, pos := "l08_raft.go:57", after := #[{ on := 32, ground := .guard }], guard := some (32, true) }
abbrev oNdK34 : Oper := { dst := some 37, op := .load 3 (.tmp 36), type := 3, pos := "l08_raft.go:57", after := #[{ on := 33, ground := .data }, { on := 32, ground := .guard }], guard := some (32, true) }
abbrev oNdK35 : Oper := { dst := some 38, op := .call { callee := .value (.func 45), args := #[.tmp 37, .const (.int .i64 0), .const (.int .i64 1000)], argTypes := #[3, 3, 3] }, type := 4, pos := "l08_raft.go:58", after := #[{ on := 34, ground := .data }, { on := 32, ground := .chain }, { on := 32, ground := .guard }], guard := some (32, true) }
abbrev oNdK36 : Oper := { dst := some 39, op := .pick (.tmp 35) (.tmp 38) (.const (.bool false)), type := 4, pos := "l08_raft.go:57", after := #[{ on := 32, ground := .data }, { on := 35, ground := .data }], guard := none }
abbrev oNdK37 : Oper := { dst := some 40, op := .move (.tmp 39), type := 4, pos := "l08_raft.go:57", after := #[{ on := 36, ground := .data }, { on := 35, ground := .chain }], guard := none }
abbrev oNdK38 : Oper := { dst := some 41, op := .fieldAddr 71 (.tmp 1) 9, type := 0, pos := "l08_raft.go:57", after := #[{ on := 37, ground := .guard }], guard := some (37, true) }
abbrev oNdK39 : Oper := { dst := some 42, op := .load 3 (.tmp 41), type := 3, pos := "l08_raft.go:57", after := #[{ on := 38, ground := .data }, { on := 37, ground := .guard }], guard := some (37, true) }
abbrev oNdK40 : Oper := { dst := some 43, op := .call { callee := .value (.func 45), args := #[.tmp 42, .const (.int .i64 5), .const (.int .i64 100)], argTypes := #[3, 3, 3] }, type := 4, pos := "l08_raft.go:58", after := #[{ on := 39, ground := .data }, { on := 37, ground := .chain }, { on := 37, ground := .guard }], guard := some (37, true) }
abbrev oNdK41 : Oper := { dst := some 44, op := .pick (.tmp 40) (.tmp 43) (.const (.bool false)), type := 4, pos := "l08_raft.go:57", after := #[{ on := 37, ground := .data }, { on := 40, ground := .data }], guard := none }
abbrev oNdK42 : Oper := { dst := some 45, op := .move (.tmp 44), type := 4, pos := "l08_raft.go:57", after := #[{ on := 41, ground := .data }, { on := 40, ground := .chain }], guard := none }
abbrev oNdK43 : Oper := { dst := some 46, op := .load 71 (.tmp 1), type := 71, pos := "l08_raft.go:57", after := #[{ on := 42, ground := .guard }], guard := some (42, true) }
abbrev oNdK44 : Oper := { dst := some 47, op := .call { callee := .value (.func 86), args := #[.tmp 46], argTypes := #[71] }, type := 4, pos := "l08_raft.go:59", after := #[{ on := 43, ground := .data }, { on := 42, ground := .chain }, { on := 42, ground := .guard }], guard := some (42, true) }
abbrev oNdK45 : Oper := { dst := some 48, op := .pick (.tmp 45) (.tmp 47) (.const (.bool false)), type := 4, pos := "l08_raft.go:57", after := #[{ on := 42, ground := .data }, { on := 44, ground := .data }], guard := none }
abbrev oNdK46 : Oper := { dst := some 49, op := .move (.tmp 48), type := 4, pos := "l08_raft.go:57", after := #[{ on := 45, ground := .data }, { on := 44, ground := .chain }], guard := none }
abbrev oNdK47 : Oper := { dst := some 50, op := .load 71 (.tmp 1), type := 71, pos := "l08_raft.go:57", after := #[{ on := 46, ground := .guard }], guard := some (46, true) }
abbrev oNdK48 : Oper := { dst := some 51, op := .call { callee := .value (.func 87), args := #[.tmp 50], argTypes := #[71] }, type := 4, pos := "l08_raft.go:59", after := #[{ on := 47, ground := .data }, { on := 46, ground := .chain }, { on := 46, ground := .guard }], guard := some (46, true) }
abbrev oNdK49 : Oper := { dst := some 52, op := .pick (.tmp 49) (.tmp 51) (.const (.bool false)), type := 4, pos := "l08_raft.go:57", after := #[{ on := 46, ground := .data }, { on := 48, ground := .data }], guard := none }
abbrev oNdK50 : Oper := { dst := some 2, op := .assign (.tmp 52), type := 4, pos := "l08_raft.go:57", after := #[{ on := 49, ground := .data }, { on := 48, ground := .chain }, { on := 0, ground := .phase }, { on := 1, ground := .phase }, { on := 2, ground := .phase }, { on := 3, ground := .phase }, { on := 4, ground := .phase }, { on := 5, ground := .phase }, { on := 6, ground := .phase }, { on := 7, ground := .phase }, { on := 8, ground := .phase }, { on := 9, ground := .phase }, { on := 10, ground := .phase }, { on := 11, ground := .phase }, { on := 12, ground := .phase }, { on := 13, ground := .phase }, { on := 14, ground := .phase }, { on := 15, ground := .phase }, { on := 16, ground := .phase }, { on := 17, ground := .phase }, { on := 18, ground := .phase }, { on := 19, ground := .phase }, { on := 20, ground := .phase }, { on := 21, ground := .phase }, { on := 22, ground := .phase }, { on := 23, ground := .phase }, { on := 24, ground := .phase }, { on := 25, ground := .phase }, { on := 26, ground := .phase }, { on := 27, ground := .phase }, { on := 28, ground := .phase }, { on := 29, ground := .phase }, { on := 30, ground := .phase }, { on := 31, ground := .phase }, { on := 32, ground := .phase }, { on := 33, ground := .phase }, { on := 34, ground := .phase }, { on := 35, ground := .phase }, { on := 36, ground := .phase }, { on := 37, ground := .phase }, { on := 38, ground := .phase }, { on := 39, ground := .phase }, { on := 40, ground := .phase }, { on := 41, ground := .phase }, { on := 42, ground := .phase }, { on := 43, ground := .phase }, { on := 44, ground := .phase }, { on := 45, ground := .phase }, { on := 46, ground := .phase }, { on := 47, ground := .phase }, { on := 48, ground := .phase }, { on := 49, ground := .phase }], guard := none }
set_option maxHeartbeats 4000000 in
set_option maxRecDepth 100000 in
theorem inode_6 (id nd tm vt ro cm el wt : Int) (up : Bool) (a : Option Addr) (cap n : Nat) (l : List (Int × ByteArray)) (HN : Hid (l.length = n)) (av : Option Addr) (cv nv : Nat) (lv : List Int) (HNv : Hid (lv.length = nv)) (ax : Option Addr) (cx nx : Nat) (lx : List Int) (HNx : Hid (lx.length = nx)) (ag : Option Addr) (cg ng : Nat) (lg : List Int) (HNg : Hid (lg.length = ng)) (hn : n ≤ 1048576) (hnv : nv ≤ 1048576) (hnx : nx ≤ 1048576) (hng : ng ≤ 1048576) (HSZ : Hid (∀ k (h : k < l.length), l[k].2.size ≤ 1048576)) (C0 : Hid (true = inB nd 1 5)) (C1 : Hid (true = inB id 0 (nd - 1))) (C2 : Hid (true = decide (vt < nd))) (C3 : Hid (true = stateB tm vt l)) (C4 : Hid (true = roleB ro up)) (C5 : Hid (true = inB cm 0 (n : Int))) (C6 : Hid (false = inB el 0 1000)) (w : World) (hr : RowV w a (cE l)) (hrv : RowV w av (cI lv)) (hrx : RowV w ax (cI lx)) (hrg : RowV w ag (cI lg)) :
  Calls Tryz.prog 63 #[.agg #[.int .i64 id, .int .i64 nd, .int .i64 tm, .int .i64 vt, .int .i64 ro, .bool up, .slice a n cap, .int .i64 cm, .int .i64 el, .int .i64 wt, .slice av nv cv, .slice ax nx cx, .slice ag ng cg]] w fun e w' => e = .returned (.bool false) ∧ Below w.heap.size w w' := by
 have B0 := hide (Go.Joins.below_alloc1 w (.cells #[.int .i64 id, .int .i64 nd, .int .i64 tm, .int .i64 vt, .int .i64 ro, .bool up, .slice a n cap, .int .i64 cm, .int .i64 el, .int .i64 wt, .slice av nv cv, .slice ax nx cx, .slice ag ng cg] 71))
 have A0 := hide (BF.new w #[.int .i64 id, .int .i64 nd, .int .i64 tm, .int .i64 vt, .int .i64 ro, .bool up, .slice a n cap, .int .i64 cm, .int .i64 el, .int .i64 wt, .slice av nv cv, .slice ax nx cx, .slice ag ng cg] 71)
 have HR := hide hr
 have HRv := hide hrv
 have HRx := hide hrx
 have HRg := hide hrg
 clear hr hrv hrx hrg
 have hnd : 1 ≤ nd ∧ nd ≤ 5 := by have := unhide C0; unfold inB at this; simpa using this
 obtain ⟨h1, h5⟩ := hnd
 have dv : decide (vt < nd) = true := (unhide C2).symm
 have B1 := hide (unhide B0).drew
 have A1 := hide (unhide A0).drew
 have k0 := (unhide A0).S
 clear B0 A0
 go_enter Tryz.func63, Tryz.ntmps63
 go_wp2_with fail
 refine wp_region_held_drew (S := fun w' => ∀ o, w'.cell? ⟨w.heap.size, o, none⟩ = (#[.int .i64 id, .int .i64 nd, .int .i64 tm, .int .i64 vt, .int .i64 ro, .bool up, .slice a n cap, .int .i64 cm, .int .i64 el, .int .i64 wt, .slice av nv cv, .slice ax nx cx, .slice ag ng cg] : Array Value)[o]?) (by kernel_rfl) k0 (fun hHeld => ?_)
 refine wtv 0 (oi := oNdK0) ?_
 refine wtv 1 (oi := oNdK1) ?_
 refine wpAnyH_ready (rs := [2]) (by kernel_rfl) (by simp) ?_
 refine AllReadyH.cons (o := oNdK2) rfl (fun K hK => ?_) AllReadyH.nil
 go_simp
 refine (iwi nd 1 5 true C0 _).mono ?_
 rintro e w1x ⟨rfl, rfl⟩
 go_wp2_with fail
 refine hK.out _ _ ?_ (fun hHeld2 => ?_)
 ·exact (unhide A1).S
 clear hK K
 try simp only [Act.put, qqA, qqB, qqC]
 refine wtv 3 (oi := oNdK3) ?_
 refine wtv 4 (oi := oNdK4) ?_
 refine wtv 5 (oi := oNdK5) ?_
 refine wtv 6 (oi := oNdK6) ?_
 refine wpAnyH_ready (rs := [7]) (by kernel_rfl) (by simp) ?_
 refine AllReadyH.cons (o := oNdK7) rfl (fun K hK => ?_) AllReadyH.nil
 go_simp
 refine (ihas id nd tm vt ro cm el wt up a cap n av cv nv ax cx nx ag cg ng id h1 h5 true C1 _).mono ?_
 rintro e w2 ⟨rfl, hb2⟩
 have B2 := hide ((unhide B1).trans (hb2.mono (unhide B1).size))
 have A2 := hide ((unhide A1).below hb2)
 clear hb2 B1 A1
 go_wp2_with fail
 refine hK.out _ _ ?_ (fun hHeld7 => ?_)
 ·exact (unhide A2).S
 clear hK K
 try simp only [Act.put, qqA, qqB, qqC]
 refine wtv 8 (oi := oNdK8) ?_
 refine wtv 9 (oi := oNdK9) ?_
 refine wtv 10 (oi := oNdK10) ?_
 refine wtv 11 (oi := oNdK11) ?_
 refine wtv 12 (oi := oNdK12) ?_
 refine wtv 13 (oi := oNdK13) ?_
 refine wtv 14 (oi := oNdK14) ?_
 refine wtv 15 (oi := oNdK15) ?_
 refine wtv 16 (oi := oNdK16) ?_
 refine wtv 17 (oi := oNdK17) ?_
 refine wpAnyH_ready (rs := [18]) (by kernel_rfl) (by simp) ?_
 refine AllReadyH.cons (o := oNdK18) rfl (fun K hK => ?_) AllReadyH.nil
 go_simp
 refine (instate id nd tm vt ro cm el wt up a cap n av cv nv ax cx nx ag cg ng _).mono ?_
 rintro e w3 ⟨rfl, hb3⟩
 have B3 := hide ((unhide B2).trans (hb3.mono (unhide B2).size))
 have A3 := hide ((unhide A2).below hb3)
 clear hb3 B2 A2
 go_wp2_with fail
 refine hK.out _ _ ?_ (fun hHeld18 => ?_)
 ·exact (unhide A3).S
 clear hK K
 try simp only [Act.put, qqA, qqB, qqC]
 refine wpAnyH_ready (rs := [19]) (by kernel_rfl) (by simp) ?_
 refine AllReadyH.cons (o := oNdK19) rfl (fun K hK => ?_) AllReadyH.nil
 go_simp
 refine (istateok tm vt a cap n l HN hn HSZ true C3 _ ((unhide HR).below (unhide B3))).mono ?_
 rintro e w4 ⟨rfl, hb4⟩
 have B4 := hide ((unhide B3).trans (hb4.mono (unhide B3).size))
 have A4 := hide ((unhide A3).below hb4)
 clear hb4 B3 A3
 go_wp2_with fail
 refine hK.out _ _ ?_ (fun hHeld19 => ?_)
 ·exact (unhide A4).S
 clear hK K
 try simp only [Act.put, qqA, qqB, qqC]
 refine wtv 20 (oi := oNdK20) ?_
 refine wtv 21 (oi := oNdK21) ?_
 refine wtv 22 (oi := oNdK22) ?_
 refine wpAnyH_ready (rs := [23]) (by kernel_rfl) (by simp) ?_
 refine AllReadyH.cons (o := oNdK23) rfl (fun K hK => ?_) AllReadyH.nil
 go_simp
 refine (iroleok id nd tm vt ro cm el wt up a cap n av cv nv ax cx nx ag cg ng true C4 _).mono ?_
 rintro e w5 ⟨rfl, hb5⟩
 have B5 := hide ((unhide B4).trans (hb5.mono (unhide B4).size))
 have A5 := hide ((unhide A4).below hb5)
 clear hb5 B4 A4
 go_wp2_with fail
 refine hK.out _ _ ?_ (fun hHeld23 => ?_)
 ·exact (unhide A5).S
 clear hK K
 try simp only [Act.put, qqA, qqB, qqC]
 refine wtv 24 (oi := oNdK24) ?_
 refine wtv 25 (oi := oNdK25) ?_
 refine wtv 26 (oi := oNdK26) ?_
 refine wtv 27 (oi := oNdK27) ?_
 refine wtv 28 (oi := oNdK28) ?_
 refine wpAnyH_ready (rs := [29]) (by kernel_rfl) (by simp) ?_
 refine AllReadyH.cons (o := oNdK29) rfl (fun K hK => ?_) AllReadyH.nil
 go_simp
 refine (ilast id nd tm vt ro cm el wt up a cap n av cv nv ax cx nx ag cg ng _).mono ?_
 rintro e w6 ⟨rfl, hb6⟩
 have B6 := hide ((unhide B5).trans (hb6.mono (unhide B5).size))
 have A6 := hide ((unhide A5).below hb6)
 clear hb6 B5 A5
 go_wp2_with fail
 refine hK.out _ _ ?_ (fun hHeld29 => ?_)
 ·exact (unhide A6).S
 clear hK K
 try simp only [Act.put, qqA, qqB, qqC]
 refine wpAnyH_ready (rs := [30]) (by kernel_rfl) (by simp) ?_
 refine AllReadyH.cons (o := oNdK30) rfl (fun K hK => ?_) AllReadyH.nil
 go_simp
 refine (iwi cm 0 (n : Int) true C5 _).mono ?_
 rintro e w6x ⟨rfl, rfl⟩
 go_wp2_with fail
 refine hK.out _ _ ?_ (fun hHeld30 => ?_)
 ·exact (unhide A6).S
 clear hK K
 try simp only [Act.put, qqA, qqB, qqC]
 refine wtv 31 (oi := oNdK31) ?_
 refine wtv 32 (oi := oNdK32) ?_
 refine wtv 33 (oi := oNdK33) ?_
 refine wtv 34 (oi := oNdK34) ?_
 refine wpAnyH_ready (rs := [35]) (by kernel_rfl) (by simp) ?_
 refine AllReadyH.cons (o := oNdK35) rfl (fun K hK => ?_) AllReadyH.nil
 go_simp
 refine (iwi el 0 1000 false C6 _).mono ?_
 rintro e w6x ⟨rfl, rfl⟩
 go_wp2_with fail
 refine hK.out _ _ ?_ (fun hHeld35 => ?_)
 ·exact (unhide A6).S
 clear hK K
 try simp only [Act.put, qqA, qqB, qqC]
 refine wtv 36 (oi := oNdK36) ?_
 refine wtv 37 (oi := oNdK37) ?_
 refine wtu 38 (oi := oNdK38) ?_
 refine wtu 39 (oi := oNdK39) ?_
 refine wtu 40 (oi := oNdK40) ?_
 refine wtv 41 (oi := oNdK41) ?_
 refine wtv 42 (oi := oNdK42) ?_
 refine wtu 43 (oi := oNdK43) ?_
 refine wtu 44 (oi := oNdK44) ?_
 refine wtv 45 (oi := oNdK45) ?_
 refine wtv 46 (oi := oNdK46) ?_
 refine wtu 47 (oi := oNdK47) ?_
 refine wtu 48 (oi := oNdK48) ?_
 refine wtv 49 (oi := oNdK49) ?_
 refine wtv 50 (oi := oNdK50) ?_
 refine wpAnyH_done (by kernel_rfl) ?_ _
 go_wp2_with fail
 go_ret
 exact ⟨rfl, unhide B6⟩
set_option maxHeartbeats 4000000 in
set_option maxRecDepth 100000 in
theorem inode_7 (id nd tm vt ro cm el wt : Int) (up : Bool) (a : Option Addr) (cap n : Nat) (l : List (Int × ByteArray)) (HN : Hid (l.length = n)) (av : Option Addr) (cv nv : Nat) (lv : List Int) (HNv : Hid (lv.length = nv)) (ax : Option Addr) (cx nx : Nat) (lx : List Int) (HNx : Hid (lx.length = nx)) (ag : Option Addr) (cg ng : Nat) (lg : List Int) (HNg : Hid (lg.length = ng)) (hn : n ≤ 1048576) (hnv : nv ≤ 1048576) (hnx : nx ≤ 1048576) (hng : ng ≤ 1048576) (HSZ : Hid (∀ k (h : k < l.length), l[k].2.size ≤ 1048576)) (C0 : Hid (true = inB nd 1 5)) (C1 : Hid (true = inB id 0 (nd - 1))) (C2 : Hid (true = decide (vt < nd))) (C3 : Hid (true = stateB tm vt l)) (C4 : Hid (true = roleB ro up)) (C5 : Hid (true = inB cm 0 (n : Int))) (C6 : Hid (true = inB el 0 1000)) (C7 : Hid (false = inB wt 5 100)) (w : World) (hr : RowV w a (cE l)) (hrv : RowV w av (cI lv)) (hrx : RowV w ax (cI lx)) (hrg : RowV w ag (cI lg)) :
  Calls Tryz.prog 63 #[.agg #[.int .i64 id, .int .i64 nd, .int .i64 tm, .int .i64 vt, .int .i64 ro, .bool up, .slice a n cap, .int .i64 cm, .int .i64 el, .int .i64 wt, .slice av nv cv, .slice ax nx cx, .slice ag ng cg]] w fun e w' => e = .returned (.bool false) ∧ Below w.heap.size w w' := by
 have B0 := hide (Go.Joins.below_alloc1 w (.cells #[.int .i64 id, .int .i64 nd, .int .i64 tm, .int .i64 vt, .int .i64 ro, .bool up, .slice a n cap, .int .i64 cm, .int .i64 el, .int .i64 wt, .slice av nv cv, .slice ax nx cx, .slice ag ng cg] 71))
 have A0 := hide (BF.new w #[.int .i64 id, .int .i64 nd, .int .i64 tm, .int .i64 vt, .int .i64 ro, .bool up, .slice a n cap, .int .i64 cm, .int .i64 el, .int .i64 wt, .slice av nv cv, .slice ax nx cx, .slice ag ng cg] 71)
 have HR := hide hr
 have HRv := hide hrv
 have HRx := hide hrx
 have HRg := hide hrg
 clear hr hrv hrx hrg
 have hnd : 1 ≤ nd ∧ nd ≤ 5 := by have := unhide C0; unfold inB at this; simpa using this
 obtain ⟨h1, h5⟩ := hnd
 have dv : decide (vt < nd) = true := (unhide C2).symm
 have B1 := hide (unhide B0).drew
 have A1 := hide (unhide A0).drew
 have k0 := (unhide A0).S
 clear B0 A0
 go_enter Tryz.func63, Tryz.ntmps63
 go_wp2_with fail
 refine wp_region_held_drew (S := fun w' => ∀ o, w'.cell? ⟨w.heap.size, o, none⟩ = (#[.int .i64 id, .int .i64 nd, .int .i64 tm, .int .i64 vt, .int .i64 ro, .bool up, .slice a n cap, .int .i64 cm, .int .i64 el, .int .i64 wt, .slice av nv cv, .slice ax nx cx, .slice ag ng cg] : Array Value)[o]?) (by kernel_rfl) k0 (fun hHeld => ?_)
 refine wtv 0 (oi := oNdK0) ?_
 refine wtv 1 (oi := oNdK1) ?_
 refine wpAnyH_ready (rs := [2]) (by kernel_rfl) (by simp) ?_
 refine AllReadyH.cons (o := oNdK2) rfl (fun K hK => ?_) AllReadyH.nil
 go_simp
 refine (iwi nd 1 5 true C0 _).mono ?_
 rintro e w1x ⟨rfl, rfl⟩
 go_wp2_with fail
 refine hK.out _ _ ?_ (fun hHeld2 => ?_)
 ·exact (unhide A1).S
 clear hK K
 try simp only [Act.put, qqA, qqB, qqC]
 refine wtv 3 (oi := oNdK3) ?_
 refine wtv 4 (oi := oNdK4) ?_
 refine wtv 5 (oi := oNdK5) ?_
 refine wtv 6 (oi := oNdK6) ?_
 refine wpAnyH_ready (rs := [7]) (by kernel_rfl) (by simp) ?_
 refine AllReadyH.cons (o := oNdK7) rfl (fun K hK => ?_) AllReadyH.nil
 go_simp
 refine (ihas id nd tm vt ro cm el wt up a cap n av cv nv ax cx nx ag cg ng id h1 h5 true C1 _).mono ?_
 rintro e w2 ⟨rfl, hb2⟩
 have B2 := hide ((unhide B1).trans (hb2.mono (unhide B1).size))
 have A2 := hide ((unhide A1).below hb2)
 clear hb2 B1 A1
 go_wp2_with fail
 refine hK.out _ _ ?_ (fun hHeld7 => ?_)
 ·exact (unhide A2).S
 clear hK K
 try simp only [Act.put, qqA, qqB, qqC]
 refine wtv 8 (oi := oNdK8) ?_
 refine wtv 9 (oi := oNdK9) ?_
 refine wtv 10 (oi := oNdK10) ?_
 refine wtv 11 (oi := oNdK11) ?_
 refine wtv 12 (oi := oNdK12) ?_
 refine wtv 13 (oi := oNdK13) ?_
 refine wtv 14 (oi := oNdK14) ?_
 refine wtv 15 (oi := oNdK15) ?_
 refine wtv 16 (oi := oNdK16) ?_
 refine wtv 17 (oi := oNdK17) ?_
 refine wpAnyH_ready (rs := [18]) (by kernel_rfl) (by simp) ?_
 refine AllReadyH.cons (o := oNdK18) rfl (fun K hK => ?_) AllReadyH.nil
 go_simp
 refine (instate id nd tm vt ro cm el wt up a cap n av cv nv ax cx nx ag cg ng _).mono ?_
 rintro e w3 ⟨rfl, hb3⟩
 have B3 := hide ((unhide B2).trans (hb3.mono (unhide B2).size))
 have A3 := hide ((unhide A2).below hb3)
 clear hb3 B2 A2
 go_wp2_with fail
 refine hK.out _ _ ?_ (fun hHeld18 => ?_)
 ·exact (unhide A3).S
 clear hK K
 try simp only [Act.put, qqA, qqB, qqC]
 refine wpAnyH_ready (rs := [19]) (by kernel_rfl) (by simp) ?_
 refine AllReadyH.cons (o := oNdK19) rfl (fun K hK => ?_) AllReadyH.nil
 go_simp
 refine (istateok tm vt a cap n l HN hn HSZ true C3 _ ((unhide HR).below (unhide B3))).mono ?_
 rintro e w4 ⟨rfl, hb4⟩
 have B4 := hide ((unhide B3).trans (hb4.mono (unhide B3).size))
 have A4 := hide ((unhide A3).below hb4)
 clear hb4 B3 A3
 go_wp2_with fail
 refine hK.out _ _ ?_ (fun hHeld19 => ?_)
 ·exact (unhide A4).S
 clear hK K
 try simp only [Act.put, qqA, qqB, qqC]
 refine wtv 20 (oi := oNdK20) ?_
 refine wtv 21 (oi := oNdK21) ?_
 refine wtv 22 (oi := oNdK22) ?_
 refine wpAnyH_ready (rs := [23]) (by kernel_rfl) (by simp) ?_
 refine AllReadyH.cons (o := oNdK23) rfl (fun K hK => ?_) AllReadyH.nil
 go_simp
 refine (iroleok id nd tm vt ro cm el wt up a cap n av cv nv ax cx nx ag cg ng true C4 _).mono ?_
 rintro e w5 ⟨rfl, hb5⟩
 have B5 := hide ((unhide B4).trans (hb5.mono (unhide B4).size))
 have A5 := hide ((unhide A4).below hb5)
 clear hb5 B4 A4
 go_wp2_with fail
 refine hK.out _ _ ?_ (fun hHeld23 => ?_)
 ·exact (unhide A5).S
 clear hK K
 try simp only [Act.put, qqA, qqB, qqC]
 refine wtv 24 (oi := oNdK24) ?_
 refine wtv 25 (oi := oNdK25) ?_
 refine wtv 26 (oi := oNdK26) ?_
 refine wtv 27 (oi := oNdK27) ?_
 refine wtv 28 (oi := oNdK28) ?_
 refine wpAnyH_ready (rs := [29]) (by kernel_rfl) (by simp) ?_
 refine AllReadyH.cons (o := oNdK29) rfl (fun K hK => ?_) AllReadyH.nil
 go_simp
 refine (ilast id nd tm vt ro cm el wt up a cap n av cv nv ax cx nx ag cg ng _).mono ?_
 rintro e w6 ⟨rfl, hb6⟩
 have B6 := hide ((unhide B5).trans (hb6.mono (unhide B5).size))
 have A6 := hide ((unhide A5).below hb6)
 clear hb6 B5 A5
 go_wp2_with fail
 refine hK.out _ _ ?_ (fun hHeld29 => ?_)
 ·exact (unhide A6).S
 clear hK K
 try simp only [Act.put, qqA, qqB, qqC]
 refine wpAnyH_ready (rs := [30]) (by kernel_rfl) (by simp) ?_
 refine AllReadyH.cons (o := oNdK30) rfl (fun K hK => ?_) AllReadyH.nil
 go_simp
 refine (iwi cm 0 (n : Int) true C5 _).mono ?_
 rintro e w6x ⟨rfl, rfl⟩
 go_wp2_with fail
 refine hK.out _ _ ?_ (fun hHeld30 => ?_)
 ·exact (unhide A6).S
 clear hK K
 try simp only [Act.put, qqA, qqB, qqC]
 refine wtv 31 (oi := oNdK31) ?_
 refine wtv 32 (oi := oNdK32) ?_
 refine wtv 33 (oi := oNdK33) ?_
 refine wtv 34 (oi := oNdK34) ?_
 refine wpAnyH_ready (rs := [35]) (by kernel_rfl) (by simp) ?_
 refine AllReadyH.cons (o := oNdK35) rfl (fun K hK => ?_) AllReadyH.nil
 go_simp
 refine (iwi el 0 1000 true C6 _).mono ?_
 rintro e w6x ⟨rfl, rfl⟩
 go_wp2_with fail
 refine hK.out _ _ ?_ (fun hHeld35 => ?_)
 ·exact (unhide A6).S
 clear hK K
 try simp only [Act.put, qqA, qqB, qqC]
 refine wtv 36 (oi := oNdK36) ?_
 refine wtv 37 (oi := oNdK37) ?_
 refine wtv 38 (oi := oNdK38) ?_
 refine wtv 39 (oi := oNdK39) ?_
 refine wpAnyH_ready (rs := [40]) (by kernel_rfl) (by simp) ?_
 refine AllReadyH.cons (o := oNdK40) rfl (fun K hK => ?_) AllReadyH.nil
 go_simp
 refine (iwi wt 5 100 false C7 _).mono ?_
 rintro e w6x ⟨rfl, rfl⟩
 go_wp2_with fail
 refine hK.out _ _ ?_ (fun hHeld40 => ?_)
 ·exact (unhide A6).S
 clear hK K
 try simp only [Act.put, qqA, qqB, qqC]
 refine wtv 41 (oi := oNdK41) ?_
 refine wtv 42 (oi := oNdK42) ?_
 refine wtu 43 (oi := oNdK43) ?_
 refine wtu 44 (oi := oNdK44) ?_
 refine wtv 45 (oi := oNdK45) ?_
 refine wtv 46 (oi := oNdK46) ?_
 refine wtu 47 (oi := oNdK47) ?_
 refine wtu 48 (oi := oNdK48) ?_
 refine wtv 49 (oi := oNdK49) ?_
 refine wtv 50 (oi := oNdK50) ?_
 refine wpAnyH_done (by kernel_rfl) ?_ _
 go_wp2_with fail
 go_ret
 exact ⟨rfl, unhide B6⟩
set_option maxHeartbeats 4000000 in
set_option maxRecDepth 100000 in
theorem inode_8 (id nd tm vt ro cm el wt : Int) (up : Bool) (a : Option Addr) (cap n : Nat) (l : List (Int × ByteArray)) (HN : Hid (l.length = n)) (av : Option Addr) (cv nv : Nat) (lv : List Int) (HNv : Hid (lv.length = nv)) (ax : Option Addr) (cx nx : Nat) (lx : List Int) (HNx : Hid (lx.length = nx)) (ag : Option Addr) (cg ng : Nat) (lg : List Int) (HNg : Hid (lg.length = ng)) (hn : n ≤ 1048576) (hnv : nv ≤ 1048576) (hnx : nx ≤ 1048576) (hng : ng ≤ 1048576) (HSZ : Hid (∀ k (h : k < l.length), l[k].2.size ≤ 1048576)) (C0 : Hid (true = inB nd 1 5)) (C1 : Hid (true = inB id 0 (nd - 1))) (C2 : Hid (true = decide (vt < nd))) (C3 : Hid (true = stateB tm vt l)) (C4 : Hid (true = roleB ro up)) (C5 : Hid (true = inB cm 0 (n : Int))) (C6 : Hid (true = inB el 0 1000)) (C7 : Hid (true = inB wt 5 100)) (C8 : Hid (false = upB nd 0 lv)) (w : World) (hr : RowV w a (cE l)) (hrv : RowV w av (cI lv)) (hrx : RowV w ax (cI lx)) (hrg : RowV w ag (cI lg)) :
  Calls Tryz.prog 63 #[.agg #[.int .i64 id, .int .i64 nd, .int .i64 tm, .int .i64 vt, .int .i64 ro, .bool up, .slice a n cap, .int .i64 cm, .int .i64 el, .int .i64 wt, .slice av nv cv, .slice ax nx cx, .slice ag ng cg]] w fun e w' => e = .returned (.bool false) ∧ Below w.heap.size w w' := by
 have B0 := hide (Go.Joins.below_alloc1 w (.cells #[.int .i64 id, .int .i64 nd, .int .i64 tm, .int .i64 vt, .int .i64 ro, .bool up, .slice a n cap, .int .i64 cm, .int .i64 el, .int .i64 wt, .slice av nv cv, .slice ax nx cx, .slice ag ng cg] 71))
 have A0 := hide (BF.new w #[.int .i64 id, .int .i64 nd, .int .i64 tm, .int .i64 vt, .int .i64 ro, .bool up, .slice a n cap, .int .i64 cm, .int .i64 el, .int .i64 wt, .slice av nv cv, .slice ax nx cx, .slice ag ng cg] 71)
 have HR := hide hr
 have HRv := hide hrv
 have HRx := hide hrx
 have HRg := hide hrg
 clear hr hrv hrx hrg
 have hnd : 1 ≤ nd ∧ nd ≤ 5 := by have := unhide C0; unfold inB at this; simpa using this
 obtain ⟨h1, h5⟩ := hnd
 have dv : decide (vt < nd) = true := (unhide C2).symm
 have B1 := hide (unhide B0).drew
 have A1 := hide (unhide A0).drew
 have k0 := (unhide A0).S
 clear B0 A0
 go_enter Tryz.func63, Tryz.ntmps63
 go_wp2_with fail
 refine wp_region_held_drew (S := fun w' => ∀ o, w'.cell? ⟨w.heap.size, o, none⟩ = (#[.int .i64 id, .int .i64 nd, .int .i64 tm, .int .i64 vt, .int .i64 ro, .bool up, .slice a n cap, .int .i64 cm, .int .i64 el, .int .i64 wt, .slice av nv cv, .slice ax nx cx, .slice ag ng cg] : Array Value)[o]?) (by kernel_rfl) k0 (fun hHeld => ?_)
 refine wtv 0 (oi := oNdK0) ?_
 refine wtv 1 (oi := oNdK1) ?_
 refine wpAnyH_ready (rs := [2]) (by kernel_rfl) (by simp) ?_
 refine AllReadyH.cons (o := oNdK2) rfl (fun K hK => ?_) AllReadyH.nil
 go_simp
 refine (iwi nd 1 5 true C0 _).mono ?_
 rintro e w1x ⟨rfl, rfl⟩
 go_wp2_with fail
 refine hK.out _ _ ?_ (fun hHeld2 => ?_)
 ·exact (unhide A1).S
 clear hK K
 try simp only [Act.put, qqA, qqB, qqC]
 refine wtv 3 (oi := oNdK3) ?_
 refine wtv 4 (oi := oNdK4) ?_
 refine wtv 5 (oi := oNdK5) ?_
 refine wtv 6 (oi := oNdK6) ?_
 refine wpAnyH_ready (rs := [7]) (by kernel_rfl) (by simp) ?_
 refine AllReadyH.cons (o := oNdK7) rfl (fun K hK => ?_) AllReadyH.nil
 go_simp
 refine (ihas id nd tm vt ro cm el wt up a cap n av cv nv ax cx nx ag cg ng id h1 h5 true C1 _).mono ?_
 rintro e w2 ⟨rfl, hb2⟩
 have B2 := hide ((unhide B1).trans (hb2.mono (unhide B1).size))
 have A2 := hide ((unhide A1).below hb2)
 clear hb2 B1 A1
 go_wp2_with fail
 refine hK.out _ _ ?_ (fun hHeld7 => ?_)
 ·exact (unhide A2).S
 clear hK K
 try simp only [Act.put, qqA, qqB, qqC]
 refine wtv 8 (oi := oNdK8) ?_
 refine wtv 9 (oi := oNdK9) ?_
 refine wtv 10 (oi := oNdK10) ?_
 refine wtv 11 (oi := oNdK11) ?_
 refine wtv 12 (oi := oNdK12) ?_
 refine wtv 13 (oi := oNdK13) ?_
 refine wtv 14 (oi := oNdK14) ?_
 refine wtv 15 (oi := oNdK15) ?_
 refine wtv 16 (oi := oNdK16) ?_
 refine wtv 17 (oi := oNdK17) ?_
 refine wpAnyH_ready (rs := [18]) (by kernel_rfl) (by simp) ?_
 refine AllReadyH.cons (o := oNdK18) rfl (fun K hK => ?_) AllReadyH.nil
 go_simp
 refine (instate id nd tm vt ro cm el wt up a cap n av cv nv ax cx nx ag cg ng _).mono ?_
 rintro e w3 ⟨rfl, hb3⟩
 have B3 := hide ((unhide B2).trans (hb3.mono (unhide B2).size))
 have A3 := hide ((unhide A2).below hb3)
 clear hb3 B2 A2
 go_wp2_with fail
 refine hK.out _ _ ?_ (fun hHeld18 => ?_)
 ·exact (unhide A3).S
 clear hK K
 try simp only [Act.put, qqA, qqB, qqC]
 refine wpAnyH_ready (rs := [19]) (by kernel_rfl) (by simp) ?_
 refine AllReadyH.cons (o := oNdK19) rfl (fun K hK => ?_) AllReadyH.nil
 go_simp
 refine (istateok tm vt a cap n l HN hn HSZ true C3 _ ((unhide HR).below (unhide B3))).mono ?_
 rintro e w4 ⟨rfl, hb4⟩
 have B4 := hide ((unhide B3).trans (hb4.mono (unhide B3).size))
 have A4 := hide ((unhide A3).below hb4)
 clear hb4 B3 A3
 go_wp2_with fail
 refine hK.out _ _ ?_ (fun hHeld19 => ?_)
 ·exact (unhide A4).S
 clear hK K
 try simp only [Act.put, qqA, qqB, qqC]
 refine wtv 20 (oi := oNdK20) ?_
 refine wtv 21 (oi := oNdK21) ?_
 refine wtv 22 (oi := oNdK22) ?_
 refine wpAnyH_ready (rs := [23]) (by kernel_rfl) (by simp) ?_
 refine AllReadyH.cons (o := oNdK23) rfl (fun K hK => ?_) AllReadyH.nil
 go_simp
 refine (iroleok id nd tm vt ro cm el wt up a cap n av cv nv ax cx nx ag cg ng true C4 _).mono ?_
 rintro e w5 ⟨rfl, hb5⟩
 have B5 := hide ((unhide B4).trans (hb5.mono (unhide B4).size))
 have A5 := hide ((unhide A4).below hb5)
 clear hb5 B4 A4
 go_wp2_with fail
 refine hK.out _ _ ?_ (fun hHeld23 => ?_)
 ·exact (unhide A5).S
 clear hK K
 try simp only [Act.put, qqA, qqB, qqC]
 refine wtv 24 (oi := oNdK24) ?_
 refine wtv 25 (oi := oNdK25) ?_
 refine wtv 26 (oi := oNdK26) ?_
 refine wtv 27 (oi := oNdK27) ?_
 refine wtv 28 (oi := oNdK28) ?_
 refine wpAnyH_ready (rs := [29]) (by kernel_rfl) (by simp) ?_
 refine AllReadyH.cons (o := oNdK29) rfl (fun K hK => ?_) AllReadyH.nil
 go_simp
 refine (ilast id nd tm vt ro cm el wt up a cap n av cv nv ax cx nx ag cg ng _).mono ?_
 rintro e w6 ⟨rfl, hb6⟩
 have B6 := hide ((unhide B5).trans (hb6.mono (unhide B5).size))
 have A6 := hide ((unhide A5).below hb6)
 clear hb6 B5 A5
 go_wp2_with fail
 refine hK.out _ _ ?_ (fun hHeld29 => ?_)
 ·exact (unhide A6).S
 clear hK K
 try simp only [Act.put, qqA, qqB, qqC]
 refine wpAnyH_ready (rs := [30]) (by kernel_rfl) (by simp) ?_
 refine AllReadyH.cons (o := oNdK30) rfl (fun K hK => ?_) AllReadyH.nil
 go_simp
 refine (iwi cm 0 (n : Int) true C5 _).mono ?_
 rintro e w6x ⟨rfl, rfl⟩
 go_wp2_with fail
 refine hK.out _ _ ?_ (fun hHeld30 => ?_)
 ·exact (unhide A6).S
 clear hK K
 try simp only [Act.put, qqA, qqB, qqC]
 refine wtv 31 (oi := oNdK31) ?_
 refine wtv 32 (oi := oNdK32) ?_
 refine wtv 33 (oi := oNdK33) ?_
 refine wtv 34 (oi := oNdK34) ?_
 refine wpAnyH_ready (rs := [35]) (by kernel_rfl) (by simp) ?_
 refine AllReadyH.cons (o := oNdK35) rfl (fun K hK => ?_) AllReadyH.nil
 go_simp
 refine (iwi el 0 1000 true C6 _).mono ?_
 rintro e w6x ⟨rfl, rfl⟩
 go_wp2_with fail
 refine hK.out _ _ ?_ (fun hHeld35 => ?_)
 ·exact (unhide A6).S
 clear hK K
 try simp only [Act.put, qqA, qqB, qqC]
 refine wtv 36 (oi := oNdK36) ?_
 refine wtv 37 (oi := oNdK37) ?_
 refine wtv 38 (oi := oNdK38) ?_
 refine wtv 39 (oi := oNdK39) ?_
 refine wpAnyH_ready (rs := [40]) (by kernel_rfl) (by simp) ?_
 refine AllReadyH.cons (o := oNdK40) rfl (fun K hK => ?_) AllReadyH.nil
 go_simp
 refine (iwi wt 5 100 true C7 _).mono ?_
 rintro e w6x ⟨rfl, rfl⟩
 go_wp2_with fail
 refine hK.out _ _ ?_ (fun hHeld40 => ?_)
 ·exact (unhide A6).S
 clear hK K
 try simp only [Act.put, qqA, qqB, qqC]
 refine wtv 41 (oi := oNdK41) ?_
 refine wtv 42 (oi := oNdK42) ?_
 refine wtv 43 (oi := oNdK43) ?_
 refine wpAnyH_ready (rs := [44]) (by kernel_rfl) (by simp) ?_
 refine AllReadyH.cons (o := oNdK44) rfl (fun K hK => ?_) AllReadyH.nil
 go_simp
 refine (ivotesok id nd tm vt ro cm el wt up a cap n av cv nv ax cx nx ag cg ng lv HNv hnv h1 h5 false C8 _ ((unhide HRv).below (unhide B6))).mono ?_
 rintro e w7 ⟨rfl, hb7⟩
 have B7 := hide ((unhide B6).trans (hb7.mono (unhide B6).size))
 have A7 := hide ((unhide A6).below hb7)
 clear hb7 B6 A6
 go_wp2_with fail
 refine hK.out _ _ ?_ (fun hHeld44 => ?_)
 ·exact (unhide A7).S
 clear hK K
 try simp only [Act.put, qqA, qqB, qqC]
 refine wtv 45 (oi := oNdK45) ?_
 refine wtv 46 (oi := oNdK46) ?_
 refine wtu 47 (oi := oNdK47) ?_
 refine wtu 48 (oi := oNdK48) ?_
 refine wtv 49 (oi := oNdK49) ?_
 refine wtv 50 (oi := oNdK50) ?_
 refine wpAnyH_done (by kernel_rfl) ?_ _
 go_wp2_with fail
 go_ret
 exact ⟨rfl, unhide B7⟩
end Go.Proofs.YtfogppnijdjakaaGreatDoor
