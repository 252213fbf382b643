/- l04Read: what the specification reads, up to the rows. -/
import Derived.Test.YtpcdjpfffanlbaaDoorZRsK
import Derived.Test.YtpcdjpfffanlbaaDoorZReadNumS
import Derived.Test.YtpcdjpfffanlbaaDoorZOkS
import Derived.Test.YtpcdjpfffanlbaaDoorZNumS
namespace Go.Proofs.YtpcdjpfffanlbaaDoor
open Go.ChangeShapes Go.WideShapes Go.ChangeAt Go.RowKit
set_option linter.unusedVariables false
abbrev oRcS0 : Oper := { dst := some 41, op := .move (.tmp 7), type := 4, pos := "l04_screen.go:382", after := #[], guard := none }
abbrev oRcS1 : Oper := { dst := some 42, op := .unOp .not 4 (.tmp 41), type := 4, pos := "l04_screen.go:382", after := #[{ on := 0, ground := .data }], guard := none }
abbrev oRcS2 : Oper := { dst := some 43, op := .move (.tmp 42), type := 4, pos := "l04_screen.go:382", after := #[{ on := 1, ground := .data }], guard := none }
abbrev oRcS3 : Oper := { dst := some 44, op := .move (.tmp 9), type := 4, pos := "l04_screen.go:382", after := #[{ on := 2, ground := .guard }], guard := some (2, false) }
abbrev oRcS4 : Oper := { dst := some 45, op := .unOp .not 4 (.tmp 44), type := 4, pos := "l04_screen.go:382", after := #[{ on := 3, ground := .data }, { on := 2, ground := .guard }], guard := some (2, false) }
abbrev oRcS5 : Oper := { dst := some 46, op := .pick (.tmp 43) (.const (.bool true)) (.tmp 45), type := 4, pos := "l04_screen.go:382", after := #[{ on := 2, ground := .data }, { on := 4, ground := .data }], guard := none }
abbrev oRcS6 : Oper := { dst := some 47, op := .move (.tmp 46), type := 4, pos := "l04_screen.go:382", after := #[{ on := 5, ground := .data }, { on := 2, ground := .chain }], guard := none }
abbrev oRcS7 : Oper := { dst := some 48, op := .move (.tmp 6), type := 47, pos := "l04_screen.go:382", after := #[{ on := 6, ground := .guard }], guard := some (6, false) }
abbrev oRcS8 : Oper := { dst := some 49, op := .call { callee := .builtin Go.Builtin.len, args := #[.tmp 48], argTypes := #[47] }, type := 3, pos := "l04_screen.go:382", after := #[{ on := 7, ground := .data }, { on := 6, ground := .guard }], guard := some (6, false) }
abbrev oRcS9 : Oper := { dst := some 50, op := .binOp .neq 3 (.tmp 49) (.const (.int .i64 9)) 3, type := 4, pos := "l04_screen.go:382", after := #[{ on := 8, ground := .data }, { on := 6, ground := .guard }], guard := some (6, false) }
abbrev oRcS10 : Oper := { dst := some 51, op := .pick (.tmp 47) (.const (.bool true)) (.tmp 50), type := 4, pos := "l04_screen.go:382", after := #[{ on := 6, ground := .data }, { on := 9, ground := .data }], guard := none }
abbrev oRcS11 : Oper := { dst := some 52, op := .move (.tmp 51), type := 4, pos := "l04_screen.go:382", after := #[{ on := 10, ground := .data }, { on := 6, ground := .chain }], guard := none }
abbrev oRcS12 : Oper := { dst := some 53, op := .move (.tmp 6), type := 47, pos := "l04_screen.go:382", after := #[{ on := 11, ground := .guard }], guard := some (11, false) }
abbrev oRcS13 : Oper := { dst := some 54, op := .indexAddr 47 (.tmp 53) (.const (.int .i64 0)), type := 0, pos := "l04_screen.go:382", after := #[{ on := 12, ground := .data }, { on := 11, ground := .guard }], guard := some (11, false) }
abbrev oRcS14 : Oper := { dst := some 55, op := .load 3 (.tmp 54), type := 3, pos := "l04_screen.go:382", after := #[{ on := 13, ground := .data }, { on := 11, ground := .guard }], guard := some (11, false) }
abbrev oRcS15 : Oper := { dst := some 56, op := .move (.tmp 6), type := 47, pos := "l04_screen.go:382", after := #[{ on := 11, ground := .guard }], guard := some (11, false) }
abbrev oRcS16 : Oper := { dst := some 57, op := .indexAddr 47 (.tmp 56) (.const (.int .i64 1)), type := 0, pos := "l04_screen.go:382", after := #[{ on := 15, ground := .data }, { on := 11, ground := .guard }], guard := some (11, false) }
abbrev oRcS17 : Oper := { dst := some 58, op := .load 3 (.tmp 57), type := 3, pos := "l04_screen.go:382", after := #[{ on := 16, ground := .data }, { on := 11, ground := .guard }], guard := some (11, false) }
abbrev oRcS18 : Oper := { dst := some 59, op := .call { callee := .value (.func 24), args := #[.tmp 55, .tmp 58], argTypes := #[3, 3] }, type := 4, pos := "l04_screen.go:382", after := #[{ on := 14, ground := .data }, { on := 17, ground := .data }, { on := 11, ground := .chain }, { on := 11, ground := .guard }], guard := some (11, false) }
abbrev oRcS19 : Oper := { dst := some 60, op := .unOp .not 4 (.tmp 59), type := 4, pos := "l04_screen.go:382", after := #[{ on := 18, ground := .data }, { on := 11, ground := .guard }], guard := some (11, false) }
abbrev oRcS20 : Oper := { dst := some 61, op := .pick (.tmp 52) (.const (.bool true)) (.tmp 60), type := 4, pos := "l04_screen.go:382", after := #[{ on := 11, ground := .data }, { on := 19, ground := .data }], guard := none }
abbrev oRcS21 : Oper := { dst := some 62, op := .move (.tmp 61), type := 4, pos := "l04_screen.go:382", after := #[{ on := 20, ground := .data }, { on := 18, ground := .chain }], guard := none }
abbrev oRcS22 : Oper := { dst := some 63, op := .move (.tmp 4), type := 24, pos := "l04_screen.go:382", after := #[{ on := 21, ground := .guard }], guard := some (21, false) }
abbrev oRcS23 : Oper := { dst := some 64, op := .call { callee := .builtin Go.Builtin.len, args := #[.tmp 63], argTypes := #[24] }, type := 3, pos := "l04_screen.go:382", after := #[{ on := 22, ground := .data }, { on := 21, ground := .guard }], guard := some (21, false) }
abbrev oRcS24 : Oper := { dst := some 65, op := .move (.tmp 6), type := 47, pos := "l04_screen.go:382", after := #[{ on := 21, ground := .guard }], guard := some (21, false) }
abbrev oRcS25 : Oper := { dst := some 66, op := .indexAddr 47 (.tmp 65) (.const (.int .i64 1)), type := 0, pos := "l04_screen.go:382", after := #[{ on := 24, ground := .data }, { on := 21, ground := .guard }], guard := some (21, false) }
abbrev oRcS26 : Oper := { dst := some 67, op := .load 3 (.tmp 66), type := 3, pos := "l04_screen.go:382", after := #[{ on := 25, ground := .data }, { on := 21, ground := .guard }], guard := some (21, false) }
abbrev oRcS27 : Oper := { dst := some 68, op := .binOp .add 3 (.const (.int .i64 3)) (.tmp 67) 3, type := 3, pos := "l04_screen.go:382", after := #[{ on := 26, ground := .data }, { on := 21, ground := .guard }], guard := some (21, false) }
abbrev oRcS28 : Oper := { dst := some 69, op := .binOp .neq 3 (.tmp 64) (.tmp 68) 3, type := 4, pos := "l04_screen.go:382", after := #[{ on := 23, ground := .data }, { on := 27, ground := .data }, { on := 21, ground := .guard }], guard := some (21, false) }
abbrev oRcS29 : Oper := { dst := some 70, op := .pick (.tmp 62) (.const (.bool true)) (.tmp 69), type := 4, pos := "l04_screen.go:382", after := #[{ on := 21, ground := .data }, { on := 28, ground := .data }], guard := none }
set_option maxHeartbeats 8000000 in
set_option maxRecDepth 100000 in
theorem src0_none (s : ByteArray) (w : World) (T1 : Hid (∀ w1, Calls Tryd.prog 22 #[.string s] w1 fun e w' => ∃ v', e = .returned (.tuple #[v', .bool false]) ∧ w'.ownsRow w1.heap.size 9 1 v' 0 (cS []) ∧ Below w1.heap.size w1 w')) :
  Calls Tryd.prog 12 #[.string s] w fun e w' => e = .returned (.tuple #[.agg #[.int .i64 0, .int .i64 0, .int .i64 0, .int .i64 0, .int .i64 0, .int .i64 0, .int .i64 0, .int .i64 0, .int .i64 0, .string ⟨#[]⟩, .slice none 0 0, .slice none 0 0], .bool false]) ∧ Below w.heap.size w w' := by
 have B0 := hide (Go.Joins.below_alloc1 w (Obj.cells #[.int .i64 0, .int .i64 0, .int .i64 0, .int .i64 0, .int .i64 0, .int .i64 0, .int .i64 0, .int .i64 0, .int .i64 0, .string ⟨#[]⟩, .slice none 0 0, .slice none 0 0] 26))
 have Y0 := hide (BF.new w #[.int .i64 0, .int .i64 0, .int .i64 0, .int .i64 0, .int .i64 0, .int .i64 0, .int .i64 0, .int .i64 0, .int .i64 0, .string ⟨#[]⟩, .slice none 0 0, .slice none 0 0] 26)
 go_enter Tryd.func12, Tryd.ntmps12
 go_wp2_with fail
 refine (unhide T1 _).mono ?_
 rintro e w1 ⟨v1, rfl, ho1, hb1⟩
 obtain ⟨a1, c1, rfl, -⟩ := own_rowV ho1
 have B1 := hide ((unhide B0).trans (hb1.mono (unhide B0).size))
 have Y1 := hide ((unhide Y0).below hb1)
 clear ho1 hb1 T1 B0 Y0
 have kz := (unhide Y1).S
 have kf := (unhide Y1).F
 go_wp2_with fail
 refine bodyPost_ret (v := .tuple #[.agg #[.int .i64 0, .int .i64 0, .int .i64 0, .int .i64 0, .int .i64 0, .int .i64 0, .int .i64 0, .int .i64 0, .int .i64 0, .string ⟨#[]⟩, .slice none 0 0, .slice none 0 0], .bool false]) (by simp [results, Tryd.results12, go_sem, kz]) rfl ⟨rfl, ?_⟩
 iterate 12 refine Below.setCell ?_ (by exact Nat.le_refl _) _
 exact unhide B1
set_option maxHeartbeats 8000000 in
set_option maxRecDepth 100000 in
theorem src0_few (s : ByteArray) (ml : Nat) (mm : List ByteArray) (h3 : ((ml : Nat) : Int) < 3) (w : World) (T1 : Hid (∀ w1, Calls Tryd.prog 22 #[.string s] w1 fun e w' => ∃ v', e = .returned (.tuple #[v', .bool true]) ∧ w'.ownsRow w1.heap.size 9 1 v' ml (cS mm) ∧ Below w1.heap.size w1 w')) :
  Calls Tryd.prog 12 #[.string s] w fun e w' => e = .returned (.tuple #[.agg #[.int .i64 0, .int .i64 0, .int .i64 0, .int .i64 0, .int .i64 0, .int .i64 0, .int .i64 0, .int .i64 0, .int .i64 0, .string ⟨#[]⟩, .slice none 0 0, .slice none 0 0], .bool false]) ∧ Below w.heap.size w w' := by
 have B0 := hide (Go.Joins.below_alloc1 w (Obj.cells #[.int .i64 0, .int .i64 0, .int .i64 0, .int .i64 0, .int .i64 0, .int .i64 0, .int .i64 0, .int .i64 0, .int .i64 0, .string ⟨#[]⟩, .slice none 0 0, .slice none 0 0] 26))
 have Y0 := hide (BF.new w #[.int .i64 0, .int .i64 0, .int .i64 0, .int .i64 0, .int .i64 0, .int .i64 0, .int .i64 0, .int .i64 0, .int .i64 0, .string ⟨#[]⟩, .slice none 0 0, .slice none 0 0] 26)
 go_enter Tryd.func12, Tryd.ntmps12
 go_wp2_with fail
 refine (unhide T1 _).mono ?_
 rintro e w1 ⟨v1, rfl, ho1, hb1⟩
 obtain ⟨a1, c1, rfl, -⟩ := own_rowV ho1
 have B1 := hide ((unhide B0).trans (hb1.mono (unhide B0).size))
 have Y1 := hide ((unhide Y0).below hb1)
 clear ho1 hb1 T1 B0 Y0
 have kz := (unhide Y1).S
 have kf := (unhide Y1).F
 go_wp2_with fail
 refine bodyPost_ret (v := .tuple #[.agg #[.int .i64 0, .int .i64 0, .int .i64 0, .int .i64 0, .int .i64 0, .int .i64 0, .int .i64 0, .int .i64 0, .int .i64 0, .string ⟨#[]⟩, .slice none 0 0, .slice none 0 0], .bool false]) (by simp [results, Tryd.results12, go_sem, kz]) rfl ⟨rfl, ?_⟩
 iterate 12 refine Below.setCell ?_ (by exact Nat.le_refl _) _
 exact unhide B1
set_option maxHeartbeats 8000000 in
set_option maxRecDepth 100000 in
theorem src0_form (s : ByteArray) (d t f : ByteArray) (rs : List ByteArray) (rr : Nat) (hr60 : rr + 3 ≤ 60) (good : Bool) (mh : Nat) (m : List ByteArray) (hs : d.size ≤ 20000) (h3 : ¬ d.size % 3 = 0) (w : World) (T1 : Hid (∀ w1, Calls Tryd.prog 22 #[.string s] w1 fun e w' => ∃ v', e = .returned (.tuple #[v', .bool true]) ∧ w'.ownsRow w1.heap.size 9 1 v' (rr + 3) (cS (d :: t :: f :: rs)) ∧ Below w1.heap.size w1 w')) (T2 : Hid (∀ w1, Calls Tryd.prog 22 #[.string f] w1 fun e w' => ∃ v', e = .returned (.tuple #[v', .bool good]) ∧ w'.ownsRow w1.heap.size 9 1 v' mh (cS m) ∧ Below w1.heap.size w1 w')) :
  Calls Tryd.prog 12 #[.string s] w fun e w' => e = .returned (.tuple #[.agg #[.int .i64 0, .int .i64 0, .int .i64 0, .int .i64 0, .int .i64 0, .int .i64 0, .int .i64 0, .int .i64 0, .int .i64 0, .string ⟨#[]⟩, .slice none 0 0, .slice none 0 0], .bool false]) ∧ Below w.heap.size w w' := by
 have B0 := hide (Go.Joins.below_alloc1 w (Obj.cells #[.int .i64 0, .int .i64 0, .int .i64 0, .int .i64 0, .int .i64 0, .int .i64 0, .int .i64 0, .int .i64 0, .int .i64 0, .string ⟨#[]⟩, .slice none 0 0, .slice none 0 0] 26))
 have Y0 := hide (BF.new w #[.int .i64 0, .int .i64 0, .int .i64 0, .int .i64 0, .int .i64 0, .int .i64 0, .int .i64 0, .int .i64 0, .int .i64 0, .string ⟨#[]⟩, .slice none 0 0, .slice none 0 0] 26)
 have TN := hide (fun w => sreadform30 d h3 (by omega) w)
 clear hs h3
 go_enter Tryd.func12, Tryd.ntmps12
 go_wp2_with fail
 refine (unhide T1 _).mono ?_
 rintro e w1 ⟨v1, rfl, ho1, hb1⟩
 obtain ⟨a1, c1, rfl, -⟩ := own_rowV ho1
 have B1 := hide ((unhide B0).trans (hb1.mono (unhide B0).size))
 have Y1 := hide ((unhide Y0).below hb1)
 have hr1 : ¬ ((rr : Int) + 3) < 3 := by omega
 have hr2 : (0 : Int) < (rr : Int) + 3 := by omega
 have hr3 : (2 : Int) < (rr : Int) + 3 := by omega
 obtain ⟨g1, rfl⟩ := own_atN ho1 (by omega)
 have d0 := own_cellN ho1 0 _ rfl
 have hg1 := (World.ownsRow.lt ho1 g1 rfl).2
 have D2 := hide (own_cellN ho1 2 _ rfl)
 clear ho1 hb1 T1 B0 Y0
 go_wp2_with fail
 refine (unhide TN _).mono ?_
 rintro e w3 ⟨v3, rfl, hb3⟩
 have d2 : w3.cell? ⟨g1, 2, none⟩ = some (.string f) := (hb3.cell (p := ⟨g1, 2, none⟩) hg1).trans (unhide D2)
 have B3 := hide ((unhide B1).trans (hb3.mono (unhide B1).size))
 have Y3 := hide ((unhide Y1).below hb3)
 clear hb3 B1 Y1 d0 TN
 go_wp2_with fail
 refine (unhide T2 _).mono ?_
 rintro e w4 ⟨v4, rfl, ho4, hb4⟩
 obtain ⟨a4, c4, rfl, -⟩ := own_rowV ho4
 have B4 := hide ((unhide B3).trans (hb4.mono (unhide B3).size))
 have Y4 := hide ((unhide Y3).below hb4)
 clear ho4 hb4 d2 T2 B3 Y3 D2
 go_wp2_with fail
 refine wp_region_held_drew (S := (fun _ => True)) (by kernel_rfl) trivial (fun hHeld => ?_)
 have B5 := hide ((unhide B4).drew)
 have Y5 := hide ((unhide Y4).drew)
 clear B4 Y4
 generalize w4.drew = w5 at B5 Y5 hHeld ⊢
 refine wtv 0 (oi := oRcS0) ?_
 refine wtv 1 (oi := oRcS1) ?_
 refine wtv 2 (oi := oRcS2) ?_
 refine wtu 3 (oi := oRcS3) ?_
 refine wtu 4 (oi := oRcS4) ?_
 refine wtv 5 (oi := oRcS5) ?_
 refine wtv 6 (oi := oRcS6) ?_
 refine wtu 7 (oi := oRcS7) ?_
 refine wtu 8 (oi := oRcS8) ?_
 refine wtu 9 (oi := oRcS9) ?_
 refine wtv 10 (oi := oRcS10) ?_
 refine wtv 11 (oi := oRcS11) ?_
 refine wtu 12 (oi := oRcS12) ?_
 refine wtu 13 (oi := oRcS13) ?_
 refine wtu 14 (oi := oRcS14) ?_
 refine wtu 15 (oi := oRcS15) ?_
 refine wtu 16 (oi := oRcS16) ?_
 refine wtu 17 (oi := oRcS17) ?_
 refine wtu 18 (oi := oRcS18) ?_
 refine wtu 19 (oi := oRcS19) ?_
 refine wtv 20 (oi := oRcS20) ?_
 refine wtv 21 (oi := oRcS21) ?_
 refine wtu 22 (oi := oRcS22) ?_
 refine wtu 23 (oi := oRcS23) ?_
 refine wtu 24 (oi := oRcS24) ?_
 refine wtu 25 (oi := oRcS25) ?_
 refine wtu 26 (oi := oRcS26) ?_
 refine wtu 27 (oi := oRcS27) ?_
 refine wtu 28 (oi := oRcS28) ?_
 refine wtv 29 (oi := oRcS29) ?_
 refine wpAnyH_done (by kernel_rfl) ?_ _
 have kz := (unhide Y5).S
 have kf := (unhide Y5).F
 go_wp2_with fail
 refine bodyPost_ret (v := .tuple #[.agg #[.int .i64 0, .int .i64 0, .int .i64 0, .int .i64 0, .int .i64 0, .int .i64 0, .int .i64 0, .int .i64 0, .int .i64 0, .string ⟨#[]⟩, .slice none 0 0, .slice none 0 0], .bool false]) (by simp [results, Tryd.results12, go_sem, kz]) rfl ⟨rfl, ?_⟩
 iterate 12 refine Below.setCell ?_ (by exact Nat.le_refl _) _
 exact unhide B5
set_option maxHeartbeats 8000000 in
set_option maxRecDepth 100000 in
theorem src0_hist (s : ByteArray) (d t f : ByteArray) (rs : List ByteArray) (rr : Nat) (hr60 : rr + 3 ≤ 60) (q : Nat) (hs : d.size = 3 * q) (hq : q ≤ 20000) (w : World) (T1 : Hid (∀ w1, Calls Tryd.prog 22 #[.string s] w1 fun e w' => ∃ v', e = .returned (.tuple #[v', .bool true]) ∧ w'.ownsRow w1.heap.size 9 1 v' (rr + 3) (cS (d :: t :: f :: rs)) ∧ Below w1.heap.size w1 w')) (T2 : Hid (∀ w1, Calls Tryd.prog 22 #[.string f] w1 fun e w' => ∃ v', e = .returned (.tuple #[v', .bool false]) ∧ w'.ownsRow w1.heap.size 9 1 v' 0 (cS []) ∧ Below w1.heap.size w1 w')) :
  Calls Tryd.prog 12 #[.string s] w fun e w' => e = .returned (.tuple #[.agg #[.int .i64 0, .int .i64 0, .int .i64 0, .int .i64 0, .int .i64 0, .int .i64 0, .int .i64 0, .int .i64 0, .int .i64 0, .string ⟨#[]⟩, .slice none 0 0, .slice none 0 0], .bool false]) ∧ Below w.heap.size w w' := by
 have B0 := hide (Go.Joins.below_alloc1 w (Obj.cells #[.int .i64 0, .int .i64 0, .int .i64 0, .int .i64 0, .int .i64 0, .int .i64 0, .int .i64 0, .int .i64 0, .int .i64 0, .string ⟨#[]⟩, .slice none 0 0, .slice none 0 0] 26))
 have Y0 := hide (BF.new w #[.int .i64 0, .int .i64 0, .int .i64 0, .int .i64 0, .int .i64 0, .int .i64 0, .int .i64 0, .int .i64 0, .int .i64 0, .string ⟨#[]⟩, .slice none 0 0, .slice none 0 0] 26)
 have TN := hide (fun w => sreadnums30 d q hs (by omega) w)
 rw [numsR_len] at TN
 clear hs hq
 go_enter Tryd.func12, Tryd.ntmps12
 go_wp2_with fail
 refine (unhide T1 _).mono ?_
 rintro e w1 ⟨v1, rfl, ho1, hb1⟩
 obtain ⟨a1, c1, rfl, -⟩ := own_rowV ho1
 have B1 := hide ((unhide B0).trans (hb1.mono (unhide B0).size))
 have Y1 := hide ((unhide Y0).below hb1)
 have hr1 : ¬ ((rr : Int) + 3) < 3 := by omega
 have hr2 : (0 : Int) < (rr : Int) + 3 := by omega
 have hr3 : (2 : Int) < (rr : Int) + 3 := by omega
 obtain ⟨g1, rfl⟩ := own_atN ho1 (by omega)
 have d0 := own_cellN ho1 0 _ rfl
 have hg1 := (World.ownsRow.lt ho1 g1 rfl).2
 have D2 := hide (own_cellN ho1 2 _ rfl)
 clear ho1 hb1 T1 B0 Y0
 go_wp2_with fail
 refine (unhide TN _).mono ?_
 rintro e w3 ⟨v3, rfl, ho3, hb3⟩
 obtain ⟨a3, c3, rfl, -⟩ := own_rowV ho3
 have d2 : w3.cell? ⟨g1, 2, none⟩ = some (.string f) := (hb3.cell (p := ⟨g1, 2, none⟩) hg1).trans (unhide D2)
 have B3 := hide ((unhide B1).trans (hb3.mono (unhide B1).size))
 have Y3 := hide ((unhide Y1).below hb3)
 clear ho3
 clear hb3 B1 Y1 d0 TN
 go_wp2_with fail
 refine (unhide T2 _).mono ?_
 rintro e w4 ⟨v4, rfl, ho4, hb4⟩
 obtain ⟨a4, c4, rfl, -⟩ := own_rowV ho4
 have B4 := hide ((unhide B3).trans (hb4.mono (unhide B3).size))
 have Y4 := hide ((unhide Y3).below hb4)
 clear ho4 hb4 d2 T2 B3 Y3 D2
 go_wp2_with fail
 refine wp_region_held_drew (S := (fun _ => True)) (by kernel_rfl) trivial (fun hHeld => ?_)
 have B5 := hide ((unhide B4).drew)
 have Y5 := hide ((unhide Y4).drew)
 clear B4 Y4
 generalize w4.drew = w5 at B5 Y5 hHeld ⊢
 refine wtv 0 (oi := oRcS0) ?_
 refine wtv 1 (oi := oRcS1) ?_
 refine wtv 2 (oi := oRcS2) ?_
 refine wtv 3 (oi := oRcS3) ?_
 refine wtv 4 (oi := oRcS4) ?_
 refine wtv 5 (oi := oRcS5) ?_
 refine wtv 6 (oi := oRcS6) ?_
 refine wtu 7 (oi := oRcS7) ?_
 refine wtu 8 (oi := oRcS8) ?_
 refine wtu 9 (oi := oRcS9) ?_
 refine wtv 10 (oi := oRcS10) ?_
 refine wtv 11 (oi := oRcS11) ?_
 refine wtu 12 (oi := oRcS12) ?_
 refine wtu 13 (oi := oRcS13) ?_
 refine wtu 14 (oi := oRcS14) ?_
 refine wtu 15 (oi := oRcS15) ?_
 refine wtu 16 (oi := oRcS16) ?_
 refine wtu 17 (oi := oRcS17) ?_
 refine wtu 18 (oi := oRcS18) ?_
 refine wtu 19 (oi := oRcS19) ?_
 refine wtv 20 (oi := oRcS20) ?_
 refine wtv 21 (oi := oRcS21) ?_
 refine wtu 22 (oi := oRcS22) ?_
 refine wtu 23 (oi := oRcS23) ?_
 refine wtu 24 (oi := oRcS24) ?_
 refine wtu 25 (oi := oRcS25) ?_
 refine wtu 26 (oi := oRcS26) ?_
 refine wtu 27 (oi := oRcS27) ?_
 refine wtu 28 (oi := oRcS28) ?_
 refine wtv 29 (oi := oRcS29) ?_
 refine wpAnyH_done (by kernel_rfl) ?_ _
 have kz := (unhide Y5).S
 have kf := (unhide Y5).F
 go_wp2_with fail
 refine bodyPost_ret (v := .tuple #[.agg #[.int .i64 0, .int .i64 0, .int .i64 0, .int .i64 0, .int .i64 0, .int .i64 0, .int .i64 0, .int .i64 0, .int .i64 0, .string ⟨#[]⟩, .slice none 0 0, .slice none 0 0], .bool false]) (by simp [results, Tryd.results12, go_sem, kz]) rfl ⟨rfl, ?_⟩
 iterate 12 refine Below.setCell ?_ (by exact Nat.le_refl _) _
 exact unhide B5
set_option maxHeartbeats 8000000 in
set_option maxRecDepth 100000 in
theorem src0_cnt (s : ByteArray) (d t f : ByteArray) (rs : List ByteArray) (rr : Nat) (hr60 : rr + 3 ≤ 60) (q : Nat) (hs : d.size = 3 * q) (hq : q ≤ 20000) (h9 : ¬ q = 9) (mh : Nat) (m : List ByteArray) (w : World) (T1 : Hid (∀ w1, Calls Tryd.prog 22 #[.string s] w1 fun e w' => ∃ v', e = .returned (.tuple #[v', .bool true]) ∧ w'.ownsRow w1.heap.size 9 1 v' (rr + 3) (cS (d :: t :: f :: rs)) ∧ Below w1.heap.size w1 w')) (T2 : Hid (∀ w1, Calls Tryd.prog 22 #[.string f] w1 fun e w' => ∃ v', e = .returned (.tuple #[v', .bool true]) ∧ w'.ownsRow w1.heap.size 9 1 v' mh (cS m) ∧ Below w1.heap.size w1 w')) :
  Calls Tryd.prog 12 #[.string s] w fun e w' => e = .returned (.tuple #[.agg #[.int .i64 0, .int .i64 0, .int .i64 0, .int .i64 0, .int .i64 0, .int .i64 0, .int .i64 0, .int .i64 0, .int .i64 0, .string ⟨#[]⟩, .slice none 0 0, .slice none 0 0], .bool false]) ∧ Below w.heap.size w w' := by
 have B0 := hide (Go.Joins.below_alloc1 w (Obj.cells #[.int .i64 0, .int .i64 0, .int .i64 0, .int .i64 0, .int .i64 0, .int .i64 0, .int .i64 0, .int .i64 0, .int .i64 0, .string ⟨#[]⟩, .slice none 0 0, .slice none 0 0] 26))
 have Y0 := hide (BF.new w #[.int .i64 0, .int .i64 0, .int .i64 0, .int .i64 0, .int .i64 0, .int .i64 0, .int .i64 0, .int .i64 0, .int .i64 0, .string ⟨#[]⟩, .slice none 0 0, .slice none 0 0] 26)
 have TN := hide (fun w => sreadnums30 d q hs (by omega) w)
 rw [numsR_len] at TN
 have h9' : ((q : Int) != 9) = true := by rw [bne_iff_ne]; omega
 clear hs hq
 go_enter Tryd.func12, Tryd.ntmps12
 go_wp2_with fail
 refine (unhide T1 _).mono ?_
 rintro e w1 ⟨v1, rfl, ho1, hb1⟩
 obtain ⟨a1, c1, rfl, -⟩ := own_rowV ho1
 have B1 := hide ((unhide B0).trans (hb1.mono (unhide B0).size))
 have Y1 := hide ((unhide Y0).below hb1)
 have hr1 : ¬ ((rr : Int) + 3) < 3 := by omega
 have hr2 : (0 : Int) < (rr : Int) + 3 := by omega
 have hr3 : (2 : Int) < (rr : Int) + 3 := by omega
 obtain ⟨g1, rfl⟩ := own_atN ho1 (by omega)
 have d0 := own_cellN ho1 0 _ rfl
 have hg1 := (World.ownsRow.lt ho1 g1 rfl).2
 have D2 := hide (own_cellN ho1 2 _ rfl)
 clear ho1 hb1 T1 B0 Y0
 go_wp2_with fail
 refine (unhide TN _).mono ?_
 rintro e w3 ⟨v3, rfl, ho3, hb3⟩
 obtain ⟨a3, c3, rfl, -⟩ := own_rowV ho3
 have d2 : w3.cell? ⟨g1, 2, none⟩ = some (.string f) := (hb3.cell (p := ⟨g1, 2, none⟩) hg1).trans (unhide D2)
 have B3 := hide ((unhide B1).trans (hb3.mono (unhide B1).size))
 have Y3 := hide ((unhide Y1).below hb3)
 clear ho3
 clear hb3 B1 Y1 d0 TN
 go_wp2_with fail
 refine (unhide T2 _).mono ?_
 rintro e w4 ⟨v4, rfl, ho4, hb4⟩
 obtain ⟨a4, c4, rfl, -⟩ := own_rowV ho4
 have B4 := hide ((unhide B3).trans (hb4.mono (unhide B3).size))
 have Y4 := hide ((unhide Y3).below hb4)
 clear ho4 hb4 d2 T2 B3 Y3 D2
 go_wp2_with fail
 refine wp_region_held_drew (S := (fun _ => True)) (by kernel_rfl) trivial (fun hHeld => ?_)
 have B5 := hide ((unhide B4).drew)
 have Y5 := hide ((unhide Y4).drew)
 clear B4 Y4
 generalize w4.drew = w5 at B5 Y5 hHeld ⊢
 refine wtv 0 (oi := oRcS0) ?_
 refine wtv 1 (oi := oRcS1) ?_
 refine wtv 2 (oi := oRcS2) ?_
 refine wtv 3 (oi := oRcS3) ?_
 refine wtv 4 (oi := oRcS4) ?_
 refine wtv 5 (oi := oRcS5) ?_
 refine wtv 6 (oi := oRcS6) ?_
 refine wtv 7 (oi := oRcS7) ?_
 refine wtv 8 (oi := oRcS8) ?_
 refine wtv 9 (oi := oRcS9) ?_
 refine wtv 10 (oi := oRcS10) ?_
 refine wtv 11 (oi := oRcS11) ?_
 refine wtu 12 (oi := oRcS12) ?_
 refine wtu 13 (oi := oRcS13) ?_
 refine wtu 14 (oi := oRcS14) ?_
 refine wtu 15 (oi := oRcS15) ?_
 refine wtu 16 (oi := oRcS16) ?_
 refine wtu 17 (oi := oRcS17) ?_
 refine wtu 18 (oi := oRcS18) ?_
 refine wtu 19 (oi := oRcS19) ?_
 refine wtv 20 (oi := oRcS20) ?_
 refine wtv 21 (oi := oRcS21) ?_
 refine wtu 22 (oi := oRcS22) ?_
 refine wtu 23 (oi := oRcS23) ?_
 refine wtu 24 (oi := oRcS24) ?_
 refine wtu 25 (oi := oRcS25) ?_
 refine wtu 26 (oi := oRcS26) ?_
 refine wtu 27 (oi := oRcS27) ?_
 refine wtu 28 (oi := oRcS28) ?_
 refine wtv 29 (oi := oRcS29) ?_
 refine wpAnyH_done (by kernel_rfl) ?_ _
 have kz := (unhide Y5).S
 have kf := (unhide Y5).F
 go_wp2_with fail
 refine bodyPost_ret (v := .tuple #[.agg #[.int .i64 0, .int .i64 0, .int .i64 0, .int .i64 0, .int .i64 0, .int .i64 0, .int .i64 0, .int .i64 0, .int .i64 0, .string ⟨#[]⟩, .slice none 0 0, .slice none 0 0], .bool false]) (by simp [results, Tryd.results12, go_sem, kz]) rfl ⟨rfl, ?_⟩
 iterate 12 refine Below.setCell ?_ (by exact Nat.le_refl _) _
 exact unhide B5
end Go.Proofs.YtpcdjpfffanlbaaDoor
