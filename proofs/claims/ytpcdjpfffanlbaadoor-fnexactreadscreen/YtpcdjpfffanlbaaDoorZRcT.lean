/- l04Read: sizes that are none, and the rows. -/
import Derived.Test.YtpcdjpfffanlbaaDoorZRcS
import Derived.Deep.Cut
import Derived.Deep.MidRow
import Derived.Laws.ResultCell
namespace Go.Proofs.YtpcdjpfffanlbaaDoor
open Go.ChangeShapes Go.WideShapes Go.ChangeAt Go.RowKit
set_option linter.unusedVariables false
abbrev oRcT0 : Oper := { dst := some 41, op := .move (.tmp 7), type := 4, pos := "l04_screen.go:382", after := #[], guard := none }
abbrev oRcT1 : Oper := { dst := some 42, op := .unOp .not 4 (.tmp 41), type := 4, pos := "l04_screen.go:382", after := #[{ on := 0, ground := .data }], guard := none }
abbrev oRcT2 : Oper := { dst := some 43, op := .move (.tmp 42), type := 4, pos := "l04_screen.go:382", after := #[{ on := 1, ground := .data }], guard := none }
abbrev oRcT3 : Oper := { dst := some 44, op := .move (.tmp 9), type := 4, pos := "l04_screen.go:382", after := #[{ on := 2, ground := .guard }], guard := some (2, false) }
abbrev oRcT4 : Oper := { dst := some 45, op := .unOp .not 4 (.tmp 44), type := 4, pos := "l04_screen.go:382", after := #[{ on := 3, ground := .data }, { on := 2, ground := .guard }], guard := some (2, false) }
abbrev oRcT5 : Oper := { dst := some 46, op := .pick (.tmp 43) (.const (.bool true)) (.tmp 45), type := 4, pos := "l04_screen.go:382", after := #[{ on := 2, ground := .data }, { on := 4, ground := .data }], guard := none }
abbrev oRcT6 : Oper := { dst := some 47, op := .move (.tmp 46), type := 4, pos := "l04_screen.go:382", after := #[{ on := 5, ground := .data }, { on := 2, ground := .chain }], guard := none }
abbrev oRcT7 : Oper := { dst := some 48, op := .move (.tmp 6), type := 47, pos := "l04_screen.go:382", after := #[{ on := 6, ground := .guard }], guard := some (6, false) }
abbrev oRcT8 : Oper := { dst := some 49, op := .call { callee := .builtin Go.Builtin.len, args := #[.tmp 48], argTypes := #[47] }, type := 3, pos := "l04_screen.go:382", after := #[{ on := 7, ground := .data }, { on := 6, ground := .guard }], guard := some (6, false) }
abbrev oRcT9 : Oper := { dst := some 50, op := .binOp .neq 3 (.tmp 49) (.const (.int .i64 9)) 3, type := 4, pos := "l04_screen.go:382", after := #[{ on := 8, ground := .data }, { on := 6, ground := .guard }], guard := some (6, false) }
abbrev oRcT10 : Oper := { dst := some 51, op := .pick (.tmp 47) (.const (.bool true)) (.tmp 50), type := 4, pos := "l04_screen.go:382", after := #[{ on := 6, ground := .data }, { on := 9, ground := .data }], guard := none }
abbrev oRcT11 : Oper := { dst := some 52, op := .move (.tmp 51), type := 4, pos := "l04_screen.go:382", after := #[{ on := 10, ground := .data }, { on := 6, ground := .chain }], guard := none }
abbrev oRcT12 : Oper := { dst := some 53, op := .move (.tmp 6), type := 47, pos := "l04_screen.go:382", after := #[{ on := 11, ground := .guard }], guard := some (11, false) }
abbrev oRcT13 : Oper := { dst := some 54, op := .indexAddr 47 (.tmp 53) (.const (.int .i64 0)), type := 0, pos := "l04_screen.go:382", after := #[{ on := 12, ground := .data }, { on := 11, ground := .guard }], guard := some (11, false) }
abbrev oRcT14 : Oper := { dst := some 55, op := .load 3 (.tmp 54), type := 3, pos := "l04_screen.go:382", after := #[{ on := 13, ground := .data }, { on := 11, ground := .guard }], guard := some (11, false) }
abbrev oRcT15 : Oper := { dst := some 56, op := .move (.tmp 6), type := 47, pos := "l04_screen.go:382", after := #[{ on := 11, ground := .guard }], guard := some (11, false) }
abbrev oRcT16 : Oper := { dst := some 57, op := .indexAddr 47 (.tmp 56) (.const (.int .i64 1)), type := 0, pos := "l04_screen.go:382", after := #[{ on := 15, ground := .data }, { on := 11, ground := .guard }], guard := some (11, false) }
abbrev oRcT17 : Oper := { dst := some 58, op := .load 3 (.tmp 57), type := 3, pos := "l04_screen.go:382", after := #[{ on := 16, ground := .data }, { on := 11, ground := .guard }], guard := some (11, false) }
abbrev oRcT18 : Oper := { dst := some 59, op := .call { callee := .value (.func 24), args := #[.tmp 55, .tmp 58], argTypes := #[3, 3] }, type := 4, pos := "l04_screen.go:382", after := #[{ on := 14, ground := .data }, { on := 17, ground := .data }, { on := 11, ground := .chain }, { on := 11, ground := .guard }], guard := some (11, false) }
abbrev oRcT19 : Oper := { dst := some 60, op := .unOp .not 4 (.tmp 59), type := 4, pos := "l04_screen.go:382", after := #[{ on := 18, ground := .data }, { on := 11, ground := .guard }], guard := some (11, false) }
abbrev oRcT20 : Oper := { dst := some 61, op := .pick (.tmp 52) (.const (.bool true)) (.tmp 60), type := 4, pos := "l04_screen.go:382", after := #[{ on := 11, ground := .data }, { on := 19, ground := .data }], guard := none }
abbrev oRcT21 : Oper := { dst := some 62, op := .move (.tmp 61), type := 4, pos := "l04_screen.go:382", after := #[{ on := 20, ground := .data }, { on := 18, ground := .chain }], guard := none }
abbrev oRcT22 : Oper := { dst := some 63, op := .move (.tmp 4), type := 24, pos := "l04_screen.go:382", after := #[{ on := 21, ground := .guard }], guard := some (21, false) }
abbrev oRcT23 : Oper := { dst := some 64, op := .call { callee := .builtin Go.Builtin.len, args := #[.tmp 63], argTypes := #[24] }, type := 3, pos := "l04_screen.go:382", after := #[{ on := 22, ground := .data }, { on := 21, ground := .guard }], guard := some (21, false) }
abbrev oRcT24 : Oper := { dst := some 65, op := .move (.tmp 6), type := 47, pos := "l04_screen.go:382", after := #[{ on := 21, ground := .guard }], guard := some (21, false) }
abbrev oRcT25 : Oper := { dst := some 66, op := .indexAddr 47 (.tmp 65) (.const (.int .i64 1)), type := 0, pos := "l04_screen.go:382", after := #[{ on := 24, ground := .data }, { on := 21, ground := .guard }], guard := some (21, false) }
abbrev oRcT26 : Oper := { dst := some 67, op := .load 3 (.tmp 66), type := 3, pos := "l04_screen.go:382", after := #[{ on := 25, ground := .data }, { on := 21, ground := .guard }], guard := some (21, false) }
abbrev oRcT27 : Oper := { dst := some 68, op := .binOp .add 3 (.const (.int .i64 3)) (.tmp 67) 3, type := 3, pos := "l04_screen.go:382", after := #[{ on := 26, ground := .data }, { on := 21, ground := .guard }], guard := some (21, false) }
abbrev oRcT28 : Oper := { dst := some 69, op := .binOp .neq 3 (.tmp 64) (.tmp 68) 3, type := 4, pos := "l04_screen.go:382", after := #[{ on := 23, ground := .data }, { on := 27, ground := .data }, { on := 21, ground := .guard }], guard := some (21, false) }
abbrev oRcT29 : Oper := { dst := some 70, op := .pick (.tmp 62) (.const (.bool true)) (.tmp 69), type := 4, pos := "l04_screen.go:382", after := #[{ on := 21, ground := .data }, { on := 28, ground := .data }], guard := none }
set_option maxHeartbeats 8000000 in
set_option maxRecDepth 100000 in
theorem src0_size (s : ByteArray) (d t f : ByteArray) (rs : List ByteArray) (rr : Nat) (hr60 : rr + 3 ≤ 60) (h27 : d.size = 3 * 9) (i0 i1 i2 i3 i4 i5 i6 i7 i8 : Int) (hx : numsR d.data.toList 9 = [i0, i1, i2, i3, i4, i5, i6, i7, i8]) (hszb : sizeB i0 i1 = false) (mh : Nat) (m : List ByteArray) (w : World) (T1 : Hid (∀ w1, Calls Tryd.prog 22 #[.string s] w1 fun e w' => ∃ v', e = .returned (.tuple #[v', .bool true]) ∧ w'.ownsRow w1.heap.size 9 1 v' (rr + 3) (cS (d :: t :: f :: rs)) ∧ Below w1.heap.size w1 w')) (T2 : Hid (∀ w1, Calls Tryd.prog 22 #[.string f] w1 fun e w' => ∃ v', e = .returned (.tuple #[v', .bool true]) ∧ w'.ownsRow w1.heap.size 9 1 v' mh (cS m) ∧ Below w1.heap.size w1 w')) :
  Calls Tryd.prog 12 #[.string s] w fun e w' => e = .returned (.tuple #[.agg #[.int .i64 0, .int .i64 0, .int .i64 0, .int .i64 0, .int .i64 0, .int .i64 0, .int .i64 0, .int .i64 0, .int .i64 0, .string ⟨#[]⟩, .slice none 0 0, .slice none 0 0], .bool false]) ∧ Below w.heap.size w w' := by
 have B0 := hide (Go.Joins.below_alloc1 w (Obj.cells #[.int .i64 0, .int .i64 0, .int .i64 0, .int .i64 0, .int .i64 0, .int .i64 0, .int .i64 0, .int .i64 0, .int .i64 0, .string ⟨#[]⟩, .slice none 0 0, .slice none 0 0] 26))
 have Y0 := hide (BF.new w #[.int .i64 0, .int .i64 0, .int .i64 0, .int .i64 0, .int .i64 0, .int .i64 0, .int .i64 0, .int .i64 0, .int .i64 0, .string ⟨#[]⟩, .slice none 0 0, .slice none 0 0] 26)
 have TN := hide (fun w => sreadnums30 d 9 h27 (by omega) w)
 rw [numsR_len, hx] at TN
 clear hx h27
 go_enter Tryd.func12, Tryd.ntmps12
 go_wp2_with fail
 refine (unhide T1 _).mono ?_
 rintro e w1 ⟨v1, rfl, ho1, hb1⟩
 obtain ⟨a1, c1, rfl, -⟩ := own_rowV ho1
 have B1 := hide ((unhide B0).trans (hb1.mono (unhide B0).size))
 have Y1 := hide ((unhide Y0).below hb1)
 have hr1 : ¬ ((rr : Int) + 3) < 3 := by omega
 have hr2 : (0 : Int) < (rr : Int) + 3 := by omega
 have hr3 : (2 : Int) < (rr : Int) + 3 := by omega
 obtain ⟨g1, rfl⟩ := own_atN ho1 (by omega)
 have d0 := own_cellN ho1 0 _ rfl
 have hg1 := (World.ownsRow.lt ho1 g1 rfl).2
 have D2 := hide (own_cellN ho1 2 _ rfl)
 have D1 := hide (own_cellN ho1 1 _ rfl)
 clear ho1 hb1 T1 B0 Y0
 go_wp2_with fail
 refine (unhide TN _).mono ?_
 rintro e w3 ⟨v3, rfl, ho3, hb3⟩
 obtain ⟨a3, c3, rfl, -⟩ := own_rowV ho3
 obtain ⟨gn, rfl⟩ := own_atN ho3 (by decide)
 have d2 : w3.cell? ⟨g1, 2, none⟩ = some (.string f) := (hb3.cell (p := ⟨g1, 2, none⟩) hg1).trans (unhide D2)
 have B3 := hide ((unhide B1).trans (hb3.mono (unhide B1).size))
 have Y3 := hide ((unhide Y1).below hb3)
 have k3 : w3.cell? ⟨gn, 0, none⟩ = some (.int .i64 i0) ∧ w3.cell? ⟨gn, 1, none⟩ = some (.int .i64 i1) ∧ w3.cell? ⟨gn, 2, none⟩ = some (.int .i64 i2) ∧ w3.cell? ⟨gn, 3, none⟩ = some (.int .i64 i3) ∧ w3.cell? ⟨gn, 4, none⟩ = some (.int .i64 i4) ∧ w3.cell? ⟨gn, 5, none⟩ = some (.int .i64 i5) ∧ w3.cell? ⟨gn, 6, none⟩ = some (.int .i64 i6) ∧ w3.cell? ⟨gn, 7, none⟩ = some (.int .i64 i7) ∧ w3.cell? ⟨gn, 8, none⟩ = some (.int .i64 i8) := ⟨own_cellN ho3 0 _ rfl, own_cellN ho3 1 _ rfl, own_cellN ho3 2 _ rfl, own_cellN ho3 3 _ rfl, own_cellN ho3 4 _ rfl, own_cellN ho3 5 _ rfl, own_cellN ho3 6 _ rfl, own_cellN ho3 7 _ rfl, own_cellN ho3 8 _ rfl⟩
 have hgn3 := (World.ownsRow.lt ho3 gn rfl).2
 have hg13 : g1 < w3.heap.size := Nat.lt_of_lt_of_le hg1 hb3.size
 have t3 : w3.cell? ⟨g1, 1, none⟩ = some (.string t) := (hb3.cell (p := ⟨g1, 1, none⟩) hg1).trans (unhide D1)
 clear ho3
 clear hb3 B1 Y1 d0 TN
 go_wp2_with fail
 refine (unhide T2 _).mono ?_
 rintro e w4 ⟨v4, rfl, ho4, hb4⟩
 obtain ⟨a4, c4, rfl, -⟩ := own_rowV ho4
 have B4 := hide ((unhide B3).trans (hb4.mono (unhide B3).size))
 have Y4 := hide ((unhide Y3).below hb4)
 have k4 : w4.cell? ⟨gn, 0, none⟩ = some (.int .i64 i0) ∧ w4.cell? ⟨gn, 1, none⟩ = some (.int .i64 i1) ∧ w4.cell? ⟨gn, 2, none⟩ = some (.int .i64 i2) ∧ w4.cell? ⟨gn, 3, none⟩ = some (.int .i64 i3) ∧ w4.cell? ⟨gn, 4, none⟩ = some (.int .i64 i4) ∧ w4.cell? ⟨gn, 5, none⟩ = some (.int .i64 i5) ∧ w4.cell? ⟨gn, 6, none⟩ = some (.int .i64 i6) ∧ w4.cell? ⟨gn, 7, none⟩ = some (.int .i64 i7) ∧ w4.cell? ⟨gn, 8, none⟩ = some (.int .i64 i8) ∧ w4.cell? ⟨g1, 1, none⟩ = some (.string t) := ⟨(hb4.cell (p := ⟨gn, 0, none⟩) hgn3).trans k3.1, (hb4.cell (p := ⟨gn, 1, none⟩) hgn3).trans k3.2.1, (hb4.cell (p := ⟨gn, 2, none⟩) hgn3).trans k3.2.2.1, (hb4.cell (p := ⟨gn, 3, none⟩) hgn3).trans k3.2.2.2.1, (hb4.cell (p := ⟨gn, 4, none⟩) hgn3).trans k3.2.2.2.2.1, (hb4.cell (p := ⟨gn, 5, none⟩) hgn3).trans k3.2.2.2.2.2.1, (hb4.cell (p := ⟨gn, 6, none⟩) hgn3).trans k3.2.2.2.2.2.2.1, (hb4.cell (p := ⟨gn, 7, none⟩) hgn3).trans k3.2.2.2.2.2.2.2.1, (hb4.cell (p := ⟨gn, 8, none⟩) hgn3).trans k3.2.2.2.2.2.2.2.2, (hb4.cell (p := ⟨g1, 1, none⟩) hg13).trans t3⟩
 have hgn4 : gn < w4.heap.size := Nat.lt_of_lt_of_le hgn3 hb4.size
 have hg14 : g1 < w4.heap.size := Nat.lt_of_lt_of_le hg13 hb4.size
 clear k3 t3 hgn3 hg13
 clear ho4 hb4 d2 T2 B3 Y3 D2 D1
 go_wp2_with fail
 refine wp_region_held_drew (S := (fun w' => w'.cell? ⟨gn, 0, none⟩ = some (.int .i64 i0) ∧ w'.cell? ⟨gn, 1, none⟩ = some (.int .i64 i1) ∧ w'.cell? ⟨gn, 2, none⟩ = some (.int .i64 i2) ∧ w'.cell? ⟨gn, 3, none⟩ = some (.int .i64 i3) ∧ w'.cell? ⟨gn, 4, none⟩ = some (.int .i64 i4) ∧ w'.cell? ⟨gn, 5, none⟩ = some (.int .i64 i5) ∧ w'.cell? ⟨gn, 6, none⟩ = some (.int .i64 i6) ∧ w'.cell? ⟨gn, 7, none⟩ = some (.int .i64 i7) ∧ w'.cell? ⟨gn, 8, none⟩ = some (.int .i64 i8) ∧ w'.cell? ⟨g1, 1, none⟩ = some (.string t))) (by kernel_rfl) k4 (fun hHeld => ?_)
 have k5 : w4.drew.cell? ⟨gn, 0, none⟩ = some (.int .i64 i0) ∧ w4.drew.cell? ⟨gn, 1, none⟩ = some (.int .i64 i1) ∧ w4.drew.cell? ⟨gn, 2, none⟩ = some (.int .i64 i2) ∧ w4.drew.cell? ⟨gn, 3, none⟩ = some (.int .i64 i3) ∧ w4.drew.cell? ⟨gn, 4, none⟩ = some (.int .i64 i4) ∧ w4.drew.cell? ⟨gn, 5, none⟩ = some (.int .i64 i5) ∧ w4.drew.cell? ⟨gn, 6, none⟩ = some (.int .i64 i6) ∧ w4.drew.cell? ⟨gn, 7, none⟩ = some (.int .i64 i7) ∧ w4.drew.cell? ⟨gn, 8, none⟩ = some (.int .i64 i8) ∧ w4.drew.cell? ⟨g1, 1, none⟩ = some (.string t) := k4
 have B5 := hide ((unhide B4).drew)
 have Y5 := hide ((unhide Y4).drew)
 clear B4 Y4 k4
 generalize w4.drew = w5 at B5 Y5 k5 hHeld ⊢
 refine wtv 0 (oi := oRcT0) ?_
 refine wtv 1 (oi := oRcT1) ?_
 refine wtv 2 (oi := oRcT2) ?_
 refine wtv 3 (oi := oRcT3) ?_
 refine wtv 4 (oi := oRcT4) ?_
 refine wtv 5 (oi := oRcT5) ?_
 refine wtv 6 (oi := oRcT6) ?_
 refine wtv 7 (oi := oRcT7) ?_
 refine wtv 8 (oi := oRcT8) ?_
 refine wtv 9 (oi := oRcT9) ?_
 refine wtv 10 (oi := oRcT10) ?_
 refine wtv 11 (oi := oRcT11) ?_
 refine wtv 12 (oi := oRcT12) ?_
 refine wtv 13 (oi := oRcT13) ?_
 refine wtv 14 (oi := oRcT14) ?_
 refine wtv 15 (oi := oRcT15) ?_
 refine wtv 16 (oi := oRcT16) ?_
 refine wtv 17 (oi := oRcT17) ?_
 refine wpAnyH_ready (rs := [18]) (by kernel_rfl) (by simp) ?_
 refine AllReadyH.cons (o := oRcT18) rfl (fun K hK => ?_) AllReadyH.nil
 go_simp
 refine (ssize i0 i1 _).mono ?_
 rintro e wq ⟨rfl, hw⟩
 subst wq
 rw [hszb]
 go_wp2_with fail
 refine hK.out _ _ ?_ (fun hHeld18 => ?_)
 ·exact k5
 clear hK K
 try simp only [Act.put, qqA, qqB, qqC]
 refine wtv 19 (oi := oRcT19) ?_
 refine wtv 20 (oi := oRcT20) ?_
 refine wtv 21 (oi := oRcT21) ?_
 refine wtu 22 (oi := oRcT22) ?_
 refine wtu 23 (oi := oRcT23) ?_
 refine wtu 24 (oi := oRcT24) ?_
 refine wtu 25 (oi := oRcT25) ?_
 refine wtu 26 (oi := oRcT26) ?_
 refine wtu 27 (oi := oRcT27) ?_
 refine wtu 28 (oi := oRcT28) ?_
 refine wtv 29 (oi := oRcT29) ?_
 refine wpAnyH_done (by kernel_rfl) ?_ _
 have kz := (unhide Y5).S
 have kf := (unhide Y5).F
 go_wp2_with fail
 refine bodyPost_ret (v := .tuple #[.agg #[.int .i64 0, .int .i64 0, .int .i64 0, .int .i64 0, .int .i64 0, .int .i64 0, .int .i64 0, .int .i64 0, .int .i64 0, .string ⟨#[]⟩, .slice none 0 0, .slice none 0 0], .bool false]) (by simp [results, Tryd.results12, go_sem, kz]) rfl ⟨rfl, ?_⟩
 iterate 12 refine Below.setCell ?_ (by exact Nat.le_refl _) _
 exact unhide B5
set_option maxHeartbeats 8000000 in
set_option maxRecDepth 100000 in
theorem src0_len (s : ByteArray) (d t f : ByteArray) (rs : List ByteArray) (rr : Nat) (hr60 : rr + 3 ≤ 60) (h27 : d.size = 3 * 9) (i0 i1 i2 i3 i4 i5 i6 i7 i8 : Int) (hx : numsR d.data.toList 9 = [i0, i1, i2, i3, i4, i5, i6, i7, i8]) (hszb : sizeB i0 i1 = true) (hi1 : ¬ (rr : Int) = i1) (mh : Nat) (m : List ByteArray) (w : World) (T1 : Hid (∀ w1, Calls Tryd.prog 22 #[.string s] w1 fun e w' => ∃ v', e = .returned (.tuple #[v', .bool true]) ∧ w'.ownsRow w1.heap.size 9 1 v' (rr + 3) (cS (d :: t :: f :: rs)) ∧ Below w1.heap.size w1 w')) (T2 : Hid (∀ w1, Calls Tryd.prog 22 #[.string f] w1 fun e w' => ∃ v', e = .returned (.tuple #[v', .bool true]) ∧ w'.ownsRow w1.heap.size 9 1 v' mh (cS m) ∧ Below w1.heap.size w1 w')) :
  Calls Tryd.prog 12 #[.string s] w fun e w' => e = .returned (.tuple #[.agg #[.int .i64 0, .int .i64 0, .int .i64 0, .int .i64 0, .int .i64 0, .int .i64 0, .int .i64 0, .int .i64 0, .int .i64 0, .string ⟨#[]⟩, .slice none 0 0, .slice none 0 0], .bool false]) ∧ Below w.heap.size w w' := by
 have B0 := hide (Go.Joins.below_alloc1 w (Obj.cells #[.int .i64 0, .int .i64 0, .int .i64 0, .int .i64 0, .int .i64 0, .int .i64 0, .int .i64 0, .int .i64 0, .int .i64 0, .string ⟨#[]⟩, .slice none 0 0, .slice none 0 0] 26))
 have Y0 := hide (BF.new w #[.int .i64 0, .int .i64 0, .int .i64 0, .int .i64 0, .int .i64 0, .int .i64 0, .int .i64 0, .int .i64 0, .int .i64 0, .string ⟨#[]⟩, .slice none 0 0, .slice none 0 0] 26)
 have hi2 : ¬ (rr : Int) + 3 = 3 + i1 := by omega
 have hib : 2 ≤ i1 ∧ i1 ≤ 10 := by have h : 2 ≤ i0 ∧ i0 ≤ 24 ∧ 2 ≤ i1 ∧ i1 ≤ 10 := of_decide_eq_true hszb; omega
 obtain ⟨hib1, hib2⟩ := hib
 have hwr : IntKind.i64.wrap (3 + i1) = 3 + i1 := wrapi _ (by omega) (by omega)
 have hne3 : ((rr : Int) + 3 != 3 + i1) = true := by rw [bne_iff_ne]; exact hi2
 clear hi1 hi2
 have TN := hide (fun w => sreadnums30 d 9 h27 (by omega) w)
 rw [numsR_len, hx] at TN
 clear hx h27
 go_enter Tryd.func12, Tryd.ntmps12
 go_wp2_with fail
 refine (unhide T1 _).mono ?_
 rintro e w1 ⟨v1, rfl, ho1, hb1⟩
 obtain ⟨a1, c1, rfl, -⟩ := own_rowV ho1
 have B1 := hide ((unhide B0).trans (hb1.mono (unhide B0).size))
 have Y1 := hide ((unhide Y0).below hb1)
 have hr1 : ¬ ((rr : Int) + 3) < 3 := by omega
 have hr2 : (0 : Int) < (rr : Int) + 3 := by omega
 have hr3 : (2 : Int) < (rr : Int) + 3 := by omega
 obtain ⟨g1, rfl⟩ := own_atN ho1 (by omega)
 have d0 := own_cellN ho1 0 _ rfl
 have hg1 := (World.ownsRow.lt ho1 g1 rfl).2
 have D2 := hide (own_cellN ho1 2 _ rfl)
 have D1 := hide (own_cellN ho1 1 _ rfl)
 clear ho1 hb1 T1 B0 Y0
 go_wp2_with fail
 refine (unhide TN _).mono ?_
 rintro e w3 ⟨v3, rfl, ho3, hb3⟩
 obtain ⟨a3, c3, rfl, -⟩ := own_rowV ho3
 obtain ⟨gn, rfl⟩ := own_atN ho3 (by decide)
 have d2 : w3.cell? ⟨g1, 2, none⟩ = some (.string f) := (hb3.cell (p := ⟨g1, 2, none⟩) hg1).trans (unhide D2)
 have B3 := hide ((unhide B1).trans (hb3.mono (unhide B1).size))
 have Y3 := hide ((unhide Y1).below hb3)
 have k3 : w3.cell? ⟨gn, 0, none⟩ = some (.int .i64 i0) ∧ w3.cell? ⟨gn, 1, none⟩ = some (.int .i64 i1) ∧ w3.cell? ⟨gn, 2, none⟩ = some (.int .i64 i2) ∧ w3.cell? ⟨gn, 3, none⟩ = some (.int .i64 i3) ∧ w3.cell? ⟨gn, 4, none⟩ = some (.int .i64 i4) ∧ w3.cell? ⟨gn, 5, none⟩ = some (.int .i64 i5) ∧ w3.cell? ⟨gn, 6, none⟩ = some (.int .i64 i6) ∧ w3.cell? ⟨gn, 7, none⟩ = some (.int .i64 i7) ∧ w3.cell? ⟨gn, 8, none⟩ = some (.int .i64 i8) := ⟨own_cellN ho3 0 _ rfl, own_cellN ho3 1 _ rfl, own_cellN ho3 2 _ rfl, own_cellN ho3 3 _ rfl, own_cellN ho3 4 _ rfl, own_cellN ho3 5 _ rfl, own_cellN ho3 6 _ rfl, own_cellN ho3 7 _ rfl, own_cellN ho3 8 _ rfl⟩
 have hgn3 := (World.ownsRow.lt ho3 gn rfl).2
 have hg13 : g1 < w3.heap.size := Nat.lt_of_lt_of_le hg1 hb3.size
 have t3 : w3.cell? ⟨g1, 1, none⟩ = some (.string t) := (hb3.cell (p := ⟨g1, 1, none⟩) hg1).trans (unhide D1)
 clear ho3
 clear hb3 B1 Y1 d0 TN
 go_wp2_with fail
 refine (unhide T2 _).mono ?_
 rintro e w4 ⟨v4, rfl, ho4, hb4⟩
 obtain ⟨a4, c4, rfl, -⟩ := own_rowV ho4
 have B4 := hide ((unhide B3).trans (hb4.mono (unhide B3).size))
 have Y4 := hide ((unhide Y3).below hb4)
 have k4 : w4.cell? ⟨gn, 0, none⟩ = some (.int .i64 i0) ∧ w4.cell? ⟨gn, 1, none⟩ = some (.int .i64 i1) ∧ w4.cell? ⟨gn, 2, none⟩ = some (.int .i64 i2) ∧ w4.cell? ⟨gn, 3, none⟩ = some (.int .i64 i3) ∧ w4.cell? ⟨gn, 4, none⟩ = some (.int .i64 i4) ∧ w4.cell? ⟨gn, 5, none⟩ = some (.int .i64 i5) ∧ w4.cell? ⟨gn, 6, none⟩ = some (.int .i64 i6) ∧ w4.cell? ⟨gn, 7, none⟩ = some (.int .i64 i7) ∧ w4.cell? ⟨gn, 8, none⟩ = some (.int .i64 i8) ∧ w4.cell? ⟨g1, 1, none⟩ = some (.string t) := ⟨(hb4.cell (p := ⟨gn, 0, none⟩) hgn3).trans k3.1, (hb4.cell (p := ⟨gn, 1, none⟩) hgn3).trans k3.2.1, (hb4.cell (p := ⟨gn, 2, none⟩) hgn3).trans k3.2.2.1, (hb4.cell (p := ⟨gn, 3, none⟩) hgn3).trans k3.2.2.2.1, (hb4.cell (p := ⟨gn, 4, none⟩) hgn3).trans k3.2.2.2.2.1, (hb4.cell (p := ⟨gn, 5, none⟩) hgn3).trans k3.2.2.2.2.2.1, (hb4.cell (p := ⟨gn, 6, none⟩) hgn3).trans k3.2.2.2.2.2.2.1, (hb4.cell (p := ⟨gn, 7, none⟩) hgn3).trans k3.2.2.2.2.2.2.2.1, (hb4.cell (p := ⟨gn, 8, none⟩) hgn3).trans k3.2.2.2.2.2.2.2.2, (hb4.cell (p := ⟨g1, 1, none⟩) hg13).trans t3⟩
 have hgn4 : gn < w4.heap.size := Nat.lt_of_lt_of_le hgn3 hb4.size
 have hg14 : g1 < w4.heap.size := Nat.lt_of_lt_of_le hg13 hb4.size
 clear k3 t3 hgn3 hg13
 clear ho4 hb4 d2 T2 B3 Y3 D2 D1
 go_wp2_with fail
 refine wp_region_held_drew (S := (fun w' => w'.cell? ⟨gn, 0, none⟩ = some (.int .i64 i0) ∧ w'.cell? ⟨gn, 1, none⟩ = some (.int .i64 i1) ∧ w'.cell? ⟨gn, 2, none⟩ = some (.int .i64 i2) ∧ w'.cell? ⟨gn, 3, none⟩ = some (.int .i64 i3) ∧ w'.cell? ⟨gn, 4, none⟩ = some (.int .i64 i4) ∧ w'.cell? ⟨gn, 5, none⟩ = some (.int .i64 i5) ∧ w'.cell? ⟨gn, 6, none⟩ = some (.int .i64 i6) ∧ w'.cell? ⟨gn, 7, none⟩ = some (.int .i64 i7) ∧ w'.cell? ⟨gn, 8, none⟩ = some (.int .i64 i8) ∧ w'.cell? ⟨g1, 1, none⟩ = some (.string t))) (by kernel_rfl) k4 (fun hHeld => ?_)
 have k5 : w4.drew.cell? ⟨gn, 0, none⟩ = some (.int .i64 i0) ∧ w4.drew.cell? ⟨gn, 1, none⟩ = some (.int .i64 i1) ∧ w4.drew.cell? ⟨gn, 2, none⟩ = some (.int .i64 i2) ∧ w4.drew.cell? ⟨gn, 3, none⟩ = some (.int .i64 i3) ∧ w4.drew.cell? ⟨gn, 4, none⟩ = some (.int .i64 i4) ∧ w4.drew.cell? ⟨gn, 5, none⟩ = some (.int .i64 i5) ∧ w4.drew.cell? ⟨gn, 6, none⟩ = some (.int .i64 i6) ∧ w4.drew.cell? ⟨gn, 7, none⟩ = some (.int .i64 i7) ∧ w4.drew.cell? ⟨gn, 8, none⟩ = some (.int .i64 i8) ∧ w4.drew.cell? ⟨g1, 1, none⟩ = some (.string t) := k4
 have B5 := hide ((unhide B4).drew)
 have Y5 := hide ((unhide Y4).drew)
 clear B4 Y4 k4
 generalize w4.drew = w5 at B5 Y5 k5 hHeld ⊢
 refine wtv 0 (oi := oRcT0) ?_
 refine wtv 1 (oi := oRcT1) ?_
 refine wtv 2 (oi := oRcT2) ?_
 refine wtv 3 (oi := oRcT3) ?_
 refine wtv 4 (oi := oRcT4) ?_
 refine wtv 5 (oi := oRcT5) ?_
 refine wtv 6 (oi := oRcT6) ?_
 refine wtv 7 (oi := oRcT7) ?_
 refine wtv 8 (oi := oRcT8) ?_
 refine wtv 9 (oi := oRcT9) ?_
 refine wtv 10 (oi := oRcT10) ?_
 refine wtv 11 (oi := oRcT11) ?_
 refine wtv 12 (oi := oRcT12) ?_
 refine wtv 13 (oi := oRcT13) ?_
 refine wtv 14 (oi := oRcT14) ?_
 refine wtv 15 (oi := oRcT15) ?_
 refine wtv 16 (oi := oRcT16) ?_
 refine wtv 17 (oi := oRcT17) ?_
 refine wpAnyH_ready (rs := [18]) (by kernel_rfl) (by simp) ?_
 refine AllReadyH.cons (o := oRcT18) rfl (fun K hK => ?_) AllReadyH.nil
 go_simp
 refine (ssize i0 i1 _).mono ?_
 rintro e wq ⟨rfl, hw⟩
 subst wq
 rw [hszb]
 go_wp2_with fail
 refine hK.out _ _ ?_ (fun hHeld18 => ?_)
 ·exact k5
 clear hK K
 try simp only [Act.put, qqA, qqB, qqC]
 refine wtv 19 (oi := oRcT19) ?_
 refine wtv 20 (oi := oRcT20) ?_
 refine wtv 21 (oi := oRcT21) ?_
 refine wtv 22 (oi := oRcT22) ?_
 refine wtv 23 (oi := oRcT23) ?_
 refine wtv 24 (oi := oRcT24) ?_
 refine wtv 25 (oi := oRcT25) ?_
 refine wtv 26 (oi := oRcT26) ?_
 refine wtv 27 (oi := oRcT27) ?_
 refine wtv 28 (oi := oRcT28) ?_
 refine wtv 29 (oi := oRcT29) ?_
 refine wpAnyH_done (by kernel_rfl) ?_ _
 have kz := (unhide Y5).S
 have kf := (unhide Y5).F
 go_wp2_with fail
 refine bodyPost_ret (v := .tuple #[.agg #[.int .i64 0, .int .i64 0, .int .i64 0, .int .i64 0, .int .i64 0, .int .i64 0, .int .i64 0, .int .i64 0, .int .i64 0, .string ⟨#[]⟩, .slice none 0 0, .slice none 0 0], .bool false]) (by simp [results, Tryd.results12, go_sem, kz]) rfl ⟨rfl, ?_⟩
 iterate 12 refine Below.setCell ?_ (by exact Nat.le_refl _) _
 exact unhide B5
end Go.Proofs.YtpcdjpfffanlbaaDoor
