/- spec.l07Apply of a text that has a letter and numbers: what the specification answers. -/
import Derived.Test.YtamjljhbnhdgdaaDoorZG41
namespace Go.Proofs.YtamjljhbnhdgdaaDoor
open Go.ChangeShapes Go.WideShapes Go.ChangeAt Go.RowKit
set_option linter.unusedVariables false
abbrev oSapT0 : Oper := { dst := some 68, op := .move (.tmp 6), type := 27, pos := "l07_store.go:74", after := #[], guard := none }
abbrev oSapT1 : Oper := { dst := some 69, op := .indexAddr 27 (.tmp 68) (.const (.int .i64 0)), type := 0, pos := "l07_store.go:74", after := #[{ on := 0, ground := .data }], guard := none }
abbrev oSapT2 : Oper := { dst := some 70, op := .load 9 (.tmp 69), type := 9, pos := "l07_store.go:74", after := #[{ on := 1, ground := .data }], guard := none }
abbrev oSapT3 : Oper := { dst := some 71, op := .binOp .eql 9 (.tmp 70) (.const (.string { data := #[99] })) 9, type := 4, pos := "l07_store.go:74", after := #[{ on := 2, ground := .data }], guard := none }
abbrev oSapT4 : Oper := { dst := some 72, op := .move (.tmp 71), type := 4, pos := "l07_store.go:74", after := #[{ on := 3, ground := .data }], guard := none }
abbrev oSapT5 : Oper := { dst := some 73, op := .move (.tmp 6), type := 27, pos := "l07_store.go:74", after := #[{ on := 4, ground := .guard }], guard := some (4, true) }
abbrev oSapT6 : Oper := { dst := some 74, op := .call { callee := .builtin Go.Builtin.len, args := #[.tmp 73], argTypes := #[27] }, type := 3, pos := "l07_store.go:74", after := #[{ on := 5, ground := .data }, { on := 4, ground := .guard }], guard := some (4, true) }
abbrev oSapT7 : Oper := { dst := some 75, op := .binOp .eql 3 (.tmp 74) (.const (.int .i64 2)) 3, type := 4, pos := "l07_store.go:74", after := #[{ on := 6, ground := .data }, { on := 4, ground := .guard }], guard := some (4, true) }
abbrev oSapT8 : Oper := { dst := some 76, op := .pick (.tmp 72) (.tmp 75) (.const (.bool false)), type := 4, pos := "l07_store.go:74", after := #[{ on := 4, ground := .data }, { on := 7, ground := .data }], guard := none }
abbrev oSapT9 : Oper := { dst := some 77, op := .move (.tmp 76), type := 4, pos := "l07_store.go:74", after := #[{ on := 8, ground := .data }, { on := 4, ground := .chain }], guard := none }
abbrev oSapT10 : Oper := { dst := some 78, op := .move (.tmp 8), type := 72, pos := "l07_store.go:74", after := #[{ on := 9, ground := .guard }], guard := some (9, true) }
abbrev oSapT11 : Oper := { dst := some 79, op := .call { callee := .builtin Go.Builtin.len, args := #[.tmp 78], argTypes := #[72] }, type := 3, pos := "l07_store.go:74", after := #[{ on := 10, ground := .data }, { on := 9, ground := .guard }], guard := some (9, true) }
abbrev oSapT12 : Oper := { dst := some 80, op := .binOp .eql 3 (.tmp 79) (.const (.int .i64 1)) 3, type := 4, pos := "l07_store.go:74", after := #[{ on := 11, ground := .data }, { on := 9, ground := .guard }], guard := some (9, true) }
abbrev oSapT13 : Oper := { dst := some 81, op := .pick (.tmp 77) (.tmp 80) (.const (.bool false)), type := 4, pos := "l07_store.go:74", after := #[{ on := 9, ground := .data }, { on := 12, ground := .data }], guard := none }
abbrev oSapT14 : Oper := { dst := some 82, op := .move (.tmp 81), type := 4, pos := "l07_store.go:74", after := #[{ on := 13, ground := .data }, { on := 9, ground := .chain }], guard := none }
abbrev oSapT15 : Oper := { dst := some 83, op := .move (.tmp 8), type := 72, pos := "l07_store.go:74", after := #[{ on := 14, ground := .guard }], guard := some (14, true) }
abbrev oSapT16 : Oper := { dst := some 84, op := .indexAddr 72 (.tmp 83) (.const (.int .i64 0)), type := 0, pos := "l07_store.go:74", after := #[{ on := 15, ground := .data }, { on := 14, ground := .guard }], guard := some (14, true) }
abbrev oSapT17 : Oper := { dst := some 85, op := .load 3 (.tmp 84), type := 3, pos := "l07_store.go:74", after := #[{ on := 16, ground := .data }, { on := 14, ground := .guard }], guard := some (14, true) }
abbrev oSapT18 : Oper := { dst := some 86, op := .fieldAddr 25 (.tmp 10) 2, type := 0, pos := "l07_store.go:74", after := #[{ on := 14, ground := .guard }], guard := some (14, true) }
abbrev oSapT19 : Oper := { dst := some 87, op := .load 23 (.tmp 86), type := 23, pos := "l07_store.go:74", after := #[{ on := 18, ground := .data }, { on := 14, ground := .guard }], guard := some (14, true) }
abbrev oSapT20 : Oper := { dst := some 88, op := .call { callee := .builtin Go.Builtin.len, args := #[.tmp 87], argTypes := #[23] }, type := 3, pos := "l07_store.go:74", after := #[{ on := 19, ground := .data }, { on := 14, ground := .guard }], guard := some (14, true) }
abbrev oSapT21 : Oper := { dst := some 89, op := .binOp .sub 3 (.tmp 88) (.const (.int .i64 1)) 3, type := 3, pos := "l07_store.go:74", after := #[{ on := 20, ground := .data }, { on := 14, ground := .guard }], guard := some (14, true) }
abbrev oSapT22 : Oper := { dst := some 90, op := .call { callee := .value (.func 31), args := #[.tmp 85, .const (.int .i64 0), .tmp 89], argTypes := #[3, 3, 3] }, type := 4, pos := "l07_store.go:74", after := #[{ on := 17, ground := .data }, { on := 21, ground := .data }, { on := 14, ground := .chain }, { on := 14, ground := .guard }], guard := some (14, true) }
abbrev oSapT23 : Oper := { dst := some 91, op := .pick (.tmp 82) (.tmp 90) (.const (.bool false)), type := 4, pos := "l07_store.go:74", after := #[{ on := 14, ground := .data }, { on := 22, ground := .data }], guard := none }
abbrev oSapT24 : Oper := { dst := some 67, op := .assign (.tmp 91), type := 4, pos := "l07_store.go:74", after := #[{ on := 23, ground := .data }, { on := 22, ground := .chain }], guard := none }
theorem txt_ne {f g : ByteArray} (h : f ≠ g) : (f.toList == g.toList) = false := by
 rw [beq_eq_false_iff_ne]; intro h1
 apply h
 rw [ByteArray.toList_eq, ByteArray.toList_eq] at h1
 obtain ⟨⟨x⟩⟩ := f
 obtain ⟨⟨y⟩⟩ := g
 simp at h1; rw [h1]
set_option maxHeartbeats 4000000 in
set_option maxRecDepth 100000 in
theorem sap_other (tm vt : Int) (a : Option Addr) (cap n : Nat) (l : List (Int × ByteArray)) (HN : Hid (l.length = n)) (hn : n ≤ 1048576) (t f0 f1 : ByteArray) (r : List ByteArray) (ht : t.size ≤ 65536) (H : Hid (rfOf t.data.toList = some (f0 :: f1 :: r))) (q : Nat) (hq : f1.size = 3 * q) (hq2 : q ≤ 21845) (L : List Int) (HL : Hid (numsR f1.data.toList q = L)) (kn : Nat) (HKN : Hid (L.length = kn)) (hkn : kn ≤ 65536) (h_t : f0 ≠ ⟨#[116]⟩) (h_c : f0 ≠ ⟨#[99]⟩) (h_e : f0 ≠ ⟨#[101]⟩) (w : World) (hr : RowV w a (cE l)) :
  Calls Tryd.prog 27 #[.agg #[.int .i64 tm, .int .i64 vt, .slice a n cap], .string t] w fun e w' => e = .returned (.tuple #[.agg #[.int .i64 tm, .int .i64 vt, .slice a n cap], .bool false]) ∧ Below w.heap.size w w' := by
 have B0 := hide (Go.Joins.below_alloc2 w (.cells #[.int .i64 tm, .int .i64 vt, .slice a n cap] 25) (.cells #[.int .i64 0, .int .i64 0, .slice none 0 0] 25))
 have A0 := hide ((BF.new w #[.int .i64 tm, .int .i64 vt, .slice a n cap] 25).alloc (.cells #[.int .i64 0, .int .i64 0, .slice none 0 0] 25))
 have Z0 := hide (BF.new (w.alloc (.cells #[.int .i64 tm, .int .i64 vt, .slice a n cap] 25)) #[.int .i64 0, .int .i64 0, .slice none 0 0] 25)
 simp only [World.size_alloc] at Z0
 have T := sreadnums30 f1 q hq hq2
 rw [unhide HL, unhide HKN] at T
 have HT := hide T
 have HRW := hide hr
 clear T hr
 go_enter Tryd.func27, Tryd.ntmps27
 go_wp2_with fail
 refine (sread t ht _).mono ?_
 rintro e w1 ⟨⟨m, v, c, rfl, ho, hm⟩, hb1⟩
 obtain ⟨rfl, rfl⟩ : c = true ∧ m = f0 :: f1 :: r := by
  rcases hm with ⟨h1, h2⟩ | ⟨_, _, h2⟩
  ·rw [unhide H] at h2; injection h2 with h2; exact ⟨h1, h2.symm⟩
  ·rw [unhide H] at h2; cases h2
 have B1 := hide ((unhide B0).trans (hb1.mono (unhide B0).size))
 have A1 := hide ((unhide A0).below hb1)
 have Z1 := hide ((unhide Z0).below hb1)
 obtain ⟨am, cm, rfl, hrm⟩ := own_rowV ho
 obtain ⟨k, hk⟩ : ∃ k, k = (f0 :: f1 :: r).length := ⟨_, rfl⟩
 have hk2 : 2 ≤ k := by rw [hk]; simp
 have hk6 : k ≤ 60 := by rw [hk]; exact rf_lenA (unhide H)
 have HKR : Hid (k = r.length + 2) := by show _ = _; rw [hk]; simp
 rw [← hk]
 have FM1 := hide hrm
 obtain ⟨b, off, rfl, hblt, hcel⟩ := hrm.at (by simp [cS])
 have k1 : w1.cell? ⟨b, off + 1, none⟩ = some (.string f1) := hcel 1 _ (by simp [cS])
 have dl : ¬ (k : Int) < 2 := by omega
 have i1 : (1 : Int) < (k : Int) := by omega
 have i1n : 1 < k := by omega
 have i0n : 0 < k := by omega
 have ka := (unhide A1).S
 clear hb1 B0 A0 Z0 ho hm hrm hcel hk
 go_wp2_with fail
 refine (unhide HT _).mono ?_
 rintro e w2 ⟨v2, rfl, ho2, hb2⟩
 obtain ⟨an, cn, rfl, hrn⟩ := own_rowV ho2
 have B2 := hide ((unhide B1).trans (hb2.mono (unhide B1).size))
 have A2 := hide ((unhide A1).below hb2)
 have Z2 := hide ((unhide Z1).below hb2)
 have FM2 := hide ((unhide FM1).below hb2)
 have NM2 := hide hrn
 clear hb2 B1 A1 Z1 k1 ka FM1 ho2 hrn HT
 have ka := (unhide A2).S
 go_wp2_with fail
 refine (sown tm vt a cap n l HN hn _ ((unhide HRW).below (unhide B2))).mono ?_
 rintro e w3 ⟨v3, rfl, ho3, hb3⟩
 obtain ⟨a3, c3, rfl, -⟩ := ownZ_rowV ho3
 obtain ⟨p, hp⟩ : ∃ p, p = w3.heap.size := ⟨_, rfl⟩
 have hbw : Below w3.heap.size w3 (w3.alloc (.cells #[.int .i64 tm, .int .i64 vt, .slice a3 n c3] 25)) := Go.Joins.below_alloc1 _ _
 have B3 := hide ((unhide B2).trans (hb3.mono (unhide B2).size))
 have A3 := hide ((unhide A2).below hb3)
 have Z3 := hide ((unhide Z2).below hb3)
 have FM3 := hide ((unhide FM2).below hb3)
 have NM3 := hide ((unhide NM2).below hb3)
 have BW := hide ((unhide B3).trans (hbw.mono (unhide B3).size))
 have AW := hide ((unhide A3).below hbw)
 have ZW := hide ((unhide Z3).below hbw)
 have PW := hide (BF.new w3 #[.int .i64 tm, .int .i64 vt, .slice a3 n c3] 25)
 have FW := hide ((unhide FM3).below hbw)
 have NW := hide ((unhide NM3).below hbw)
 have OW := hide (own_low (ho3.alloc (.cells #[.int .i64 tm, .int .i64 vt, .slice a3 n c3] 25)) (unhide B2).size)
 have zlt : Hid (w.heap.size + 1 < w2.heap.size) := (unhide Z2).lt
 have ON : Hid (∀ j, (Value.slice a3 n c3).ownBlock = some j → w2.heap.size ≤ j ∧ j < w3.heap.size) := fun j hj => ho3.lt j hj
 have hb3s := hb3.size
 obtain ⟨b', off', hbo, hblt', hcel'⟩ := (unhide FW).at (by simp [cS])
 obtain ⟨rfl, rfl⟩ : b' = b ∧ off' = off := by injection hbo with h; injection h with h1 h2; exact ⟨h1.symm, h2.symm⟩
 have k0 : (w3.alloc (.cells #[.int .i64 tm, .int .i64 vt, .slice a3 n c3] 25)).cell? ⟨b', off', none⟩ = some (.string f0) := hcel' 0 _ (by simp [cS])
 clear hb3 hbw B2 A2 Z2 FM2 NM2 B3 A3 Z3 FM3 ho3 ka hcel' hblt hblt'
 have nt : (f0.toList == (⟨#[116]⟩ : ByteArray).toList) = false := txt_ne h_t
 have mt : (f0.toList == [116]) = false := by have := nt; simp only [ByteArray.toList_eq] at this ⊢; exact this
 have nc : (f0.toList == (⟨#[99]⟩ : ByteArray).toList) = false := txt_ne h_c
 have mc : (f0.toList == [99]) = false := by have := nc; simp only [ByteArray.toList_eq] at this ⊢; exact this
 have ne : (f0.toList == (⟨#[101]⟩ : ByteArray).toList) = false := txt_ne h_e
 have me : (f0.toList == [101]) = false := by have := ne; simp only [ByteArray.toList_eq] at this ⊢; exact this
 have ka := (unhide AW).S
 have kz := (unhide ZW).S
 have kzf := (unhide ZW).F
 go_wp2_with fail
 refine wp_region_held_drew (S := fun w' => w'.cell? ⟨b', off', none⟩ = some (.string f0)) (by kernel_rfl) k0 (fun hHeld => ?_)
 refine wtv 0 (oi := oSapT0) ?_
 refine wtv 1 (oi := oSapT1) ?_
 refine wtv 2 (oi := oSapT2) ?_
 refine wtv 3 (oi := oSapT3) ?_
 refine wtv 4 (oi := oSapT4) ?_
 refine wtu 5 (oi := oSapT5) ?_
 refine wtu 6 (oi := oSapT6) ?_
 refine wtu 7 (oi := oSapT7) ?_
 refine wtv 8 (oi := oSapT8) ?_
 refine wtv 9 (oi := oSapT9) ?_
 refine wtu 10 (oi := oSapT10) ?_
 refine wtu 11 (oi := oSapT11) ?_
 refine wtu 12 (oi := oSapT12) ?_
 refine wtv 13 (oi := oSapT13) ?_
 refine wtv 14 (oi := oSapT14) ?_
 refine wtu 15 (oi := oSapT15) ?_
 refine wtu 16 (oi := oSapT16) ?_
 refine wtu 17 (oi := oSapT17) ?_
 refine wtu 18 (oi := oSapT18) ?_
 refine wtu 19 (oi := oSapT19) ?_
 refine wtu 20 (oi := oSapT20) ?_
 refine wtu 21 (oi := oSapT21) ?_
 refine wtu 22 (oi := oSapT22) ?_
 refine wtv 23 (oi := oSapT23) ?_
 refine wtv 24 (oi := oSapT24) ?_
 refine wpAnyH_done (by kernel_rfl) ?_ _
 go_wp2_with fail
 refine bodyPost_ret (v := .tuple #[.agg #[.int .i64 tm, .int .i64 vt, .slice a n cap], .bool false]) (by simp [results, Tryd.results27, go_sem, kz]) rfl ⟨rfl, ?_⟩
 refine Below.drew ?_
 iterate 3 refine Below.setCell ?_ (by exact Nat.le_succ _) _
 exact unhide BW
set_option maxHeartbeats 4000000 in
set_option maxRecDepth 100000 in
theorem sap_t1 (tm vt : Int) (a : Option Addr) (cap n : Nat) (l : List (Int × ByteArray)) (HN : Hid (l.length = n)) (hn : n ≤ 1048576) (t f0 f1 : ByteArray) (r : List ByteArray) (ht : t.size ≤ 65536) (H : Hid (rfOf t.data.toList = some (f0 :: f1 :: r))) (q : Nat) (hq : f1.size = 3 * q) (hq2 : q ≤ 21845) (L : List Int) (HL : Hid (numsR f1.data.toList q = L)) (kn : Nat) (HKN : Hid (L.length = kn)) (hkn : kn ≤ 65536) (h_t : f0 = ⟨#[116]⟩) (hz : r.length ≠ 0) (w : World) (hr : RowV w a (cE l)) :
  Calls Tryd.prog 27 #[.agg #[.int .i64 tm, .int .i64 vt, .slice a n cap], .string t] w fun e w' => e = .returned (.tuple #[.agg #[.int .i64 tm, .int .i64 vt, .slice a n cap], .bool false]) ∧ Below w.heap.size w w' := by
 have B0 := hide (Go.Joins.below_alloc2 w (.cells #[.int .i64 tm, .int .i64 vt, .slice a n cap] 25) (.cells #[.int .i64 0, .int .i64 0, .slice none 0 0] 25))
 have A0 := hide ((BF.new w #[.int .i64 tm, .int .i64 vt, .slice a n cap] 25).alloc (.cells #[.int .i64 0, .int .i64 0, .slice none 0 0] 25))
 have Z0 := hide (BF.new (w.alloc (.cells #[.int .i64 tm, .int .i64 vt, .slice a n cap] 25)) #[.int .i64 0, .int .i64 0, .slice none 0 0] 25)
 simp only [World.size_alloc] at Z0
 have T := sreadnums30 f1 q hq hq2
 rw [unhide HL, unhide HKN] at T
 have HT := hide T
 have HRW := hide hr
 clear T hr
 go_enter Tryd.func27, Tryd.ntmps27
 go_wp2_with fail
 refine (sread t ht _).mono ?_
 rintro e w1 ⟨⟨m, v, c, rfl, ho, hm⟩, hb1⟩
 obtain ⟨rfl, rfl⟩ : c = true ∧ m = f0 :: f1 :: r := by
  rcases hm with ⟨h1, h2⟩ | ⟨_, _, h2⟩
  ·rw [unhide H] at h2; injection h2 with h2; exact ⟨h1, h2.symm⟩
  ·rw [unhide H] at h2; cases h2
 have B1 := hide ((unhide B0).trans (hb1.mono (unhide B0).size))
 have A1 := hide ((unhide A0).below hb1)
 have Z1 := hide ((unhide Z0).below hb1)
 obtain ⟨am, cm, rfl, hrm⟩ := own_rowV ho
 obtain ⟨k, hk⟩ : ∃ k, k = (f0 :: f1 :: r).length := ⟨_, rfl⟩
 have hk2 : 2 ≤ k := by rw [hk]; simp
 have hk6 : k ≤ 60 := by rw [hk]; exact rf_lenA (unhide H)
 have HKR : Hid (k = r.length + 2) := by show _ = _; rw [hk]; simp
 rw [← hk]
 have FM1 := hide hrm
 obtain ⟨b, off, rfl, hblt, hcel⟩ := hrm.at (by simp [cS])
 have k1 : w1.cell? ⟨b, off + 1, none⟩ = some (.string f1) := hcel 1 _ (by simp [cS])
 have dl : ¬ (k : Int) < 2 := by omega
 have i1 : (1 : Int) < (k : Int) := by omega
 have i1n : 1 < k := by omega
 have i0n : 0 < k := by omega
 have ka := (unhide A1).S
 clear hb1 B0 A0 Z0 ho hm hrm hcel hk
 go_wp2_with fail
 refine (unhide HT _).mono ?_
 rintro e w2 ⟨v2, rfl, ho2, hb2⟩
 obtain ⟨an, cn, rfl, hrn⟩ := own_rowV ho2
 have B2 := hide ((unhide B1).trans (hb2.mono (unhide B1).size))
 have A2 := hide ((unhide A1).below hb2)
 have Z2 := hide ((unhide Z1).below hb2)
 have FM2 := hide ((unhide FM1).below hb2)
 have NM2 := hide hrn
 clear hb2 B1 A1 Z1 k1 ka FM1 ho2 hrn HT
 have ka := (unhide A2).S
 go_wp2_with fail
 refine (sown tm vt a cap n l HN hn _ ((unhide HRW).below (unhide B2))).mono ?_
 rintro e w3 ⟨v3, rfl, ho3, hb3⟩
 obtain ⟨a3, c3, rfl, -⟩ := ownZ_rowV ho3
 obtain ⟨p, hp⟩ : ∃ p, p = w3.heap.size := ⟨_, rfl⟩
 have hbw : Below w3.heap.size w3 (w3.alloc (.cells #[.int .i64 tm, .int .i64 vt, .slice a3 n c3] 25)) := Go.Joins.below_alloc1 _ _
 have B3 := hide ((unhide B2).trans (hb3.mono (unhide B2).size))
 have A3 := hide ((unhide A2).below hb3)
 have Z3 := hide ((unhide Z2).below hb3)
 have FM3 := hide ((unhide FM2).below hb3)
 have NM3 := hide ((unhide NM2).below hb3)
 have BW := hide ((unhide B3).trans (hbw.mono (unhide B3).size))
 have AW := hide ((unhide A3).below hbw)
 have ZW := hide ((unhide Z3).below hbw)
 have PW := hide (BF.new w3 #[.int .i64 tm, .int .i64 vt, .slice a3 n c3] 25)
 have FW := hide ((unhide FM3).below hbw)
 have NW := hide ((unhide NM3).below hbw)
 have OW := hide (own_low (ho3.alloc (.cells #[.int .i64 tm, .int .i64 vt, .slice a3 n c3] 25)) (unhide B2).size)
 have zlt : Hid (w.heap.size + 1 < w2.heap.size) := (unhide Z2).lt
 have ON : Hid (∀ j, (Value.slice a3 n c3).ownBlock = some j → w2.heap.size ≤ j ∧ j < w3.heap.size) := fun j hj => ho3.lt j hj
 have hb3s := hb3.size
 obtain ⟨b', off', hbo, hblt', hcel'⟩ := (unhide FW).at (by simp [cS])
 obtain ⟨rfl, rfl⟩ : b' = b ∧ off' = off := by injection hbo with h; injection h with h1 h2; exact ⟨h1.symm, h2.symm⟩
 have k0 : (w3.alloc (.cells #[.int .i64 tm, .int .i64 vt, .slice a3 n c3] 25)).cell? ⟨b', off', none⟩ = some (.string f0) := hcel' 0 _ (by simp [cS])
 clear hb3 hbw B2 A2 Z2 FM2 NM2 B3 A3 Z3 FM3 ho3 ka hcel' hblt hblt'
 have qt : (f0.toList == (⟨#[116]⟩ : ByteArray).toList) = true := by rw [h_t]; simp
 have rt : (f0.toList == [116]) = true := by have := qt; simp only [ByteArray.toList_eq] at this ⊢; exact this
 have h_c : f0 ≠ ⟨#[99]⟩ := by rw [h_t]; decide
 have h_e : f0 ≠ ⟨#[101]⟩ := by rw [h_t]; decide
 have nc : (f0.toList == (⟨#[99]⟩ : ByteArray).toList) = false := txt_ne h_c
 have mc : (f0.toList == [99]) = false := by have := nc; simp only [ByteArray.toList_eq] at this ⊢; exact this
 have ne : (f0.toList == (⟨#[101]⟩ : ByteArray).toList) = false := txt_ne h_e
 have me : (f0.toList == [101]) = false := by have := ne; simp only [ByteArray.toList_eq] at this ⊢; exact this
 clear h_t h_c h_e
 have kk2 : ((k : Int) == 2) = false := by have := unhide HKR; rw [beq_eq_false_iff_ne]; omega
 have ka := (unhide AW).S
 have kz := (unhide ZW).S
 have kzf := (unhide ZW).F
 go_wp2_with fail
 refine wp_region_held_drew (S := fun w' => w'.cell? ⟨b', off', none⟩ = some (.string f0)) (by kernel_rfl) k0 (fun hHeld => ?_)
 refine wtv 0 (oi := oSapT0) ?_
 refine wtv 1 (oi := oSapT1) ?_
 refine wtv 2 (oi := oSapT2) ?_
 refine wtv 3 (oi := oSapT3) ?_
 refine wtv 4 (oi := oSapT4) ?_
 refine wtu 5 (oi := oSapT5) ?_
 refine wtu 6 (oi := oSapT6) ?_
 refine wtu 7 (oi := oSapT7) ?_
 refine wtv 8 (oi := oSapT8) ?_
 refine wtv 9 (oi := oSapT9) ?_
 refine wtu 10 (oi := oSapT10) ?_
 refine wtu 11 (oi := oSapT11) ?_
 refine wtu 12 (oi := oSapT12) ?_
 refine wtv 13 (oi := oSapT13) ?_
 refine wtv 14 (oi := oSapT14) ?_
 refine wtu 15 (oi := oSapT15) ?_
 refine wtu 16 (oi := oSapT16) ?_
 refine wtu 17 (oi := oSapT17) ?_
 refine wtu 18 (oi := oSapT18) ?_
 refine wtu 19 (oi := oSapT19) ?_
 refine wtu 20 (oi := oSapT20) ?_
 refine wtu 21 (oi := oSapT21) ?_
 refine wtu 22 (oi := oSapT22) ?_
 refine wtv 23 (oi := oSapT23) ?_
 refine wtv 24 (oi := oSapT24) ?_
 refine wpAnyH_done (by kernel_rfl) ?_ _
 go_wp2_with fail
 refine bodyPost_ret (v := .tuple #[.agg #[.int .i64 tm, .int .i64 vt, .slice a n cap], .bool false]) (by simp [results, Tryd.results27, go_sem, kz]) rfl ⟨rfl, ?_⟩
 refine Below.drew ?_
 iterate 3 refine Below.setCell ?_ (by exact Nat.le_succ _) _
 exact unhide BW
set_option maxHeartbeats 4000000 in
set_option maxRecDepth 100000 in
theorem sap_t2 (tm vt : Int) (a : Option Addr) (cap n : Nat) (l : List (Int × ByteArray)) (HN : Hid (l.length = n)) (hn : n ≤ 1048576) (t f0 f1 : ByteArray) (r : List ByteArray) (ht : t.size ≤ 65536) (H : Hid (rfOf t.data.toList = some (f0 :: f1 :: r))) (q : Nat) (hq : f1.size = 3 * q) (hq2 : q ≤ 21845) (L : List Int) (HL : Hid (numsR f1.data.toList q = L)) (kn : Nat) (HKN : Hid (L.length = kn)) (hkn : kn ≤ 65536) (h_t : f0 = ⟨#[116]⟩) (hz : r.length = 0) (hz2 : kn ≠ 2) (w : World) (hr : RowV w a (cE l)) :
  Calls Tryd.prog 27 #[.agg #[.int .i64 tm, .int .i64 vt, .slice a n cap], .string t] w fun e w' => e = .returned (.tuple #[.agg #[.int .i64 tm, .int .i64 vt, .slice a n cap], .bool false]) ∧ Below w.heap.size w w' := by
 have B0 := hide (Go.Joins.below_alloc2 w (.cells #[.int .i64 tm, .int .i64 vt, .slice a n cap] 25) (.cells #[.int .i64 0, .int .i64 0, .slice none 0 0] 25))
 have A0 := hide ((BF.new w #[.int .i64 tm, .int .i64 vt, .slice a n cap] 25).alloc (.cells #[.int .i64 0, .int .i64 0, .slice none 0 0] 25))
 have Z0 := hide (BF.new (w.alloc (.cells #[.int .i64 tm, .int .i64 vt, .slice a n cap] 25)) #[.int .i64 0, .int .i64 0, .slice none 0 0] 25)
 simp only [World.size_alloc] at Z0
 have T := sreadnums30 f1 q hq hq2
 rw [unhide HL, unhide HKN] at T
 have HT := hide T
 have HRW := hide hr
 clear T hr
 go_enter Tryd.func27, Tryd.ntmps27
 go_wp2_with fail
 refine (sread t ht _).mono ?_
 rintro e w1 ⟨⟨m, v, c, rfl, ho, hm⟩, hb1⟩
 obtain ⟨rfl, rfl⟩ : c = true ∧ m = f0 :: f1 :: r := by
  rcases hm with ⟨h1, h2⟩ | ⟨_, _, h2⟩
  ·rw [unhide H] at h2; injection h2 with h2; exact ⟨h1, h2.symm⟩
  ·rw [unhide H] at h2; cases h2
 have B1 := hide ((unhide B0).trans (hb1.mono (unhide B0).size))
 have A1 := hide ((unhide A0).below hb1)
 have Z1 := hide ((unhide Z0).below hb1)
 obtain ⟨am, cm, rfl, hrm⟩ := own_rowV ho
 obtain ⟨k, hk⟩ : ∃ k, k = (f0 :: f1 :: r).length := ⟨_, rfl⟩
 have hk2 : 2 ≤ k := by rw [hk]; simp
 have hk6 : k ≤ 60 := by rw [hk]; exact rf_lenA (unhide H)
 have HKR : Hid (k = r.length + 2) := by show _ = _; rw [hk]; simp
 rw [← hk]
 have FM1 := hide hrm
 obtain ⟨b, off, rfl, hblt, hcel⟩ := hrm.at (by simp [cS])
 have k1 : w1.cell? ⟨b, off + 1, none⟩ = some (.string f1) := hcel 1 _ (by simp [cS])
 have dl : ¬ (k : Int) < 2 := by omega
 have i1 : (1 : Int) < (k : Int) := by omega
 have i1n : 1 < k := by omega
 have i0n : 0 < k := by omega
 have ka := (unhide A1).S
 clear hb1 B0 A0 Z0 ho hm hrm hcel hk
 go_wp2_with fail
 refine (unhide HT _).mono ?_
 rintro e w2 ⟨v2, rfl, ho2, hb2⟩
 obtain ⟨an, cn, rfl, hrn⟩ := own_rowV ho2
 have B2 := hide ((unhide B1).trans (hb2.mono (unhide B1).size))
 have A2 := hide ((unhide A1).below hb2)
 have Z2 := hide ((unhide Z1).below hb2)
 have FM2 := hide ((unhide FM1).below hb2)
 have NM2 := hide hrn
 clear hb2 B1 A1 Z1 k1 ka FM1 ho2 hrn HT
 have ka := (unhide A2).S
 go_wp2_with fail
 refine (sown tm vt a cap n l HN hn _ ((unhide HRW).below (unhide B2))).mono ?_
 rintro e w3 ⟨v3, rfl, ho3, hb3⟩
 obtain ⟨a3, c3, rfl, -⟩ := ownZ_rowV ho3
 obtain ⟨p, hp⟩ : ∃ p, p = w3.heap.size := ⟨_, rfl⟩
 have hbw : Below w3.heap.size w3 (w3.alloc (.cells #[.int .i64 tm, .int .i64 vt, .slice a3 n c3] 25)) := Go.Joins.below_alloc1 _ _
 have B3 := hide ((unhide B2).trans (hb3.mono (unhide B2).size))
 have A3 := hide ((unhide A2).below hb3)
 have Z3 := hide ((unhide Z2).below hb3)
 have FM3 := hide ((unhide FM2).below hb3)
 have NM3 := hide ((unhide NM2).below hb3)
 have BW := hide ((unhide B3).trans (hbw.mono (unhide B3).size))
 have AW := hide ((unhide A3).below hbw)
 have ZW := hide ((unhide Z3).below hbw)
 have PW := hide (BF.new w3 #[.int .i64 tm, .int .i64 vt, .slice a3 n c3] 25)
 have FW := hide ((unhide FM3).below hbw)
 have NW := hide ((unhide NM3).below hbw)
 have OW := hide (own_low (ho3.alloc (.cells #[.int .i64 tm, .int .i64 vt, .slice a3 n c3] 25)) (unhide B2).size)
 have zlt : Hid (w.heap.size + 1 < w2.heap.size) := (unhide Z2).lt
 have ON : Hid (∀ j, (Value.slice a3 n c3).ownBlock = some j → w2.heap.size ≤ j ∧ j < w3.heap.size) := fun j hj => ho3.lt j hj
 have hb3s := hb3.size
 obtain ⟨b', off', hbo, hblt', hcel'⟩ := (unhide FW).at (by simp [cS])
 obtain ⟨rfl, rfl⟩ : b' = b ∧ off' = off := by injection hbo with h; injection h with h1 h2; exact ⟨h1.symm, h2.symm⟩
 have k0 : (w3.alloc (.cells #[.int .i64 tm, .int .i64 vt, .slice a3 n c3] 25)).cell? ⟨b', off', none⟩ = some (.string f0) := hcel' 0 _ (by simp [cS])
 clear hb3 hbw B2 A2 Z2 FM2 NM2 B3 A3 Z3 FM3 ho3 ka hcel' hblt hblt'
 have qt : (f0.toList == (⟨#[116]⟩ : ByteArray).toList) = true := by rw [h_t]; simp
 have rt : (f0.toList == [116]) = true := by have := qt; simp only [ByteArray.toList_eq] at this ⊢; exact this
 have h_c : f0 ≠ ⟨#[99]⟩ := by rw [h_t]; decide
 have h_e : f0 ≠ ⟨#[101]⟩ := by rw [h_t]; decide
 have nc : (f0.toList == (⟨#[99]⟩ : ByteArray).toList) = false := txt_ne h_c
 have mc : (f0.toList == [99]) = false := by have := nc; simp only [ByteArray.toList_eq] at this ⊢; exact this
 have ne : (f0.toList == (⟨#[101]⟩ : ByteArray).toList) = false := txt_ne h_e
 have me : (f0.toList == [101]) = false := by have := ne; simp only [ByteArray.toList_eq] at this ⊢; exact this
 clear h_t h_c h_e
 have kk2 : ((k : Int) == 2) = true := by have := unhide HKR; simp; omega
 have nn2 : ((kn : Int) == 2) = false := by rw [beq_eq_false_iff_ne]; omega
 have ka := (unhide AW).S
 have kz := (unhide ZW).S
 have kzf := (unhide ZW).F
 go_wp2_with fail
 refine wp_region_held_drew (S := fun w' => w'.cell? ⟨b', off', none⟩ = some (.string f0)) (by kernel_rfl) k0 (fun hHeld => ?_)
 refine wtv 0 (oi := oSapT0) ?_
 refine wtv 1 (oi := oSapT1) ?_
 refine wtv 2 (oi := oSapT2) ?_
 refine wtv 3 (oi := oSapT3) ?_
 refine wtv 4 (oi := oSapT4) ?_
 refine wtu 5 (oi := oSapT5) ?_
 refine wtu 6 (oi := oSapT6) ?_
 refine wtu 7 (oi := oSapT7) ?_
 refine wtv 8 (oi := oSapT8) ?_
 refine wtv 9 (oi := oSapT9) ?_
 refine wtu 10 (oi := oSapT10) ?_
 refine wtu 11 (oi := oSapT11) ?_
 refine wtu 12 (oi := oSapT12) ?_
 refine wtv 13 (oi := oSapT13) ?_
 refine wtv 14 (oi := oSapT14) ?_
 refine wtu 15 (oi := oSapT15) ?_
 refine wtu 16 (oi := oSapT16) ?_
 refine wtu 17 (oi := oSapT17) ?_
 refine wtu 18 (oi := oSapT18) ?_
 refine wtu 19 (oi := oSapT19) ?_
 refine wtu 20 (oi := oSapT20) ?_
 refine wtu 21 (oi := oSapT21) ?_
 refine wtu 22 (oi := oSapT22) ?_
 refine wtv 23 (oi := oSapT23) ?_
 refine wtv 24 (oi := oSapT24) ?_
 refine wpAnyH_done (by kernel_rfl) ?_ _
 go_wp2_with fail
 refine bodyPost_ret (v := .tuple #[.agg #[.int .i64 tm, .int .i64 vt, .slice a n cap], .bool false]) (by simp [results, Tryd.results27, go_sem, kz]) rfl ⟨rfl, ?_⟩
 refine Below.drew ?_
 iterate 3 refine Below.setCell ?_ (by exact Nat.le_succ _) _
 exact unhide BW
set_option maxHeartbeats 4000000 in
set_option maxRecDepth 100000 in
theorem sap_c1 (tm vt : Int) (a : Option Addr) (cap n : Nat) (l : List (Int × ByteArray)) (HN : Hid (l.length = n)) (hn : n ≤ 1048576) (t f0 f1 : ByteArray) (r : List ByteArray) (ht : t.size ≤ 65536) (H : Hid (rfOf t.data.toList = some (f0 :: f1 :: r))) (q : Nat) (hq : f1.size = 3 * q) (hq2 : q ≤ 21845) (L : List Int) (HL : Hid (numsR f1.data.toList q = L)) (kn : Nat) (HKN : Hid (L.length = kn)) (hkn : kn ≤ 65536) (h_c : f0 = ⟨#[99]⟩) (hz : r.length ≠ 0) (w : World) (hr : RowV w a (cE l)) :
  Calls Tryd.prog 27 #[.agg #[.int .i64 tm, .int .i64 vt, .slice a n cap], .string t] w fun e w' => e = .returned (.tuple #[.agg #[.int .i64 tm, .int .i64 vt, .slice a n cap], .bool false]) ∧ Below w.heap.size w w' := by
 have B0 := hide (Go.Joins.below_alloc2 w (.cells #[.int .i64 tm, .int .i64 vt, .slice a n cap] 25) (.cells #[.int .i64 0, .int .i64 0, .slice none 0 0] 25))
 have A0 := hide ((BF.new w #[.int .i64 tm, .int .i64 vt, .slice a n cap] 25).alloc (.cells #[.int .i64 0, .int .i64 0, .slice none 0 0] 25))
 have Z0 := hide (BF.new (w.alloc (.cells #[.int .i64 tm, .int .i64 vt, .slice a n cap] 25)) #[.int .i64 0, .int .i64 0, .slice none 0 0] 25)
 simp only [World.size_alloc] at Z0
 have T := sreadnums30 f1 q hq hq2
 rw [unhide HL, unhide HKN] at T
 have HT := hide T
 have HRW := hide hr
 clear T hr
 go_enter Tryd.func27, Tryd.ntmps27
 go_wp2_with fail
 refine (sread t ht _).mono ?_
 rintro e w1 ⟨⟨m, v, c, rfl, ho, hm⟩, hb1⟩
 obtain ⟨rfl, rfl⟩ : c = true ∧ m = f0 :: f1 :: r := by
  rcases hm with ⟨h1, h2⟩ | ⟨_, _, h2⟩
  ·rw [unhide H] at h2; injection h2 with h2; exact ⟨h1, h2.symm⟩
  ·rw [unhide H] at h2; cases h2
 have B1 := hide ((unhide B0).trans (hb1.mono (unhide B0).size))
 have A1 := hide ((unhide A0).below hb1)
 have Z1 := hide ((unhide Z0).below hb1)
 obtain ⟨am, cm, rfl, hrm⟩ := own_rowV ho
 obtain ⟨k, hk⟩ : ∃ k, k = (f0 :: f1 :: r).length := ⟨_, rfl⟩
 have hk2 : 2 ≤ k := by rw [hk]; simp
 have hk6 : k ≤ 60 := by rw [hk]; exact rf_lenA (unhide H)
 have HKR : Hid (k = r.length + 2) := by show _ = _; rw [hk]; simp
 rw [← hk]
 have FM1 := hide hrm
 obtain ⟨b, off, rfl, hblt, hcel⟩ := hrm.at (by simp [cS])
 have k1 : w1.cell? ⟨b, off + 1, none⟩ = some (.string f1) := hcel 1 _ (by simp [cS])
 have dl : ¬ (k : Int) < 2 := by omega
 have i1 : (1 : Int) < (k : Int) := by omega
 have i1n : 1 < k := by omega
 have i0n : 0 < k := by omega
 have ka := (unhide A1).S
 clear hb1 B0 A0 Z0 ho hm hrm hcel hk
 go_wp2_with fail
 refine (unhide HT _).mono ?_
 rintro e w2 ⟨v2, rfl, ho2, hb2⟩
 obtain ⟨an, cn, rfl, hrn⟩ := own_rowV ho2
 have B2 := hide ((unhide B1).trans (hb2.mono (unhide B1).size))
 have A2 := hide ((unhide A1).below hb2)
 have Z2 := hide ((unhide Z1).below hb2)
 have FM2 := hide ((unhide FM1).below hb2)
 have NM2 := hide hrn
 clear hb2 B1 A1 Z1 k1 ka FM1 ho2 hrn HT
 have ka := (unhide A2).S
 go_wp2_with fail
 refine (sown tm vt a cap n l HN hn _ ((unhide HRW).below (unhide B2))).mono ?_
 rintro e w3 ⟨v3, rfl, ho3, hb3⟩
 obtain ⟨a3, c3, rfl, -⟩ := ownZ_rowV ho3
 obtain ⟨p, hp⟩ : ∃ p, p = w3.heap.size := ⟨_, rfl⟩
 have hbw : Below w3.heap.size w3 (w3.alloc (.cells #[.int .i64 tm, .int .i64 vt, .slice a3 n c3] 25)) := Go.Joins.below_alloc1 _ _
 have B3 := hide ((unhide B2).trans (hb3.mono (unhide B2).size))
 have A3 := hide ((unhide A2).below hb3)
 have Z3 := hide ((unhide Z2).below hb3)
 have FM3 := hide ((unhide FM2).below hb3)
 have NM3 := hide ((unhide NM2).below hb3)
 have BW := hide ((unhide B3).trans (hbw.mono (unhide B3).size))
 have AW := hide ((unhide A3).below hbw)
 have ZW := hide ((unhide Z3).below hbw)
 have PW := hide (BF.new w3 #[.int .i64 tm, .int .i64 vt, .slice a3 n c3] 25)
 have FW := hide ((unhide FM3).below hbw)
 have NW := hide ((unhide NM3).below hbw)
 have OW := hide (own_low (ho3.alloc (.cells #[.int .i64 tm, .int .i64 vt, .slice a3 n c3] 25)) (unhide B2).size)
 have zlt : Hid (w.heap.size + 1 < w2.heap.size) := (unhide Z2).lt
 have ON : Hid (∀ j, (Value.slice a3 n c3).ownBlock = some j → w2.heap.size ≤ j ∧ j < w3.heap.size) := fun j hj => ho3.lt j hj
 have hb3s := hb3.size
 obtain ⟨b', off', hbo, hblt', hcel'⟩ := (unhide FW).at (by simp [cS])
 obtain ⟨rfl, rfl⟩ : b' = b ∧ off' = off := by injection hbo with h; injection h with h1 h2; exact ⟨h1.symm, h2.symm⟩
 have k0 : (w3.alloc (.cells #[.int .i64 tm, .int .i64 vt, .slice a3 n c3] 25)).cell? ⟨b', off', none⟩ = some (.string f0) := hcel' 0 _ (by simp [cS])
 clear hb3 hbw B2 A2 Z2 FM2 NM2 B3 A3 Z3 FM3 ho3 ka hcel' hblt hblt'
 have qc : (f0.toList == (⟨#[99]⟩ : ByteArray).toList) = true := by rw [h_c]; simp
 have rc : (f0.toList == [99]) = true := by have := qc; simp only [ByteArray.toList_eq] at this ⊢; exact this
 have h_t : f0 ≠ ⟨#[116]⟩ := by rw [h_c]; decide
 have h_e : f0 ≠ ⟨#[101]⟩ := by rw [h_c]; decide
 have nt : (f0.toList == (⟨#[116]⟩ : ByteArray).toList) = false := txt_ne h_t
 have mt : (f0.toList == [116]) = false := by have := nt; simp only [ByteArray.toList_eq] at this ⊢; exact this
 have ne : (f0.toList == (⟨#[101]⟩ : ByteArray).toList) = false := txt_ne h_e
 have me : (f0.toList == [101]) = false := by have := ne; simp only [ByteArray.toList_eq] at this ⊢; exact this
 clear h_t h_c h_e
 have kk2 : ((k : Int) == 2) = false := by have := unhide HKR; rw [beq_eq_false_iff_ne]; omega
 have ka := (unhide AW).S
 have kz := (unhide ZW).S
 have kzf := (unhide ZW).F
 go_wp2_with fail
 refine wp_region_held_drew (S := fun w' => w'.cell? ⟨b', off', none⟩ = some (.string f0)) (by kernel_rfl) k0 (fun hHeld => ?_)
 refine wtv 0 (oi := oSapT0) ?_
 refine wtv 1 (oi := oSapT1) ?_
 refine wtv 2 (oi := oSapT2) ?_
 refine wtv 3 (oi := oSapT3) ?_
 refine wtv 4 (oi := oSapT4) ?_
 refine wtv 5 (oi := oSapT5) ?_
 refine wtv 6 (oi := oSapT6) ?_
 refine wtv 7 (oi := oSapT7) ?_
 refine wtv 8 (oi := oSapT8) ?_
 refine wtv 9 (oi := oSapT9) ?_
 refine wtu 10 (oi := oSapT10) ?_
 refine wtu 11 (oi := oSapT11) ?_
 refine wtu 12 (oi := oSapT12) ?_
 refine wtv 13 (oi := oSapT13) ?_
 refine wtv 14 (oi := oSapT14) ?_
 refine wtu 15 (oi := oSapT15) ?_
 refine wtu 16 (oi := oSapT16) ?_
 refine wtu 17 (oi := oSapT17) ?_
 refine wtu 18 (oi := oSapT18) ?_
 refine wtu 19 (oi := oSapT19) ?_
 refine wtu 20 (oi := oSapT20) ?_
 refine wtu 21 (oi := oSapT21) ?_
 refine wtu 22 (oi := oSapT22) ?_
 refine wtv 23 (oi := oSapT23) ?_
 refine wtv 24 (oi := oSapT24) ?_
 refine wpAnyH_done (by kernel_rfl) ?_ _
 go_wp2_with fail
 refine bodyPost_ret (v := .tuple #[.agg #[.int .i64 tm, .int .i64 vt, .slice a n cap], .bool false]) (by simp [results, Tryd.results27, go_sem, kz]) rfl ⟨rfl, ?_⟩
 refine Below.drew ?_
 iterate 3 refine Below.setCell ?_ (by exact Nat.le_succ _) _
 exact unhide BW
set_option maxHeartbeats 4000000 in
set_option maxRecDepth 100000 in
theorem sap_c2 (tm vt : Int) (a : Option Addr) (cap n : Nat) (l : List (Int × ByteArray)) (HN : Hid (l.length = n)) (hn : n ≤ 1048576) (t f0 f1 : ByteArray) (r : List ByteArray) (ht : t.size ≤ 65536) (H : Hid (rfOf t.data.toList = some (f0 :: f1 :: r))) (q : Nat) (hq : f1.size = 3 * q) (hq2 : q ≤ 21845) (L : List Int) (HL : Hid (numsR f1.data.toList q = L)) (kn : Nat) (HKN : Hid (L.length = kn)) (hkn : kn ≤ 65536) (h_c : f0 = ⟨#[99]⟩) (hz : r.length = 0) (hz2 : kn ≠ 1) (w : World) (hr : RowV w a (cE l)) :
  Calls Tryd.prog 27 #[.agg #[.int .i64 tm, .int .i64 vt, .slice a n cap], .string t] w fun e w' => e = .returned (.tuple #[.agg #[.int .i64 tm, .int .i64 vt, .slice a n cap], .bool false]) ∧ Below w.heap.size w w' := by
 have B0 := hide (Go.Joins.below_alloc2 w (.cells #[.int .i64 tm, .int .i64 vt, .slice a n cap] 25) (.cells #[.int .i64 0, .int .i64 0, .slice none 0 0] 25))
 have A0 := hide ((BF.new w #[.int .i64 tm, .int .i64 vt, .slice a n cap] 25).alloc (.cells #[.int .i64 0, .int .i64 0, .slice none 0 0] 25))
 have Z0 := hide (BF.new (w.alloc (.cells #[.int .i64 tm, .int .i64 vt, .slice a n cap] 25)) #[.int .i64 0, .int .i64 0, .slice none 0 0] 25)
 simp only [World.size_alloc] at Z0
 have T := sreadnums30 f1 q hq hq2
 rw [unhide HL, unhide HKN] at T
 have HT := hide T
 have HRW := hide hr
 clear T hr
 go_enter Tryd.func27, Tryd.ntmps27
 go_wp2_with fail
 refine (sread t ht _).mono ?_
 rintro e w1 ⟨⟨m, v, c, rfl, ho, hm⟩, hb1⟩
 obtain ⟨rfl, rfl⟩ : c = true ∧ m = f0 :: f1 :: r := by
  rcases hm with ⟨h1, h2⟩ | ⟨_, _, h2⟩
  ·rw [unhide H] at h2; injection h2 with h2; exact ⟨h1, h2.symm⟩
  ·rw [unhide H] at h2; cases h2
 have B1 := hide ((unhide B0).trans (hb1.mono (unhide B0).size))
 have A1 := hide ((unhide A0).below hb1)
 have Z1 := hide ((unhide Z0).below hb1)
 obtain ⟨am, cm, rfl, hrm⟩ := own_rowV ho
 obtain ⟨k, hk⟩ : ∃ k, k = (f0 :: f1 :: r).length := ⟨_, rfl⟩
 have hk2 : 2 ≤ k := by rw [hk]; simp
 have hk6 : k ≤ 60 := by rw [hk]; exact rf_lenA (unhide H)
 have HKR : Hid (k = r.length + 2) := by show _ = _; rw [hk]; simp
 rw [← hk]
 have FM1 := hide hrm
 obtain ⟨b, off, rfl, hblt, hcel⟩ := hrm.at (by simp [cS])
 have k1 : w1.cell? ⟨b, off + 1, none⟩ = some (.string f1) := hcel 1 _ (by simp [cS])
 have dl : ¬ (k : Int) < 2 := by omega
 have i1 : (1 : Int) < (k : Int) := by omega
 have i1n : 1 < k := by omega
 have i0n : 0 < k := by omega
 have ka := (unhide A1).S
 clear hb1 B0 A0 Z0 ho hm hrm hcel hk
 go_wp2_with fail
 refine (unhide HT _).mono ?_
 rintro e w2 ⟨v2, rfl, ho2, hb2⟩
 obtain ⟨an, cn, rfl, hrn⟩ := own_rowV ho2
 have B2 := hide ((unhide B1).trans (hb2.mono (unhide B1).size))
 have A2 := hide ((unhide A1).below hb2)
 have Z2 := hide ((unhide Z1).below hb2)
 have FM2 := hide ((unhide FM1).below hb2)
 have NM2 := hide hrn
 clear hb2 B1 A1 Z1 k1 ka FM1 ho2 hrn HT
 have ka := (unhide A2).S
 go_wp2_with fail
 refine (sown tm vt a cap n l HN hn _ ((unhide HRW).below (unhide B2))).mono ?_
 rintro e w3 ⟨v3, rfl, ho3, hb3⟩
 obtain ⟨a3, c3, rfl, -⟩ := ownZ_rowV ho3
 obtain ⟨p, hp⟩ : ∃ p, p = w3.heap.size := ⟨_, rfl⟩
 have hbw : Below w3.heap.size w3 (w3.alloc (.cells #[.int .i64 tm, .int .i64 vt, .slice a3 n c3] 25)) := Go.Joins.below_alloc1 _ _
 have B3 := hide ((unhide B2).trans (hb3.mono (unhide B2).size))
 have A3 := hide ((unhide A2).below hb3)
 have Z3 := hide ((unhide Z2).below hb3)
 have FM3 := hide ((unhide FM2).below hb3)
 have NM3 := hide ((unhide NM2).below hb3)
 have BW := hide ((unhide B3).trans (hbw.mono (unhide B3).size))
 have AW := hide ((unhide A3).below hbw)
 have ZW := hide ((unhide Z3).below hbw)
 have PW := hide (BF.new w3 #[.int .i64 tm, .int .i64 vt, .slice a3 n c3] 25)
 have FW := hide ((unhide FM3).below hbw)
 have NW := hide ((unhide NM3).below hbw)
 have OW := hide (own_low (ho3.alloc (.cells #[.int .i64 tm, .int .i64 vt, .slice a3 n c3] 25)) (unhide B2).size)
 have zlt : Hid (w.heap.size + 1 < w2.heap.size) := (unhide Z2).lt
 have ON : Hid (∀ j, (Value.slice a3 n c3).ownBlock = some j → w2.heap.size ≤ j ∧ j < w3.heap.size) := fun j hj => ho3.lt j hj
 have hb3s := hb3.size
 obtain ⟨b', off', hbo, hblt', hcel'⟩ := (unhide FW).at (by simp [cS])
 obtain ⟨rfl, rfl⟩ : b' = b ∧ off' = off := by injection hbo with h; injection h with h1 h2; exact ⟨h1.symm, h2.symm⟩
 have k0 : (w3.alloc (.cells #[.int .i64 tm, .int .i64 vt, .slice a3 n c3] 25)).cell? ⟨b', off', none⟩ = some (.string f0) := hcel' 0 _ (by simp [cS])
 clear hb3 hbw B2 A2 Z2 FM2 NM2 B3 A3 Z3 FM3 ho3 ka hcel' hblt hblt'
 have qc : (f0.toList == (⟨#[99]⟩ : ByteArray).toList) = true := by rw [h_c]; simp
 have rc : (f0.toList == [99]) = true := by have := qc; simp only [ByteArray.toList_eq] at this ⊢; exact this
 have h_t : f0 ≠ ⟨#[116]⟩ := by rw [h_c]; decide
 have h_e : f0 ≠ ⟨#[101]⟩ := by rw [h_c]; decide
 have nt : (f0.toList == (⟨#[116]⟩ : ByteArray).toList) = false := txt_ne h_t
 have mt : (f0.toList == [116]) = false := by have := nt; simp only [ByteArray.toList_eq] at this ⊢; exact this
 have ne : (f0.toList == (⟨#[101]⟩ : ByteArray).toList) = false := txt_ne h_e
 have me : (f0.toList == [101]) = false := by have := ne; simp only [ByteArray.toList_eq] at this ⊢; exact this
 clear h_t h_c h_e
 have kk2 : ((k : Int) == 2) = true := by have := unhide HKR; simp; omega
 have nn1 : ((kn : Int) == 1) = false := by rw [beq_eq_false_iff_ne]; omega
 have ka := (unhide AW).S
 have kz := (unhide ZW).S
 have kzf := (unhide ZW).F
 go_wp2_with fail
 refine wp_region_held_drew (S := fun w' => w'.cell? ⟨b', off', none⟩ = some (.string f0)) (by kernel_rfl) k0 (fun hHeld => ?_)
 refine wtv 0 (oi := oSapT0) ?_
 refine wtv 1 (oi := oSapT1) ?_
 refine wtv 2 (oi := oSapT2) ?_
 refine wtv 3 (oi := oSapT3) ?_
 refine wtv 4 (oi := oSapT4) ?_
 refine wtv 5 (oi := oSapT5) ?_
 refine wtv 6 (oi := oSapT6) ?_
 refine wtv 7 (oi := oSapT7) ?_
 refine wtv 8 (oi := oSapT8) ?_
 refine wtv 9 (oi := oSapT9) ?_
 refine wtv 10 (oi := oSapT10) ?_
 refine wtv 11 (oi := oSapT11) ?_
 refine wtv 12 (oi := oSapT12) ?_
 refine wtv 13 (oi := oSapT13) ?_
 refine wtv 14 (oi := oSapT14) ?_
 refine wtu 15 (oi := oSapT15) ?_
 refine wtu 16 (oi := oSapT16) ?_
 refine wtu 17 (oi := oSapT17) ?_
 refine wtu 18 (oi := oSapT18) ?_
 refine wtu 19 (oi := oSapT19) ?_
 refine wtu 20 (oi := oSapT20) ?_
 refine wtu 21 (oi := oSapT21) ?_
 refine wtu 22 (oi := oSapT22) ?_
 refine wtv 23 (oi := oSapT23) ?_
 refine wtv 24 (oi := oSapT24) ?_
 refine wpAnyH_done (by kernel_rfl) ?_ _
 go_wp2_with fail
 refine bodyPost_ret (v := .tuple #[.agg #[.int .i64 tm, .int .i64 vt, .slice a n cap], .bool false]) (by simp [results, Tryd.results27, go_sem, kz]) rfl ⟨rfl, ?_⟩
 refine Below.drew ?_
 iterate 3 refine Below.setCell ?_ (by exact Nat.le_succ _) _
 exact unhide BW
set_option maxHeartbeats 4000000 in
set_option maxRecDepth 100000 in
theorem sap_e1 (tm vt : Int) (a : Option Addr) (cap n : Nat) (l : List (Int × ByteArray)) (HN : Hid (l.length = n)) (hn : n ≤ 1048576) (t f0 f1 : ByteArray) (r : List ByteArray) (ht : t.size ≤ 65536) (H : Hid (rfOf t.data.toList = some (f0 :: f1 :: r))) (q : Nat) (hq : f1.size = 3 * q) (hq2 : q ≤ 21845) (L : List Int) (HL : Hid (numsR f1.data.toList q = L)) (kn : Nat) (HKN : Hid (L.length = kn)) (hkn : kn ≤ 65536) (h_e : f0 = ⟨#[101]⟩) (hz : r.length ≠ 1) (w : World) (hr : RowV w a (cE l)) :
  Calls Tryd.prog 27 #[.agg #[.int .i64 tm, .int .i64 vt, .slice a n cap], .string t] w fun e w' => e = .returned (.tuple #[.agg #[.int .i64 tm, .int .i64 vt, .slice a n cap], .bool false]) ∧ Below w.heap.size w w' := by
 have B0 := hide (Go.Joins.below_alloc2 w (.cells #[.int .i64 tm, .int .i64 vt, .slice a n cap] 25) (.cells #[.int .i64 0, .int .i64 0, .slice none 0 0] 25))
 have A0 := hide ((BF.new w #[.int .i64 tm, .int .i64 vt, .slice a n cap] 25).alloc (.cells #[.int .i64 0, .int .i64 0, .slice none 0 0] 25))
 have Z0 := hide (BF.new (w.alloc (.cells #[.int .i64 tm, .int .i64 vt, .slice a n cap] 25)) #[.int .i64 0, .int .i64 0, .slice none 0 0] 25)
 simp only [World.size_alloc] at Z0
 have T := sreadnums30 f1 q hq hq2
 rw [unhide HL, unhide HKN] at T
 have HT := hide T
 have HRW := hide hr
 clear T hr
 go_enter Tryd.func27, Tryd.ntmps27
 go_wp2_with fail
 refine (sread t ht _).mono ?_
 rintro e w1 ⟨⟨m, v, c, rfl, ho, hm⟩, hb1⟩
 obtain ⟨rfl, rfl⟩ : c = true ∧ m = f0 :: f1 :: r := by
  rcases hm with ⟨h1, h2⟩ | ⟨_, _, h2⟩
  ·rw [unhide H] at h2; injection h2 with h2; exact ⟨h1, h2.symm⟩
  ·rw [unhide H] at h2; cases h2
 have B1 := hide ((unhide B0).trans (hb1.mono (unhide B0).size))
 have A1 := hide ((unhide A0).below hb1)
 have Z1 := hide ((unhide Z0).below hb1)
 obtain ⟨am, cm, rfl, hrm⟩ := own_rowV ho
 obtain ⟨k, hk⟩ : ∃ k, k = (f0 :: f1 :: r).length := ⟨_, rfl⟩
 have hk2 : 2 ≤ k := by rw [hk]; simp
 have hk6 : k ≤ 60 := by rw [hk]; exact rf_lenA (unhide H)
 have HKR : Hid (k = r.length + 2) := by show _ = _; rw [hk]; simp
 rw [← hk]
 have FM1 := hide hrm
 obtain ⟨b, off, rfl, hblt, hcel⟩ := hrm.at (by simp [cS])
 have k1 : w1.cell? ⟨b, off + 1, none⟩ = some (.string f1) := hcel 1 _ (by simp [cS])
 have dl : ¬ (k : Int) < 2 := by omega
 have i1 : (1 : Int) < (k : Int) := by omega
 have i1n : 1 < k := by omega
 have i0n : 0 < k := by omega
 have ka := (unhide A1).S
 clear hb1 B0 A0 Z0 ho hm hrm hcel hk
 go_wp2_with fail
 refine (unhide HT _).mono ?_
 rintro e w2 ⟨v2, rfl, ho2, hb2⟩
 obtain ⟨an, cn, rfl, hrn⟩ := own_rowV ho2
 have B2 := hide ((unhide B1).trans (hb2.mono (unhide B1).size))
 have A2 := hide ((unhide A1).below hb2)
 have Z2 := hide ((unhide Z1).below hb2)
 have FM2 := hide ((unhide FM1).below hb2)
 have NM2 := hide hrn
 clear hb2 B1 A1 Z1 k1 ka FM1 ho2 hrn HT
 have ka := (unhide A2).S
 go_wp2_with fail
 refine (sown tm vt a cap n l HN hn _ ((unhide HRW).below (unhide B2))).mono ?_
 rintro e w3 ⟨v3, rfl, ho3, hb3⟩
 obtain ⟨a3, c3, rfl, -⟩ := ownZ_rowV ho3
 obtain ⟨p, hp⟩ : ∃ p, p = w3.heap.size := ⟨_, rfl⟩
 have hbw : Below w3.heap.size w3 (w3.alloc (.cells #[.int .i64 tm, .int .i64 vt, .slice a3 n c3] 25)) := Go.Joins.below_alloc1 _ _
 have B3 := hide ((unhide B2).trans (hb3.mono (unhide B2).size))
 have A3 := hide ((unhide A2).below hb3)
 have Z3 := hide ((unhide Z2).below hb3)
 have FM3 := hide ((unhide FM2).below hb3)
 have NM3 := hide ((unhide NM2).below hb3)
 have BW := hide ((unhide B3).trans (hbw.mono (unhide B3).size))
 have AW := hide ((unhide A3).below hbw)
 have ZW := hide ((unhide Z3).below hbw)
 have PW := hide (BF.new w3 #[.int .i64 tm, .int .i64 vt, .slice a3 n c3] 25)
 have FW := hide ((unhide FM3).below hbw)
 have NW := hide ((unhide NM3).below hbw)
 have OW := hide (own_low (ho3.alloc (.cells #[.int .i64 tm, .int .i64 vt, .slice a3 n c3] 25)) (unhide B2).size)
 have zlt : Hid (w.heap.size + 1 < w2.heap.size) := (unhide Z2).lt
 have ON : Hid (∀ j, (Value.slice a3 n c3).ownBlock = some j → w2.heap.size ≤ j ∧ j < w3.heap.size) := fun j hj => ho3.lt j hj
 have hb3s := hb3.size
 obtain ⟨b', off', hbo, hblt', hcel'⟩ := (unhide FW).at (by simp [cS])
 obtain ⟨rfl, rfl⟩ : b' = b ∧ off' = off := by injection hbo with h; injection h with h1 h2; exact ⟨h1.symm, h2.symm⟩
 have k0 : (w3.alloc (.cells #[.int .i64 tm, .int .i64 vt, .slice a3 n c3] 25)).cell? ⟨b', off', none⟩ = some (.string f0) := hcel' 0 _ (by simp [cS])
 clear hb3 hbw B2 A2 Z2 FM2 NM2 B3 A3 Z3 FM3 ho3 ka hcel' hblt hblt'
 have qe : (f0.toList == (⟨#[101]⟩ : ByteArray).toList) = true := by rw [h_e]; simp
 have re : (f0.toList == [101]) = true := by have := qe; simp only [ByteArray.toList_eq] at this ⊢; exact this
 have h_t : f0 ≠ ⟨#[116]⟩ := by rw [h_e]; decide
 have h_c : f0 ≠ ⟨#[99]⟩ := by rw [h_e]; decide
 have nt : (f0.toList == (⟨#[116]⟩ : ByteArray).toList) = false := txt_ne h_t
 have mt : (f0.toList == [116]) = false := by have := nt; simp only [ByteArray.toList_eq] at this ⊢; exact this
 have nc : (f0.toList == (⟨#[99]⟩ : ByteArray).toList) = false := txt_ne h_c
 have mc : (f0.toList == [99]) = false := by have := nc; simp only [ByteArray.toList_eq] at this ⊢; exact this
 clear h_t h_c h_e
 have kk3 : ((k : Int) == 3) = false := by have := unhide HKR; rw [beq_eq_false_iff_ne]; omega
 have ka := (unhide AW).S
 have kz := (unhide ZW).S
 have kzf := (unhide ZW).F
 go_wp2_with fail
 refine wp_region_held_drew (S := fun w' => w'.cell? ⟨b', off', none⟩ = some (.string f0)) (by kernel_rfl) k0 (fun hHeld => ?_)
 refine wtv 0 (oi := oSapT0) ?_
 refine wtv 1 (oi := oSapT1) ?_
 refine wtv 2 (oi := oSapT2) ?_
 refine wtv 3 (oi := oSapT3) ?_
 refine wtv 4 (oi := oSapT4) ?_
 refine wtu 5 (oi := oSapT5) ?_
 refine wtu 6 (oi := oSapT6) ?_
 refine wtu 7 (oi := oSapT7) ?_
 refine wtv 8 (oi := oSapT8) ?_
 refine wtv 9 (oi := oSapT9) ?_
 refine wtu 10 (oi := oSapT10) ?_
 refine wtu 11 (oi := oSapT11) ?_
 refine wtu 12 (oi := oSapT12) ?_
 refine wtv 13 (oi := oSapT13) ?_
 refine wtv 14 (oi := oSapT14) ?_
 refine wtu 15 (oi := oSapT15) ?_
 refine wtu 16 (oi := oSapT16) ?_
 refine wtu 17 (oi := oSapT17) ?_
 refine wtu 18 (oi := oSapT18) ?_
 refine wtu 19 (oi := oSapT19) ?_
 refine wtu 20 (oi := oSapT20) ?_
 refine wtu 21 (oi := oSapT21) ?_
 refine wtu 22 (oi := oSapT22) ?_
 refine wtv 23 (oi := oSapT23) ?_
 refine wtv 24 (oi := oSapT24) ?_
 refine wpAnyH_done (by kernel_rfl) ?_ _
 go_wp2_with fail
 refine bodyPost_ret (v := .tuple #[.agg #[.int .i64 tm, .int .i64 vt, .slice a n cap], .bool false]) (by simp [results, Tryd.results27, go_sem, kz]) rfl ⟨rfl, ?_⟩
 refine Below.drew ?_
 iterate 3 refine Below.setCell ?_ (by exact Nat.le_succ _) _
 exact unhide BW
set_option maxHeartbeats 4000000 in
set_option maxRecDepth 100000 in
theorem sap_e2 (tm vt : Int) (a : Option Addr) (cap n : Nat) (l : List (Int × ByteArray)) (HN : Hid (l.length = n)) (hn : n ≤ 1048576) (t f0 f1 : ByteArray) (r : List ByteArray) (ht : t.size ≤ 65536) (H : Hid (rfOf t.data.toList = some (f0 :: f1 :: r))) (q : Nat) (hq : f1.size = 3 * q) (hq2 : q ≤ 21845) (L : List Int) (HL : Hid (numsR f1.data.toList q = L)) (kn : Nat) (HKN : Hid (L.length = kn)) (hkn : kn ≤ 65536) (h_e : f0 = ⟨#[101]⟩) (hz : r.length = 1) (hz2 : kn ≠ 1) (w : World) (hr : RowV w a (cE l)) :
  Calls Tryd.prog 27 #[.agg #[.int .i64 tm, .int .i64 vt, .slice a n cap], .string t] w fun e w' => e = .returned (.tuple #[.agg #[.int .i64 tm, .int .i64 vt, .slice a n cap], .bool false]) ∧ Below w.heap.size w w' := by
 have B0 := hide (Go.Joins.below_alloc2 w (.cells #[.int .i64 tm, .int .i64 vt, .slice a n cap] 25) (.cells #[.int .i64 0, .int .i64 0, .slice none 0 0] 25))
 have A0 := hide ((BF.new w #[.int .i64 tm, .int .i64 vt, .slice a n cap] 25).alloc (.cells #[.int .i64 0, .int .i64 0, .slice none 0 0] 25))
 have Z0 := hide (BF.new (w.alloc (.cells #[.int .i64 tm, .int .i64 vt, .slice a n cap] 25)) #[.int .i64 0, .int .i64 0, .slice none 0 0] 25)
 simp only [World.size_alloc] at Z0
 have T := sreadnums30 f1 q hq hq2
 rw [unhide HL, unhide HKN] at T
 have HT := hide T
 have HRW := hide hr
 clear T hr
 go_enter Tryd.func27, Tryd.ntmps27
 go_wp2_with fail
 refine (sread t ht _).mono ?_
 rintro e w1 ⟨⟨m, v, c, rfl, ho, hm⟩, hb1⟩
 obtain ⟨rfl, rfl⟩ : c = true ∧ m = f0 :: f1 :: r := by
  rcases hm with ⟨h1, h2⟩ | ⟨_, _, h2⟩
  ·rw [unhide H] at h2; injection h2 with h2; exact ⟨h1, h2.symm⟩
  ·rw [unhide H] at h2; cases h2
 have B1 := hide ((unhide B0).trans (hb1.mono (unhide B0).size))
 have A1 := hide ((unhide A0).below hb1)
 have Z1 := hide ((unhide Z0).below hb1)
 obtain ⟨am, cm, rfl, hrm⟩ := own_rowV ho
 obtain ⟨k, hk⟩ : ∃ k, k = (f0 :: f1 :: r).length := ⟨_, rfl⟩
 have hk2 : 2 ≤ k := by rw [hk]; simp
 have hk6 : k ≤ 60 := by rw [hk]; exact rf_lenA (unhide H)
 have HKR : Hid (k = r.length + 2) := by show _ = _; rw [hk]; simp
 rw [← hk]
 have FM1 := hide hrm
 obtain ⟨b, off, rfl, hblt, hcel⟩ := hrm.at (by simp [cS])
 have k1 : w1.cell? ⟨b, off + 1, none⟩ = some (.string f1) := hcel 1 _ (by simp [cS])
 have dl : ¬ (k : Int) < 2 := by omega
 have i1 : (1 : Int) < (k : Int) := by omega
 have i1n : 1 < k := by omega
 have i0n : 0 < k := by omega
 have ka := (unhide A1).S
 clear hb1 B0 A0 Z0 ho hm hrm hcel hk
 go_wp2_with fail
 refine (unhide HT _).mono ?_
 rintro e w2 ⟨v2, rfl, ho2, hb2⟩
 obtain ⟨an, cn, rfl, hrn⟩ := own_rowV ho2
 have B2 := hide ((unhide B1).trans (hb2.mono (unhide B1).size))
 have A2 := hide ((unhide A1).below hb2)
 have Z2 := hide ((unhide Z1).below hb2)
 have FM2 := hide ((unhide FM1).below hb2)
 have NM2 := hide hrn
 clear hb2 B1 A1 Z1 k1 ka FM1 ho2 hrn HT
 have ka := (unhide A2).S
 go_wp2_with fail
 refine (sown tm vt a cap n l HN hn _ ((unhide HRW).below (unhide B2))).mono ?_
 rintro e w3 ⟨v3, rfl, ho3, hb3⟩
 obtain ⟨a3, c3, rfl, -⟩ := ownZ_rowV ho3
 obtain ⟨p, hp⟩ : ∃ p, p = w3.heap.size := ⟨_, rfl⟩
 have hbw : Below w3.heap.size w3 (w3.alloc (.cells #[.int .i64 tm, .int .i64 vt, .slice a3 n c3] 25)) := Go.Joins.below_alloc1 _ _
 have B3 := hide ((unhide B2).trans (hb3.mono (unhide B2).size))
 have A3 := hide ((unhide A2).below hb3)
 have Z3 := hide ((unhide Z2).below hb3)
 have FM3 := hide ((unhide FM2).below hb3)
 have NM3 := hide ((unhide NM2).below hb3)
 have BW := hide ((unhide B3).trans (hbw.mono (unhide B3).size))
 have AW := hide ((unhide A3).below hbw)
 have ZW := hide ((unhide Z3).below hbw)
 have PW := hide (BF.new w3 #[.int .i64 tm, .int .i64 vt, .slice a3 n c3] 25)
 have FW := hide ((unhide FM3).below hbw)
 have NW := hide ((unhide NM3).below hbw)
 have OW := hide (own_low (ho3.alloc (.cells #[.int .i64 tm, .int .i64 vt, .slice a3 n c3] 25)) (unhide B2).size)
 have zlt : Hid (w.heap.size + 1 < w2.heap.size) := (unhide Z2).lt
 have ON : Hid (∀ j, (Value.slice a3 n c3).ownBlock = some j → w2.heap.size ≤ j ∧ j < w3.heap.size) := fun j hj => ho3.lt j hj
 have hb3s := hb3.size
 obtain ⟨b', off', hbo, hblt', hcel'⟩ := (unhide FW).at (by simp [cS])
 obtain ⟨rfl, rfl⟩ : b' = b ∧ off' = off := by injection hbo with h; injection h with h1 h2; exact ⟨h1.symm, h2.symm⟩
 have k0 : (w3.alloc (.cells #[.int .i64 tm, .int .i64 vt, .slice a3 n c3] 25)).cell? ⟨b', off', none⟩ = some (.string f0) := hcel' 0 _ (by simp [cS])
 clear hb3 hbw B2 A2 Z2 FM2 NM2 B3 A3 Z3 FM3 ho3 ka hcel' hblt hblt'
 have qe : (f0.toList == (⟨#[101]⟩ : ByteArray).toList) = true := by rw [h_e]; simp
 have re : (f0.toList == [101]) = true := by have := qe; simp only [ByteArray.toList_eq] at this ⊢; exact this
 have h_t : f0 ≠ ⟨#[116]⟩ := by rw [h_e]; decide
 have h_c : f0 ≠ ⟨#[99]⟩ := by rw [h_e]; decide
 have nt : (f0.toList == (⟨#[116]⟩ : ByteArray).toList) = false := txt_ne h_t
 have mt : (f0.toList == [116]) = false := by have := nt; simp only [ByteArray.toList_eq] at this ⊢; exact this
 have nc : (f0.toList == (⟨#[99]⟩ : ByteArray).toList) = false := txt_ne h_c
 have mc : (f0.toList == [99]) = false := by have := nc; simp only [ByteArray.toList_eq] at this ⊢; exact this
 clear h_t h_c h_e
 have kk3 : ((k : Int) == 3) = true := by have := unhide HKR; simp; omega
 have nn1 : ((kn : Int) == 1) = false := by rw [beq_eq_false_iff_ne]; omega
 have ka := (unhide AW).S
 have kz := (unhide ZW).S
 have kzf := (unhide ZW).F
 go_wp2_with fail
 refine wp_region_held_drew (S := fun w' => w'.cell? ⟨b', off', none⟩ = some (.string f0)) (by kernel_rfl) k0 (fun hHeld => ?_)
 refine wtv 0 (oi := oSapT0) ?_
 refine wtv 1 (oi := oSapT1) ?_
 refine wtv 2 (oi := oSapT2) ?_
 refine wtv 3 (oi := oSapT3) ?_
 refine wtv 4 (oi := oSapT4) ?_
 refine wtu 5 (oi := oSapT5) ?_
 refine wtu 6 (oi := oSapT6) ?_
 refine wtu 7 (oi := oSapT7) ?_
 refine wtv 8 (oi := oSapT8) ?_
 refine wtv 9 (oi := oSapT9) ?_
 refine wtu 10 (oi := oSapT10) ?_
 refine wtu 11 (oi := oSapT11) ?_
 refine wtu 12 (oi := oSapT12) ?_
 refine wtv 13 (oi := oSapT13) ?_
 refine wtv 14 (oi := oSapT14) ?_
 refine wtu 15 (oi := oSapT15) ?_
 refine wtu 16 (oi := oSapT16) ?_
 refine wtu 17 (oi := oSapT17) ?_
 refine wtu 18 (oi := oSapT18) ?_
 refine wtu 19 (oi := oSapT19) ?_
 refine wtu 20 (oi := oSapT20) ?_
 refine wtu 21 (oi := oSapT21) ?_
 refine wtu 22 (oi := oSapT22) ?_
 refine wtv 23 (oi := oSapT23) ?_
 refine wtv 24 (oi := oSapT24) ?_
 refine wpAnyH_done (by kernel_rfl) ?_ _
 go_wp2_with fail
 refine bodyPost_ret (v := .tuple #[.agg #[.int .i64 tm, .int .i64 vt, .slice a n cap], .bool false]) (by simp [results, Tryd.results27, go_sem, kz]) rfl ⟨rfl, ?_⟩
 refine Below.drew ?_
 iterate 3 refine Below.setCell ?_ (by exact Nat.le_succ _) _
 exact unhide BW
end Go.Proofs.YtamjljhbnhdgdaaDoor
