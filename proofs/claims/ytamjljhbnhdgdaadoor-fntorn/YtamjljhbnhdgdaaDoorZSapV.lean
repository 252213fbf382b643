/- spec.l07Apply of a cut: what the specification answers. -/
import Derived.Test.YtamjljhbnhdgdaaDoorZSapU
import Derived.Test.YtamjljhbnhdgdaaDoorZG12
namespace Go.Proofs.YtamjljhbnhdgdaaDoor
open Go.ChangeShapes Go.WideShapes Go.ChangeAt Go.RowKit
set_option linter.unusedVariables false
set_option maxHeartbeats 4000000 in
set_option maxRecDepth 100000 in
theorem sap_c4 (tm vt : Int) (a : Option Addr) (cap n : Nat) (l : List (Int × ByteArray)) (HN : Hid (l.length = n)) (hn : n ≤ 1048576) (t f0 f1 : ByteArray) (r : List ByteArray) (ht : t.size ≤ 65536) (H : Hid (rfOf t.data.toList = some (f0 :: f1 :: r))) (q : Nat) (hq : f1.size = 3 * q) (hq2 : q ≤ 21845) (L : List Int) (HL : Hid (numsR f1.data.toList q = L)) (kn : Nat) (HKN : Hid (L.length = kn)) (hkn : kn ≤ 65536) (h_c : f0 = ⟨#[99]⟩) (hz : r.length = 0) (c0 : Nat) (hLL : L = [(c0 : Int)]) (hk1 : kn = 1) (hc0 : c0 < n) (HSZ : Hid (∀ k (h : k < (l.take c0).length), (l.take c0)[k].2.size ≤ 1048576)) (R : Bool) (HRR : Hid (R = stateB tm vt (l.take c0))) (w : World) (hr : RowV w a (cE l)) :
  Calls Tryd.prog 27 #[.agg #[.int .i64 tm, .int .i64 vt, .slice a n cap], .string t] w fun e w' => (∃ v, e = .returned (.tuple #[.agg #[.int .i64 tm, .int .i64 vt, v], .bool R]) ∧ w'.ownsRow w.heap.size 62 2 v c0 (cE (l.take c0))) ∧ Below w.heap.size w w' := by
 have B0 := hide (Go.Joins.below_alloc2 w (.cells #[.int .i64 tm, .int .i64 vt, .slice a n cap] 25) (.cells #[.int .i64 0, .int .i64 0, .slice none 0 0] 25))
 have A0 := hide ((BF.new w #[.int .i64 tm, .int .i64 vt, .slice a n cap] 25).alloc (.cells #[.int .i64 0, .int .i64 0, .slice none 0 0] 25))
 have Z0 := hide (BF.new (w.alloc (.cells #[.int .i64 tm, .int .i64 vt, .slice a n cap] 25)) #[.int .i64 0, .int .i64 0, .slice none 0 0] 25)
 simp only [World.size_alloc] at Z0
 have T := sreadnums30 f1 q hq hq2
 rw [unhide HL, unhide HKN] at T
 have HT := hide T
 have HRW := hide hr
 clear T hr
 go_enter Tryd.func27, Tryd.ntmps27
 go_wp2_with fail
 refine (sread t ht _).mono ?_
 rintro e w1 ⟨⟨m, v, c, rfl, ho, hm⟩, hb1⟩
 obtain ⟨rfl, rfl⟩ : c = true ∧ m = f0 :: f1 :: r := by
  rcases hm with ⟨h1, h2⟩ | ⟨_, _, h2⟩
  ·rw [unhide H] at h2; injection h2 with h2; exact ⟨h1, h2.symm⟩
  ·rw [unhide H] at h2; cases h2
 have B1 := hide ((unhide B0).trans (hb1.mono (unhide B0).size))
 have A1 := hide ((unhide A0).below hb1)
 have Z1 := hide ((unhide Z0).below hb1)
 obtain ⟨am, cm, rfl, hrm⟩ := own_rowV ho
 obtain ⟨k, hk⟩ : ∃ k, k = (f0 :: f1 :: r).length := ⟨_, rfl⟩
 have hk2 : 2 ≤ k := by rw [hk]; simp
 have hk6 : k ≤ 60 := by rw [hk]; exact rf_lenA (unhide H)
 have HKR : Hid (k = r.length + 2) := by show _ = _; rw [hk]; simp
 rw [← hk]
 have FM1 := hide hrm
 obtain ⟨b, off, rfl, hblt, hcel⟩ := hrm.at (by simp [cS])
 have k1 : w1.cell? ⟨b, off + 1, none⟩ = some (.string f1) := hcel 1 _ (by simp [cS])
 have dl : ¬ (k : Int) < 2 := by omega
 have i1 : (1 : Int) < (k : Int) := by omega
 have i1n : 1 < k := by omega
 have i0n : 0 < k := by omega
 have ka := (unhide A1).S
 clear hb1 B0 A0 Z0 ho hm hrm hcel hk
 go_wp2_with fail
 refine (unhide HT _).mono ?_
 rintro e w2 ⟨v2, rfl, ho2, hb2⟩
 obtain ⟨an, cn, rfl, hrn⟩ := own_rowV ho2
 have B2 := hide ((unhide B1).trans (hb2.mono (unhide B1).size))
 have A2 := hide ((unhide A1).below hb2)
 have Z2 := hide ((unhide Z1).below hb2)
 have FM2 := hide ((unhide FM1).below hb2)
 have NM2 := hide hrn
 clear hb2 B1 A1 Z1 k1 ka FM1 ho2 hrn HT
 have ka := (unhide A2).S
 go_wp2_with fail
 refine (sown tm vt a cap n l HN hn _ ((unhide HRW).below (unhide B2))).mono ?_
 rintro e w3 ⟨v3, rfl, ho3, hb3⟩
 obtain ⟨a3, c3, rfl, -⟩ := ownZ_rowV ho3
 obtain ⟨p, hp⟩ : ∃ p, p = w3.heap.size := ⟨_, rfl⟩
 have hbw : Below w3.heap.size w3 (w3.alloc (.cells #[.int .i64 tm, .int .i64 vt, .slice a3 n c3] 25)) := Go.Joins.below_alloc1 _ _
 have B3 := hide ((unhide B2).trans (hb3.mono (unhide B2).size))
 have A3 := hide ((unhide A2).below hb3)
 have Z3 := hide ((unhide Z2).below hb3)
 have FM3 := hide ((unhide FM2).below hb3)
 have NM3 := hide ((unhide NM2).below hb3)
 have BW := hide ((unhide B3).trans (hbw.mono (unhide B3).size))
 have AW := hide ((unhide A3).below hbw)
 have ZW := hide ((unhide Z3).below hbw)
 have PW := hide (BF.new w3 #[.int .i64 tm, .int .i64 vt, .slice a3 n c3] 25)
 have FW := hide ((unhide FM3).below hbw)
 have NW := hide ((unhide NM3).below hbw)
 have OW := hide (own_low (ho3.alloc (.cells #[.int .i64 tm, .int .i64 vt, .slice a3 n c3] 25)) (unhide B2).size)
 have zlt : Hid (w.heap.size + 1 < w2.heap.size) := (unhide Z2).lt
 have ON : Hid (∀ j, (Value.slice a3 n c3).ownBlock = some j → w2.heap.size ≤ j ∧ j < w3.heap.size) := fun j hj => ho3.lt j hj
 have hb3s := hb3.size
 obtain ⟨b', off', hbo, hblt', hcel'⟩ := (unhide FW).at (by simp [cS])
 obtain ⟨rfl, rfl⟩ : b' = b ∧ off' = off := by injection hbo with h; injection h with h1 h2; exact ⟨h1.symm, h2.symm⟩
 have k0 : (w3.alloc (.cells #[.int .i64 tm, .int .i64 vt, .slice a3 n c3] 25)).cell? ⟨b', off', none⟩ = some (.string f0) := hcel' 0 _ (by simp [cS])
 clear hb3 hbw B2 A2 Z2 FM2 NM2 B3 A3 Z3 FM3 ho3 ka hcel' hblt hblt'
 have qc : (f0.toList == (⟨#[99]⟩ : ByteArray).toList) = true := by rw [h_c]; simp
 have rc : (f0.toList == [99]) = true := by have := qc; simp only [ByteArray.toList_eq] at this ⊢; exact this
 have h_t : f0 ≠ ⟨#[116]⟩ := by rw [h_c]; decide
 have h_e : f0 ≠ ⟨#[101]⟩ := by rw [h_c]; decide
 have nt : (f0.toList == (⟨#[116]⟩ : ByteArray).toList) = false := txt_ne h_t
 have mt : (f0.toList == [116]) = false := by have := nt; simp only [ByteArray.toList_eq] at this ⊢; exact this
 have ne : (f0.toList == (⟨#[101]⟩ : ByteArray).toList) = false := txt_ne h_e
 have me : (f0.toList == [101]) = false := by have := ne; simp only [ByteArray.toList_eq] at this ⊢; exact this
 clear h_t h_c h_e
 have kk2 : ((k : Int) == 2) = true := by have := unhide HKR; simp; omega
 have nn1 : ((kn : Int) == 1) = true := by simp; omega
 have e1 : IntKind.i64.wrap ((n : Int) - 1) = (n : Int) - 1 := wrapi _ (by omega) (by omega)
 subst hk1
 obtain ⟨bn, on, rfl, hbn, hcn⟩ := (unhide NW).at (by rw [hLL]; simp [cI])
 have kn0 : (w3.alloc (.cells #[.int .i64 tm, .int .i64 vt, .slice a3 n c3] 25)).cell? ⟨bn, on, none⟩ = some (.int .i64 (c0 : Int)) := hcn 0 _ (by rw [hLL]; simp [cI])
 clear hcn
 obtain ⟨g3, rfl, hcap⟩ := own_shape (unhide OW) (by omega)
 have hx : inB (c0 : Int) 0 ((n : Int) - 1) = true := by unfold inB; simp; omega
 have hN' : Hid ((l.take c0).length = c0) := by show _ = _; rw [List.length_take]; have := unhide HN; omega
 have s1 : (0 : Int) ≤ (c0 : Int) := by omega
 have s2 : (c0 : Int) ≤ (c3 : Int) := by omega
 have hon := unhide ON g3 rfl
 have hzl := unhide zlt
 have nz : (Value.slice (some ⟨g3, 0, none⟩) c0 c3).ownBlock ≠ some (w.heap.size + 1) := fun h => by have e : g3 = w.heap.size + 1 := Option.some.inj h; omega
 have hbnp : bn ≠ w3.heap.size := by
  obtain ⟨b9, o9, h9, hl9, -⟩ := (unhide NM3).at (by rw [hLL]; simp [cI])
  injection h9 with h9
  injection h9 with h9 _
  omega
 have ka := (unhide AW).S
 have kz := (unhide ZW).S
 have kzf := (unhide ZW).F
 have kp := (unhide PW).S
 have kpf := (unhide PW).F
 have k14 : (w3.alloc (.cells #[.int .i64 tm, .int .i64 vt, .slice (some ⟨g3, 0, none⟩) n c3] 25)).cell? ⟨b', off', none⟩ = some (.string f0) ∧ (w3.alloc (.cells #[.int .i64 tm, .int .i64 vt, .slice (some ⟨g3, 0, none⟩) n c3] 25)).cell? ⟨bn, on, none⟩ = some (.int .i64 (c0 : Int)) ∧ (∀ o, (w3.alloc (.cells #[.int .i64 tm, .int .i64 vt, .slice (some ⟨g3, 0, none⟩) n c3] 25)).cell? ⟨w3.heap.size, o, none⟩ = (#[.int .i64 tm, .int .i64 vt, .slice (some ⟨g3, 0, none⟩) n c3] : Array Value)[o]?) := ⟨k0, kn0, kp⟩
 clear hp
 have P4 := hide (unhide PW).drew.drew
 have B4 := hide (unhide BW).drew.drew
 have Z4 := hide (unhide ZW).drew.drew
 have O4 := hide (((heldZ_of (unhide OW)).below (Below.refl _ _).drew.drew (Nat.le_refl _)).own)
 obtain ⟨v5, hvz, hFA, hfar, hbz⟩ := put1 (w3.alloc (.cells #[.int .i64 tm, .int .i64 vt, .slice (some ⟨g3, 0, none⟩) n c3] 25)).drew.drew (unhide P4) (.slice (some ⟨g3, 0, none⟩) c0 c3)
 go_wp2_with fail
 refine wp_region_held_drew (S := fun w' => w'.cell? ⟨b', off', none⟩ = some (.string f0) ∧ w'.cell? ⟨bn, on, none⟩ = some (.int .i64 (c0 : Int)) ∧ (∀ o, w'.cell? ⟨w3.heap.size, o, none⟩ = (#[.int .i64 tm, .int .i64 vt, .slice (some ⟨g3, 0, none⟩) n c3] : Array Value)[o]?)) (by kernel_rfl) k14 (fun hHeld => ?_)
 refine wtv 0 (oi := { dst := some 68, op := .move (.tmp 6), type := 27, pos := "l07_store.go:74", after := #[], guard := none }) ?_
 refine wtv 1 (oi := { dst := some 69, op := .indexAddr 27 (.tmp 68) (.const (.int .i64 0)), type := 0, pos := "l07_store.go:74", after := #[{ on := 0, ground := .data }], guard := none }) ?_
 refine wtv 2 (oi := { dst := some 70, op := .load 9 (.tmp 69), type := 9, pos := "l07_store.go:74", after := #[{ on := 1, ground := .data }], guard := none }) ?_
 refine wtv 3 (oi := { dst := some 71, op := .binOp .eql 9 (.tmp 70) (.const (.string { data := #[99] })) 9, type := 4, pos := "l07_store.go:74", after := #[{ on := 2, ground := .data }], guard := none }) ?_
 refine wtv 4 (oi := { dst := some 72, op := .move (.tmp 71), type := 4, pos := "l07_store.go:74", after := #[{ on := 3, ground := .data }], guard := none }) ?_
 refine wtv 5 (oi := { dst := some 73, op := .move (.tmp 6), type := 27, pos := "l07_store.go:74", after := #[{ on := 4, ground := .guard }], guard := some (4, true) }) ?_
 refine wtv 6 (oi := { dst := some 74, op := .call { callee := .builtin Go.Builtin.len, args := #[.tmp 73], argTypes := #[27] }, type := 3, pos := "l07_store.go:74", after := #[{ on := 5, ground := .data }, { on := 4, ground := .guard }], guard := some (4, true) }) ?_
 refine wtv 7 (oi := { dst := some 75, op := .binOp .eql 3 (.tmp 74) (.const (.int .i64 2)) 3, type := 4, pos := "l07_store.go:74", after := #[{ on := 6, ground := .data }, { on := 4, ground := .guard }], guard := some (4, true) }) ?_
 refine wtv 8 (oi := { dst := some 76, op := .pick (.tmp 72) (.tmp 75) (.const (.bool false)), type := 4, pos := "l07_store.go:74", after := #[{ on := 4, ground := .data }, { on := 7, ground := .data }], guard := none }) ?_
 refine wtv 9 (oi := { dst := some 77, op := .move (.tmp 76), type := 4, pos := "l07_store.go:74", after := #[{ on := 8, ground := .data }, { on := 4, ground := .chain }], guard := none }) ?_
 refine wtv 10 (oi := { dst := some 78, op := .move (.tmp 8), type := 72, pos := "l07_store.go:74", after := #[{ on := 9, ground := .guard }], guard := some (9, true) }) ?_
 refine wtv 11 (oi := { dst := some 79, op := .call { callee := .builtin Go.Builtin.len, args := #[.tmp 78], argTypes := #[72] }, type := 3, pos := "l07_store.go:74", after := #[{ on := 10, ground := .data }, { on := 9, ground := .guard }], guard := some (9, true) }) ?_
 refine wtv 12 (oi := { dst := some 80, op := .binOp .eql 3 (.tmp 79) (.const (.int .i64 1)) 3, type := 4, pos := "l07_store.go:74", after := #[{ on := 11, ground := .data }, { on := 9, ground := .guard }], guard := some (9, true) }) ?_
 refine wtv 13 (oi := { dst := some 81, op := .pick (.tmp 77) (.tmp 80) (.const (.bool false)), type := 4, pos := "l07_store.go:74", after := #[{ on := 9, ground := .data }, { on := 12, ground := .data }], guard := none }) ?_
 refine wtv 14 (oi := { dst := some 82, op := .move (.tmp 81), type := 4, pos := "l07_store.go:74", after := #[{ on := 13, ground := .data }, { on := 9, ground := .chain }], guard := none }) ?_
 refine wtv 15 (oi := { dst := some 83, op := .move (.tmp 8), type := 72, pos := "l07_store.go:74", after := #[{ on := 14, ground := .guard }], guard := some (14, true) }) ?_
 refine wtv 16 (oi := { dst := some 84, op := .indexAddr 72 (.tmp 83) (.const (.int .i64 0)), type := 0, pos := "l07_store.go:74", after := #[{ on := 15, ground := .data }, { on := 14, ground := .guard }], guard := some (14, true) }) ?_
 refine wtv 17 (oi := { dst := some 85, op := .load 3 (.tmp 84), type := 3, pos := "l07_store.go:74", after := #[{ on := 16, ground := .data }, { on := 14, ground := .guard }], guard := some (14, true) }) ?_
 refine wtv 18 (oi := { dst := some 86, op := .fieldAddr 25 (.tmp 10) 2, type := 0, pos := "l07_store.go:74", after := #[{ on := 14, ground := .guard }], guard := some (14, true) }) ?_
 refine wtv 19 (oi := { dst := some 87, op := .load 23 (.tmp 86), type := 23, pos := "l07_store.go:74", after := #[{ on := 18, ground := .data }, { on := 14, ground := .guard }], guard := some (14, true) }) ?_
 refine wtv 20 (oi := { dst := some 88, op := .call { callee := .builtin Go.Builtin.len, args := #[.tmp 87], argTypes := #[23] }, type := 3, pos := "l07_store.go:74", after := #[{ on := 19, ground := .data }, { on := 14, ground := .guard }], guard := some (14, true) }) ?_
 refine wtv 21 (oi := { dst := some 89, op := .binOp .sub 3 (.tmp 88) (.const (.int .i64 1)) 3, type := 3, pos := "l07_store.go:74", after := #[{ on := 20, ground := .data }, { on := 14, ground := .guard }], guard := some (14, true) }) ?_
 refine wpAnyH_ready (rs := [22]) (by kernel_rfl) (by simp) ?_
 refine AllReadyH.cons (o := { dst := some 90, op := .call { callee := .value (.func 31), args := #[.tmp 85, .const (.int .i64 0), .tmp 89], argTypes := #[3, 3, 3] }, type := 4, pos := "l07_store.go:74", after := #[{ on := 17, ground := .data }, { on := 21, ground := .data }, { on := 14, ground := .chain }, { on := 14, ground := .guard }], guard := some (14, true) }) rfl (fun K hK => ?_) AllReadyH.nil
 go_simp
 refine (sin (c0 : Int) 0 ((n : Int) - 1) _).mono ?_
 rintro e w4 ⟨rfl, rfl⟩
 rw [hx]
 go_wp2_with fail
 refine hK.out _ _ ?_ (fun hHeld22 => ?_)
 ·exact k14
 clear hK K
 try simp only [Act.put, qqA, qqB, qqC]
 refine wtv 23 (oi := { dst := some 91, op := .pick (.tmp 82) (.tmp 90) (.const (.bool false)), type := 4, pos := "l07_store.go:74", after := #[{ on := 14, ground := .data }, { on := 22, ground := .data }], guard := none }) ?_
 refine wtv 24 (oi := { dst := some 67, op := .assign (.tmp 91), type := 4, pos := "l07_store.go:74", after := #[{ on := 23, ground := .data }, { on := 22, ground := .chain }], guard := none }) ?_
 refine wpAnyH_done (by kernel_rfl) ?_ _
 go_wp2_with fail
 refine wp_region_held_drew (S := fun w' => w'.cell? ⟨bn, on, none⟩ = some (.int .i64 (c0 : Int))) (by kernel_rfl) kn0 (fun hHeld => ?_)
 generalize (w3.alloc (.cells #[.int .i64 tm, .int .i64 vt, .slice (some ⟨g3, 0, none⟩) n c3] 25)).drew.drew = v4 at P4 B4 Z4 O4 hvz hFA hfar hbz hHeld ⊢
 refine wtv 0 (oi := { dst := some 92, op := .fieldAddr 25 (.tmp 10) 2, type := 0, pos := "l07_store.go:75", after := #[], guard := none }) ?_
 refine wtv 2 (oi := { dst := some 94, op := .move (.tmp 8), type := 72, pos := "l07_store.go:75", after := #[], guard := none }) ?_
 refine wtv 3 (oi := { dst := some 95, op := .indexAddr 72 (.tmp 94) (.const (.int .i64 0)), type := 0, pos := "l07_store.go:75", after := #[{ on := 2, ground := .data }], guard := none }) ?_
 refine wtv 4 (oi := { dst := some 96, op := .load 3 (.tmp 95), type := 3, pos := "l07_store.go:75", after := #[{ on := 3, ground := .data }], guard := none }) ?_
 refine wpAnyH_ready (rs := [1]) (by kernel_rfl) (by simp) ?_
 refine AllReadyH.cons (o := { dst := some 93, op := .load 23 (.tmp 92), type := 23, pos := "l07_store.go:75", after := #[{ on := 0, ground := .data }], guard := none }) rfl (fun K hK => ?_) AllReadyH.nil
 have kq := (unhide P4).S
 have kqf := (unhide P4).F
 go_simp
 refine hK.out _ _ ?_ (fun hHeld1 => ?_)
 ·exact hHeld
 clear hK K
 try simp only [Act.put, qqA, qqB, qqC]
 refine wtv 5 (oi := { dst := some 97, op := .slice 23 (.tmp 93) none (some (.tmp 96)) none, type := 23, pos := "l07_store.go:75", after := #[{ on := 1, ground := .data }, { on := 4, ground := .data }], guard := none }) ?_
 refine wtv 6 (oi := { dst := some 98, op := .fieldAddr 25 (.tmp 10) 2, type := 0, pos := "l07_store.go:75", after := #[{ on := 0, ground := .phase }, { on := 1, ground := .phase }, { on := 2, ground := .phase }, { on := 3, ground := .phase }, { on := 4, ground := .phase }, { on := 5, ground := .phase }], guard := none }) ?_
 refine wpAnyH_ready (rs := [7]) (by kernel_rfl) (by simp) ?_
 refine AllReadyH.cons (o := { dst := none, op := .store 23 (.tmp 98) (.tmp 97), type := 0, pos := "l07_store.go:75", after := #[{ on := 6, ground := .data }, { on := 5, ground := .data }, { on := 0, ground := .phase }, { on := 1, ground := .phase }, { on := 2, ground := .phase }, { on := 3, ground := .phase }, { on := 4, ground := .phase }, { on := 5, ground := .phase }], guard := none }) rfl (fun K hK => ?_) AllReadyH.nil
 go_simp
 rw [← hvz]
 refine hK.out _ _ ?_ (fun hHeld7 => ?_)
 ·exact (World.cell?_of_block (a := ⟨bn, on, none⟩) (hfar bn hbnp)).trans hHeld
 clear hK K
 try simp only [Act.put, qqA, qqB, qqC]
 refine wpAnyH_done (by kernel_rfl) ?_ _
 have np : (Value.slice (some ⟨g3, 0, none⟩) n c3).ownBlock ≠ some w3.heap.size := fun h => by have e : g3 = w3.heap.size := Option.some.inj h; omega
 have P5 := hide hFA.drew
 have Z5 := hide ((unhide Z4).keep hbz.size (hfar _ (by omega))).drew
 have B5 := hide ((unhide B4).trans (hbz.mono (by omega))).drew
 have O5' := own_take (k := c0) (own_far (unhide O4) hfar np) (by omega)
 rw [← cE_take] at O5'
 have O5 := hide ((heldZ_of O5').below (Below.refl _ _).drew (Nat.le_refl _)).own
 have k5 := hFA.S
 clear hvz hFA hfar hbz P4 B4 Z4 O4 O5' kq kqf
 go_wp2_with fail
 refine wp_region_held_drew (S := fun w' => ∀ o, w'.cell? ⟨w3.heap.size, o, none⟩ = (#[.int .i64 tm, .int .i64 vt, .slice (some ⟨g3, 0, none⟩) c0 c3] : Array Value)[o]?) (by kernel_rfl) k5 (fun hHeld => ?_)
 generalize v5.drew = v6 at P5 B5 Z5 O5 hHeld ⊢
 refine wtv 0 (oi := { dst := some 126, op := .load 25 (.tmp 10), type := 25, pos := "l07_store.go:81", after := #[], guard := none }) ?_
 refine wtv 1 (oi := { dst := some 127, op := .load 25 (.tmp 10), type := 25, pos := "l07_store.go:81", after := #[], guard := none }) ?_
 refine wpAnyH_ready (rs := [2]) (by kernel_rfl) (by simp) ?_
 refine AllReadyH.cons (o := { dst := some 128, op := .call { callee := .value (.func 16), args := #[.tmp 127], argTypes := #[25] }, type := 4, pos := "l07_store.go:81", after := #[{ on := 1, ground := .data }], guard := none }) rfl (fun K hK => ?_) AllReadyH.nil
 go_simp
 refine (sstateok tm vt (some ⟨g3, 0, none⟩) c3 c0 (l.take c0) hN' (by omega) HSZ R HRR _ (rowZ_at (unhide O5))).mono ?_
 rintro e v7 ⟨rfl, hb7⟩
 have P7 := hide ((unhide P5).below hb7)
 have Z7 := hide ((unhide Z5).below hb7)
 have B7 := hide ((unhide B5).trans (hb7.mono (unhide B5).size))
 have O7 := hide ((heldZ_of (unhide O5)).below hb7 (Nat.le_refl _)).own
 clear hb7 P5 B5 Z5 O5
 go_wp2_with fail
 refine hK.out _ _ ?_ (fun hHeld2 => ?_)
 ·exact (unhide P7).S
 clear hK K
 try simp only [Act.put, qqA, qqB, qqC]
 refine wpAnyH_ready (rs := [3]) (by kernel_rfl) (by simp) ?_
 refine AllReadyH.cons (o := { dst := none, op := .store 25 (.tmp 4) (.tmp 126), type := 0, pos := "l07_store.go:81", after := #[{ on := 0, ground := .data }, { on := 2, ground := .chain }, { on := 0, ground := .phase }, { on := 1, ground := .textOnly Go.Departure.lateStores }, { on := 2, ground := .textOnly Go.Departure.lateStoresUnsure }], guard := none }) rfl (fun K hK => ?_) AllReadyH.nil
 have kz := (unhide Z7).S
 have kzf := (unhide Z7).F
 obtain ⟨wz, hvz, hFZ, hbz⟩ := put3 v7 (unhide Z7) (.int .i64 tm) (.int .i64 vt) (.slice (some ⟨g3, 0, none⟩) c0 c3)
 have hfz : ∀ k, k ≠ w.heap.size + 1 → wz.heap[k]? = v7.heap[k]? := fun k hk => by rw [hvz]; iterate 3 rw [Below.heap_setCell _ _ _ _ hk]
 go_simp
 rw [← hvz]
 refine hK.out _ _ ?_ (fun hHeld3 => ?_)
 ·exact ((unhide P7).keep (by have := hbz.size; exact this) (hfz w3.heap.size (by omega))).S
 clear hK K
 try simp only [Act.put, qqA, qqB, qqC]
 refine wtv 4 (oi := { dst := some 5, op := .assign (.tmp 128), type := 4, pos := "l07_store.go:81", after := #[{ on := 2, ground := .data }, { on := 3, ground := .chain }, { on := 0, ground := .phase }, { on := 1, ground := .phase }, { on := 2, ground := .phase }, { on := 3, ground := .phase }], guard := none }) ?_
 refine wpAnyH_done (by kernel_rfl) ?_ _
 have kf := hFZ.S
 have OZ := hide (own_far (unhide O7) hfz nz)
 have BZ := hide ((unhide B7).trans (hbz.mono (Nat.le_succ _)))
 clear hvz hfz hbz kz kzf
 go_wp2_with fail
 refine bodyPost_ret (v := .tuple #[.agg #[.int .i64 tm, .int .i64 vt, .slice (some ⟨g3, 0, none⟩) c0 c3], .bool R]) (by simp [results, Tryd.results27, go_sem, kf]) rfl ⟨⟨_, rfl, unhide OZ⟩, unhide BZ⟩
end Go.Proofs.YtamjljhbnhdgdaaDoor
