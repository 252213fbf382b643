/- (State).after of a cut, of an entry, and of none of the three kinds: what the program answers. -/
import Derived.Test.YtamjljhbnhdgdaaDoorZG10
namespace Go.Proofs.YtamjljhbnhdgdaaDoor
open Go.ChangeShapes Go.WideShapes Go.ChangeAt Go.RowKit
set_option linter.unusedVariables false
abbrev oAftU0 : Oper := { dst := some 34, op := .load 115 (.tmp 6), type := 115, pos := "l07_store.go:147", after := #[], guard := none }
abbrev oAftU1 : Oper := { dst := some 35, op := .call { callee := .value (.func 53), args := #[.tmp 34, .const (.string { data := #[99] }), .const (.int .i64 1), .const (.int .i64 0)], argTypes := #[115, 9, 3, 3] }, type := 4, pos := "l07_store.go:147", after := #[{ on := 0, ground := .data }], guard := none }
abbrev oAftU2 : Oper := { dst := some 36, op := .move (.tmp 35), type := 4, pos := "l07_store.go:147", after := #[{ on := 1, ground := .data }, { on := 1, ground := .chain }], guard := none }
abbrev oAftU3 : Oper := { dst := some 37, op := .fieldAddr 115 (.tmp 6) 1, type := 0, pos := "l07_store.go:147", after := #[{ on := 2, ground := .guard }], guard := some (2, true) }
abbrev oAftU4 : Oper := { dst := some 38, op := .load 72 (.tmp 37), type := 72, pos := "l07_store.go:147", after := #[{ on := 3, ground := .data }, { on := 2, ground := .guard }], guard := some (2, true) }
abbrev oAftU5 : Oper := { dst := some 39, op := .indexAddr 72 (.tmp 38) (.const (.int .i64 0)), type := 0, pos := "l07_store.go:147", after := #[{ on := 4, ground := .data }, { on := 2, ground := .guard }], guard := some (2, true) }
abbrev oAftU6 : Oper := { dst := some 40, op := .load 3 (.tmp 39), type := 3, pos := "l07_store.go:147", after := #[{ on := 5, ground := .data }, { on := 2, ground := .guard }], guard := some (2, true) }
abbrev oAftU7 : Oper := { dst := some 41, op := .fieldAddr 25 (.tmp 2) 2, type := 0, pos := "l07_store.go:147", after := #[{ on := 2, ground := .guard }], guard := some (2, true) }
abbrev oAftU8 : Oper := { dst := some 42, op := .load 23 (.tmp 41), type := 23, pos := "l07_store.go:147", after := #[{ on := 7, ground := .data }, { on := 2, ground := .guard }], guard := some (2, true) }
abbrev oAftU9 : Oper := { dst := some 43, op := .call { callee := .builtin Go.Builtin.len, args := #[.tmp 42], argTypes := #[23] }, type := 3, pos := "l07_store.go:147", after := #[{ on := 8, ground := .data }, { on := 2, ground := .guard }], guard := some (2, true) }
abbrev oAftU10 : Oper := { dst := some 44, op := .binOp .sub 3 (.tmp 43) (.const (.int .i64 1)) 3, type := 3, pos := "l07_store.go:147", after := #[{ on := 9, ground := .data }, { on := 2, ground := .guard }], guard := some (2, true) }
abbrev oAftU11 : Oper := { dst := some 45, op := .call { callee := .value (.func 24), args := #[.tmp 40, .const (.int .i64 0), .tmp 44], argTypes := #[3, 3, 3] }, type := 4, pos := "l07_store.go:147", after := #[{ on := 6, ground := .data }, { on := 10, ground := .data }, { on := 2, ground := .chain }, { on := 2, ground := .guard }], guard := some (2, true) }
abbrev oAftU12 : Oper := { dst := some 46, op := .pick (.tmp 36) (.tmp 45) (.const (.bool false)), type := 4, pos := "l07_store.go:147", after := #[{ on := 2, ground := .data }, { on := 11, ground := .data }], guard := none }
abbrev oAftU13 : Oper := { dst := some 33, op := .assign (.tmp 46), type := 4, pos := "l07_store.go:147", after := #[{ on := 12, ground := .data }, { on := 11, ground := .chain }], guard := none }
abbrev oAftU14 : Oper := { dst := some 13, op := .build 25 #[], type := 25, pos := "l07_store.go:152", after := #[], guard := none }
abbrev oAftU15 : Oper := { dst := some 14, op := .load 51 (.global 2), type := 51, pos := "l07_store.go:152", after := #[{ on := 2, ground := .gcOnly Go.Departure.lateStores }], guard := none }
abbrev oAftU16 : Oper := { dst := none, op := .store 25 (.tmp 4) (.tmp 13), type := 0, pos := "l07_store.go:152", after := #[{ on := 0, ground := .data }, { on := 0, ground := .phase }, { on := 1, ground := .textOnly Go.Departure.lateStores }], guard := none }
abbrev oAftU17 : Oper := { dst := some 5, op := .assign (.tmp 14), type := 51, pos := "l07_store.go:152", after := #[{ on := 1, ground := .data }, { on := 2, ground := .chain }, { on := 0, ground := .phase }, { on := 1, ground := .phase }, { on := 2, ground := .phase }], guard := none }
abbrev oAftU18 : Oper := { dst := some 59, op := .load 23 (.tmp 58), type := 23, pos := "l07_store.go:150", after := #[{ on := 0, ground := .data }], guard := none }
abbrev oAftU19 : Oper := { dst := some 69, op := .buildSlice 23 1 #[(0, .tmp 68)], type := 23, pos := "l07_store.go:150", after := #[{ on := 10, ground := .data }], guard := none }
abbrev oAftU20 : Oper := { dst := some 70, op := .call { callee := .builtin Go.Builtin.append, args := #[.tmp 59, .tmp 69], argTypes := #[23, 23] }, type := 23, pos := "l07_store.go:150", after := #[{ on := 1, ground := .data }, { on := 11, ground := .data }], guard := none }
abbrev oAftU21 : Oper := { dst := some 71, op := .fieldAddr 25 (.tmp 2) 2, type := 0, pos := "l07_store.go:150", after := #[{ on := 0, ground := .phase }, { on := 1, ground := .phase }, { on := 2, ground := .phase }, { on := 3, ground := .phase }, { on := 4, ground := .phase }, { on := 5, ground := .phase }, { on := 6, ground := .phase }, { on := 7, ground := .phase }, { on := 8, ground := .phase }, { on := 9, ground := .phase }, { on := 10, ground := .phase }, { on := 11, ground := .phase }, { on := 12, ground := .phase }], guard := none }
abbrev oAftU22 : Oper := { dst := none, op := .store 23 (.tmp 71) (.tmp 70), type := 0, pos := "l07_store.go:150", after := #[{ on := 13, ground := .data }, { on := 12, ground := .data }, { on := 12, ground := .chain }, { on := 0, ground := .phase }, { on := 1, ground := .phase }, { on := 2, ground := .phase }, { on := 3, ground := .phase }, { on := 4, ground := .phase }, { on := 5, ground := .phase }, { on := 6, ground := .phase }, { on := 7, ground := .phase }, { on := 8, ground := .phase }, { on := 9, ground := .phase }, { on := 10, ground := .phase }, { on := 11, ground := .phase }, { on := 12, ground := .phase }], guard := none }
theorem own_ne {w : World} {base : Nat} {e : TypeId} {a : Option Addr} {m cap : Nat} {l : List (Int × ByteArray)} (h : w.ownsRow base e 2 (.slice a m cap) m (cE l)) (hm : 0 < m) {p : Nat} {u0 u1 : Int} {u2 : Value} (hp : BF p #[.int .i64 u0, .int .i64 u1, u2] w) : (Value.slice a m cap).ownBlock ≠ some p := by
 intro hb
 have hl : l.length * 2 = m * 2 := by have := h.1; rw [cE_len] at this; exact this
 rcases h.2 with ⟨_, h0⟩ | ⟨g, cap', cur, hv, hbg, hg, hnc, hcm, hcs, htake⟩
 ·rw [h0] at hm; omega
 ·have hv2 : (Value.slice a m cap) = .slice (some ⟨g, 0, none⟩) m cap' := hv
  rw [hv2] at hb
  have e1 : g = p := Option.some.inj hb
  subst e1
  have hr : RowV w (some ⟨g, 0, none⟩) (cE l) := rowZ_at (z := 2) (base := base) (e := e) (n := m) (cap := cap') (by rw [hv2] at h; exact h)
  obtain ⟨b, off, ha, -, hc⟩ := hr.at (by rw [cE_len]; omega)
  obtain ⟨rfl, rfl⟩ : b = g ∧ off = 0 := by injection ha with ha; injection ha with h1 h2; exact ⟨h1.symm, h2.symm⟩
  have h1 := (row_ent hc 0 (by omega)).2
  have h2 := hp.S 1
  simp at h1 h2
  rw [h1] at h2
  cases h2
theorem own_far {w w' : World} {base : Nat} {e : TypeId} {z : Nat} {v : Value} {n : Nat} {xs : List Value} {p : Nat} (h : w.ownsRow base e z v n xs) (hf : ∀ k, k ≠ p → w'.heap[k]? = w.heap[k]?) (hne : v.ownBlock ≠ some p) : w'.ownsRow base e z v n xs := by
 obtain ⟨h1, h2⟩ := h
 refine ⟨h1, ?_⟩
 rcases h2 with h2 | ⟨g, cap, cur, rfl, hbg, hg, hrest⟩
 ·exact .inl h2
 ·exact .inr ⟨g, cap, cur, rfl, hbg, (hf g (fun e => hne (by rw [e]; rfl))).trans hg, hrest⟩
theorem grown_low {w w' w'' : World} {row : Option Nat} {B : Nat} (h : w.grownBy w' row) (hb : Below B w' w'') (hB : w.heap.size ≤ B) : w.grownBy w'' row :=
 ⟨hb.os.trans h.os, hb.tape.trans h.tape, hb.output.trans h.output, Nat.le_trans h.size hb.size, fun k hk hr => (hb.block k (by omega)).trans (h.block k hk hr)⟩
theorem put1 {p : Nat} {u0 u1 u2 : Value} (w : World) (h : BF p #[u0, u1, u2] w) (v : Value) :
  ∃ w', w' = w.setCell ⟨p, 2, none⟩ v ∧ BF p #[u0, u1, v] w' ∧ (∀ k, k ≠ p → w'.heap[k]? = w.heap[k]?) ∧ Below p w w' := by
 refine ⟨_, rfl, h.set 2 (by simp) v, fun k hk => Below.heap_setCell _ _ _ _ hk, ?_⟩
 exact Below.setCell (Below.refl _ _) (by exact Nat.le_refl _) _
theorem put3 {p : Nat} {u0 u1 u2 : Value} (w : World) (h : BF p #[u0, u1, u2] w) (v0 v1 v2 : Value) :
  ∃ w', w' = ((w.setCell ⟨p, 0, none⟩ v0).setCell ⟨p, 1, none⟩ v1).setCell ⟨p, 2, none⟩ v2 ∧ BF p #[v0, v1, v2] w' ∧ Below p w w' := by
 refine ⟨_, rfl, ?_, ?_⟩
 ·have q1 : BF p #[v0, u1, u2] _ := h.set 0 (by simp) v0
  have q2 : BF p #[v0, v1, u2] _ := q1.set 1 (by simp) v1
  exact q2.set 2 (by simp) v2
 ·iterate 3 refine Below.setCell ?_ (by exact Nat.le_refl _) _
  exact Below.refl _ _
set_option maxHeartbeats 4000000 in
set_option maxRecDepth 100000 in
theorem iafter_no (tm vt : Int) (a : Option Addr) (cap n : Nat) (hn : n ≤ 1048576) (t : ByteArray) (ht : t.size ≤ 65536) (HF : Hid (∀ m, rfOf t.data.toList = some m → ∀ k (hk : k < m.length), m[k].size ≤ 20000)) (f : ByteArray) (L : List Int) (r : List ByteArray) (kn kp : Nat) (hkn : kn ≤ 65536) (hkp : kp ≤ 65536) (HKN : Hid (L.length = kn)) (HKP : Hid (r.length = kp)) (H : Hid (recP t = some (f, L, r))) (HT : Hid (false = (decide (f = ⟨#[116]⟩) && decide (kn = 2) && decide (kp = 0)))) (HC : Hid (false = (decide (f = ⟨#[99]⟩) && decide (kn = 1) && decide (kp = 0)))) (HEE : Hid (false = (decide (f = ⟨#[101]⟩) && decide (kn = 1) && decide (kp = 1)))) {x0 x1 x2 x3 x4 : Addr} (w : World) (hE : ErrsIn w) (hS : StE w x0 x1 x2 x3 x4) :
  Calls Tryd.prog 41 #[.agg #[.int .i64 tm, .int .i64 vt, .slice a n cap], .string t] w fun e w' => e = .returned (.tuple #[.agg #[.int .i64 0, .int .i64 0, .slice none 0 0], .iface 145 (.pointer (some x0))]) ∧ Below w.heap.size w w' := by
 have HSS := hide hS
 clear hS
 have B0 := hide (Go.Joins.below_alloc2 w (.cells #[.int .i64 tm, .int .i64 vt, .slice a n cap] 25) (.cells #[.int .i64 0, .int .i64 0, .slice none 0 0] 25))
 have A0 := hide ((BF.new w #[.int .i64 tm, .int .i64 vt, .slice a n cap] 25).alloc (.cells #[.int .i64 0, .int .i64 0, .slice none 0 0] 25))
 have Z0 := hide (BF.new (w.alloc (.cells #[.int .i64 tm, .int .i64 vt, .slice a n cap] 25)) #[.int .i64 0, .int .i64 0, .slice none 0 0] 25)
 rw [show (w.alloc (.cells #[.int .i64 tm, .int .i64 vt, .slice a n cap] 25)).heap.size = w.heap.size + 1 from by simp] at Z0
 have T := irec_some t f L r ht HF H kn kp HKN HKP _ (hE.below (unhide B0))
 clear hE
 go_enter Tryd.func41, Tryd.ntmps41
 go_wp2_with fail
 refine T.mono ?_
 clear T
 rintro e w1 ⟨ai, ci, ar, cr, rfl, hi1, hr1, hgi, hgr, hb1⟩
 have hz2 : ((w.alloc (.cells #[.int .i64 tm, .int .i64 vt, .slice a n cap] 25)).alloc (.cells #[.int .i64 0, .int .i64 0, .slice none 0 0] 25)).heap.size = w.heap.size + 2 := by simp
 rw [hz2] at hgi hgr
 clear hz2
 have B1 := hide ((unhide B0).trans (hb1.mono (unhide B0).size))
 have A1 := hide ((unhide A0).below hb1)
 have Z1 := hide ((unhide Z0).below hb1)
 have hlt : Hid (w.heap.size + 1 < w1.heap.size) := (unhide Z1).lt
 have RW := hide (BF.new w1 #[.string f, .slice ai kn ci, .slice ar kp cr] 115)
 have BW := hide ((unhide B1).alloc (unhide B1).size (.cells #[.string f, .slice ai kn ci, .slice ar kp cr] 115))
 have AW := hide ((unhide A1).alloc (.cells #[.string f, .slice ai kn ci, .slice ar kp cr] 115))
 have ZW := hide ((unhide Z1).alloc (.cells #[.string f, .slice ai kn ci, .slice ar kp cr] 115))
 have IW := hide (hi1.below ((Below.refl _ _).alloc (Nat.le_refl _) (.cells #[.string f, .slice ai kn ci, .slice ar kp cr] 115)))
 have HW := hide (hr1.below ((Below.refl _ _).alloc (Nat.le_refl _) (.cells #[.string f, .slice ai kn ci, .slice ar kp cr] 115)))
 clear B0 A0 Z0 hb1 hi1 hr1 A1 Z1 B1
 have kr0 := (unhide RW).S
 go_wp2_with fail
 refine (iis_rec f ⟨#[116]⟩ ai kn ci ar kp cr 2 0 (by omega) (by omega) false HT _).mono ?_
 rintro e w2 ⟨rfl, hb2⟩
 have B2 := hide ((unhide BW).trans (hb2.mono (unhide BW).size))
 have A2 := hide ((unhide AW).below hb2)
 have Z2 := hide ((unhide ZW).below hb2)
 have R2 := hide ((unhide RW).below hb2)
 have I2 := hide ((unhide IW).below hb2)
 have H2 := hide ((unhide HW).below hb2)
 clear BW AW ZW RW IW HW hb2
 clear kr0
 have k2 : (∀ o, w2.cell? ⟨w1.heap.size, o, none⟩ = (#[.string f, .slice ai kn ci, .slice ar kp cr] : Array Value)[o]?) ∧ (∀ o, w2.cell? ⟨w.heap.size, o, none⟩ = (#[.int .i64 tm, .int .i64 vt, .slice a n cap] : Array Value)[o]?) ∧ True := ⟨(unhide R2).S, (unhide A2).S, trivial⟩
 go_wp2_with fail
 refine wp_region_held_drew (S := fun w' => (∀ o, w'.cell? ⟨w1.heap.size, o, none⟩ = (#[.string f, .slice ai kn ci, .slice ar kp cr] : Array Value)[o]?) ∧ (∀ o, w'.cell? ⟨w.heap.size, o, none⟩ = (#[.int .i64 tm, .int .i64 vt, .slice a n cap] : Array Value)[o]?) ∧ True) (by kernel_rfl) k2 (fun hHeld => ?_)
 refine wtv 0 (oi := oAftU0) ?_
 refine wpAnyH_ready (rs := [1]) (by kernel_rfl) (by simp) ?_
 refine AllReadyH.cons (o := oAftU1) rfl (fun K hK => ?_) AllReadyH.nil
 have B2d := hide (unhide B2).drew
 have A2d := hide (unhide A2).drew
 have Z2d := hide (unhide Z2).drew
 have R2d := hide (unhide R2).drew
 have I2d := hide ((unhide I2).below (Below.refl _ _).drew)
 have H2d := hide ((unhide H2).below (Below.refl _ _).drew)
 go_simp
 refine (iis_rec f ⟨#[99]⟩ ai kn ci ar kp cr 1 0 (by omega) (by omega) false HC _).mono ?_
 rintro e w3 ⟨rfl, hb3⟩
 have B3 := hide ((unhide B2d).trans (hb3.mono (unhide B2d).size))
 have A3 := hide ((unhide A2d).below hb3)
 have Z3 := hide ((unhide Z2d).below hb3)
 have R3 := hide ((unhide R2d).below hb3)
 have I3 := hide ((unhide I2d).below hb3)
 have H3 := hide ((unhide H2d).below hb3)
 have k3 : (∀ o, w3.cell? ⟨w1.heap.size, o, none⟩ = (#[.string f, .slice ai kn ci, .slice ar kp cr] : Array Value)[o]?) ∧ (∀ o, w3.cell? ⟨w.heap.size, o, none⟩ = (#[.int .i64 tm, .int .i64 vt, .slice a n cap] : Array Value)[o]?) ∧ True := ⟨(unhide R3).S, (unhide A3).S, trivial⟩
 clear hb3 B2 A2 Z2 R2 I2 H2 B2d A2d Z2d R2d I2d H2d
 go_wp2_with fail
 refine hK.out _ _ ?_ (fun hHeld1 => ?_)
 ·exact k3
 clear hK K
 try simp only [Act.put, qqA, qqB, qqC]
 refine wtv 2 (oi := oAftU2) ?_
 refine wtu 3 (oi := oAftU3) ?_
 refine wtu 4 (oi := oAftU4) ?_
 refine wtu 5 (oi := oAftU5) ?_
 refine wtu 6 (oi := oAftU6) ?_
 refine wtu 7 (oi := oAftU7) ?_
 refine wtu 8 (oi := oAftU8) ?_
 refine wtu 9 (oi := oAftU9) ?_
 refine wtu 10 (oi := oAftU10) ?_
 refine wtu 11 (oi := oAftU11) ?_
 refine wtv 12 (oi := oAftU12) ?_
 refine wtv 13 (oi := oAftU13) ?_
 refine wpAnyH_done (by kernel_rfl) ?_ _
 clear k2
 have kr3 := (unhide R3).S
 go_wp2_with fail
 refine (iis_rec f ⟨#[101]⟩ ai kn ci ar kp cr 1 1 (by omega) (by omega) false HEE _).mono ?_
 rintro e w5 ⟨rfl, hb5⟩
 have B5 := hide ((unhide B3).trans (hb5.mono (unhide B3).size))
 have Z5 := hide ((unhide Z3).below hb5)
 have kg := ((unhide HSS).below (unhide B5)).g0
 have hG : 2 < w.heap.size := World.block_lt_of_cell? w _ (unhide HSS).g0
 have kz := (unhide Z5).drew.S
 have kzf := (unhide Z5).drew.F
 have B5d := hide (unhide B5).drew
 obtain ⟨wz, hvz, hFZ, hbz⟩ := put3 w5.drew (unhide Z5).drew (.int .i64 0) (.int .i64 0) (.slice none 0 0)
 clear hb5 B3 A3 Z3 R3 I3 H3 kr3 k3
 go_wp2_with fail
 refine wp_region_held_drew (S := fun w' => w'.cell? ⟨2, 0, none⟩ = some (.iface 145 (.pointer (some x0)))) (by kernel_rfl) kg (fun hHeld => ?_)
 generalize w5.drew = v5 at kz kzf hvz hbz B5d hHeld ⊢
 refine wtv 0 (oi := oAftU14) ?_
 refine wtv 1 (oi := oAftU15) ?_
 refine wpAnyH_ready (rs := [2]) (by kernel_rfl) (by simp) ?_
 refine AllReadyH.cons (o := oAftU16) rfl (fun K hK => ?_) AllReadyH.nil
 go_simp
 rw [← hvz]
 refine hK.out _ _ ?_ (fun hHeld2 => ?_)
 ·exact (hbz.cell (p := ⟨2, 0, none⟩) (Nat.lt_succ_of_lt hG)).trans hHeld
 clear hK K
 try simp only [Act.put, qqA, qqB, qqC]
 refine wtv 3 (oi := oAftU17) ?_
 refine wpAnyH_done (by kernel_rfl) ?_ _
 clear kz kzf kg
 have kz := hFZ.S
 go_wp2_with fail
 refine bodyPost_ret (v := .tuple #[.agg #[.int .i64 0, .int .i64 0, .slice none 0 0], .iface 145 (.pointer (some x0))]) (by simp [results, Tryd.results41, go_sem, kz]) rfl ⟨rfl, ?_⟩
 exact (unhide B5d).trans (hbz.mono (by omega))
set_option maxHeartbeats 4000000 in
set_option maxRecDepth 100000 in
theorem iafter_nocut (tm vt : Int) (a : Option Addr) (cap n : Nat) (hn : n ≤ 1048576) (t : ByteArray) (ht : t.size ≤ 65536) (HF : Hid (∀ m, rfOf t.data.toList = some m → ∀ k (hk : k < m.length), m[k].size ≤ 20000)) (x : Int) (H : Hid (recP t = some (⟨#[99]⟩, [x], []))) (HX : Hid (false = inB x 0 ((n : Int) - 1))) {x0 x1 x2 x3 x4 : Addr} (w : World) (hE : ErrsIn w) (hS : StE w x0 x1 x2 x3 x4) :
  Calls Tryd.prog 41 #[.agg #[.int .i64 tm, .int .i64 vt, .slice a n cap], .string t] w fun e w' => e = .returned (.tuple #[.agg #[.int .i64 0, .int .i64 0, .slice none 0 0], .iface 145 (.pointer (some x0))]) ∧ Below w.heap.size w w' := by
 have HSS := hide hS
 clear hS
 have e1 : IntKind.i64.wrap ((n : Int) - 1) = (n : Int) - 1 := wrapi _ (by omega) (by omega)
 have B0 := hide (Go.Joins.below_alloc2 w (.cells #[.int .i64 tm, .int .i64 vt, .slice a n cap] 25) (.cells #[.int .i64 0, .int .i64 0, .slice none 0 0] 25))
 have A0 := hide ((BF.new w #[.int .i64 tm, .int .i64 vt, .slice a n cap] 25).alloc (.cells #[.int .i64 0, .int .i64 0, .slice none 0 0] 25))
 have Z0 := hide (BF.new (w.alloc (.cells #[.int .i64 tm, .int .i64 vt, .slice a n cap] 25)) #[.int .i64 0, .int .i64 0, .slice none 0 0] 25)
 rw [show (w.alloc (.cells #[.int .i64 tm, .int .i64 vt, .slice a n cap] 25)).heap.size = w.heap.size + 1 from by simp] at Z0
 have T := irec_some t ⟨#[99]⟩ [x] [] ht HF H 1 0 rfl rfl _ (hE.below (unhide B0))
 clear hE
 go_enter Tryd.func41, Tryd.ntmps41
 go_wp2_with fail
 refine T.mono ?_
 clear T
 rintro e w1 ⟨ai, ci, ar, cr, rfl, hi1, hr1, hgi, hgr, hb1⟩
 have hz2 : ((w.alloc (.cells #[.int .i64 tm, .int .i64 vt, .slice a n cap] 25)).alloc (.cells #[.int .i64 0, .int .i64 0, .slice none 0 0] 25)).heap.size = w.heap.size + 2 := by simp
 rw [hz2] at hgi hgr
 clear hz2
 have B1 := hide ((unhide B0).trans (hb1.mono (unhide B0).size))
 have A1 := hide ((unhide A0).below hb1)
 have Z1 := hide ((unhide Z0).below hb1)
 have hlt : Hid (w.heap.size + 1 < w1.heap.size) := (unhide Z1).lt
 have RW := hide (BF.new w1 #[.string ⟨#[99]⟩, .slice ai 1 ci, .slice ar 0 cr] 115)
 have BW := hide ((unhide B1).alloc (unhide B1).size (.cells #[.string ⟨#[99]⟩, .slice ai 1 ci, .slice ar 0 cr] 115))
 have AW := hide ((unhide A1).alloc (.cells #[.string ⟨#[99]⟩, .slice ai 1 ci, .slice ar 0 cr] 115))
 have ZW := hide ((unhide Z1).alloc (.cells #[.string ⟨#[99]⟩, .slice ai 1 ci, .slice ar 0 cr] 115))
 have IW := hide (hi1.below ((Below.refl _ _).alloc (Nat.le_refl _) (.cells #[.string ⟨#[99]⟩, .slice ai 1 ci, .slice ar 0 cr] 115)))
 have HW := hide (hr1.below ((Below.refl _ _).alloc (Nat.le_refl _) (.cells #[.string ⟨#[99]⟩, .slice ai 1 ci, .slice ar 0 cr] 115)))
 clear B0 A0 Z0 hb1 hi1 hr1 A1 Z1 B1
 have kr0 := (unhide RW).S
 go_wp2_with fail
 refine (iis_rec ⟨#[99]⟩ ⟨#[116]⟩ ai 1 ci ar 0 cr 2 0 (by decide) (by decide) false (by show _ = _; decide) _).mono ?_
 rintro e w2 ⟨rfl, hb2⟩
 have B2 := hide ((unhide BW).trans (hb2.mono (unhide BW).size))
 have A2 := hide ((unhide AW).below hb2)
 have Z2 := hide ((unhide ZW).below hb2)
 have R2 := hide ((unhide RW).below hb2)
 have I2 := hide ((unhide IW).below hb2)
 have H2 := hide ((unhide HW).below hb2)
 clear BW AW ZW RW IW HW hb2
 clear kr0
 obtain ⟨b, off, rfl, hblt, hcel⟩ := (unhide I2).at (by simp [cI])
 have hb9 : w.heap.size + 2 ≤ b := hgi _ rfl
 have kx : w2.cell? ⟨b, off, none⟩ = some (.int .i64 x) := hcel 0 _ (by simp [cI])
 have HBL := hide hblt
 clear hcel hblt
 have k2 : (∀ o, w2.cell? ⟨w1.heap.size, o, none⟩ = (#[.string ⟨#[99]⟩, .slice (some ⟨b, off, none⟩) 1 ci, .slice ar 0 cr] : Array Value)[o]?) ∧ (∀ o, w2.cell? ⟨w.heap.size, o, none⟩ = (#[.int .i64 tm, .int .i64 vt, .slice a n cap] : Array Value)[o]?) ∧ w2.cell? ⟨b, off, none⟩ = some (.int .i64 x) := ⟨(unhide R2).S, (unhide A2).S, kx⟩
 go_wp2_with fail
 refine wp_region_held_drew (S := fun w' => (∀ o, w'.cell? ⟨w1.heap.size, o, none⟩ = (#[.string ⟨#[99]⟩, .slice (some ⟨b, off, none⟩) 1 ci, .slice ar 0 cr] : Array Value)[o]?) ∧ (∀ o, w'.cell? ⟨w.heap.size, o, none⟩ = (#[.int .i64 tm, .int .i64 vt, .slice a n cap] : Array Value)[o]?) ∧ w'.cell? ⟨b, off, none⟩ = some (.int .i64 x)) (by kernel_rfl) k2 (fun hHeld => ?_)
 refine wtv 0 (oi := oAftU0) ?_
 refine wpAnyH_ready (rs := [1]) (by kernel_rfl) (by simp) ?_
 refine AllReadyH.cons (o := oAftU1) rfl (fun K hK => ?_) AllReadyH.nil
 have B2d := hide (unhide B2).drew
 have A2d := hide (unhide A2).drew
 have Z2d := hide (unhide Z2).drew
 have R2d := hide (unhide R2).drew
 have I2d := hide ((unhide I2).below (Below.refl _ _).drew)
 have H2d := hide ((unhide H2).below (Below.refl _ _).drew)
 go_simp
 refine (iis_rec ⟨#[99]⟩ ⟨#[99]⟩ _ 1 ci ar 0 cr 1 0 (by decide) (by decide) true (by show _ = _; decide) _).mono ?_
 rintro e w3 ⟨rfl, hb3⟩
 have B3 := hide ((unhide B2d).trans (hb3.mono (unhide B2d).size))
 have A3 := hide ((unhide A2d).below hb3)
 have Z3 := hide ((unhide Z2d).below hb3)
 have R3 := hide ((unhide R2d).below hb3)
 have I3 := hide ((unhide I2d).below hb3)
 have H3 := hide ((unhide H2d).below hb3)
 have k3 : (∀ o, w3.cell? ⟨w1.heap.size, o, none⟩ = (#[.string ⟨#[99]⟩, .slice (some ⟨b, off, none⟩) 1 ci, .slice ar 0 cr] : Array Value)[o]?) ∧ (∀ o, w3.cell? ⟨w.heap.size, o, none⟩ = (#[.int .i64 tm, .int .i64 vt, .slice a n cap] : Array Value)[o]?) ∧ w3.cell? ⟨b, off, none⟩ = some (.int .i64 x) := ⟨(unhide R3).S, (unhide A3).S, ((below_undrew hb3).cell (p := ⟨b, off, none⟩) (unhide HBL)).trans kx⟩
 clear hb3 B2 A2 Z2 R2 I2 H2 B2d A2d Z2d R2d I2d H2d
 go_wp2_with fail
 refine hK.out _ _ ?_ (fun hHeld1 => ?_)
 ·exact k3
 clear hK K
 try simp only [Act.put, qqA, qqB, qqC]
 refine wtv 2 (oi := oAftU2) ?_
 refine wtv 3 (oi := oAftU3) ?_
 refine wtv 4 (oi := oAftU4) ?_
 refine wtv 5 (oi := oAftU5) ?_
 refine wtv 6 (oi := oAftU6) ?_
 refine wtv 7 (oi := oAftU7) ?_
 refine wtv 8 (oi := oAftU8) ?_
 refine wtv 9 (oi := oAftU9) ?_
 refine wtv 10 (oi := oAftU10) ?_
 refine wpAnyH_ready (rs := [11]) (by kernel_rfl) (by simp) ?_
 refine AllReadyH.cons (o := oAftU11) rfl (fun K hK => ?_) AllReadyH.nil
 go_simp
 refine (iwi x 0 ((n : Int) - 1) false HX _).mono ?_
 rintro e w4 ⟨rfl, rfl⟩
 go_wp2_with fail
 refine hK.out _ _ ?_ (fun hHeld11 => ?_)
 ·exact k3
 clear hK K
 try simp only [Act.put, qqA, qqB, qqC]
 refine wtv 12 (oi := oAftU12) ?_
 refine wtv 13 (oi := oAftU13) ?_
 refine wpAnyH_done (by kernel_rfl) ?_ _
 clear k2 kx
 have kr3 := (unhide R3).S
 go_wp2_with fail
 refine (iis_rec ⟨#[99]⟩ ⟨#[101]⟩ _ 1 ci ar 0 cr 1 1 (by decide) (by decide) false (by show _ = _; decide) _).mono ?_
 rintro e w5 ⟨rfl, hb5⟩
 have B5 := hide ((unhide B3).trans (hb5.mono (unhide B3).size))
 have Z5 := hide ((unhide Z3).below hb5)
 have kg := ((unhide HSS).below (unhide B5)).g0
 have hG : 2 < w.heap.size := World.block_lt_of_cell? w _ (unhide HSS).g0
 have kz := (unhide Z5).drew.S
 have kzf := (unhide Z5).drew.F
 have B5d := hide (unhide B5).drew
 obtain ⟨wz, hvz, hFZ, hbz⟩ := put3 w5.drew (unhide Z5).drew (.int .i64 0) (.int .i64 0) (.slice none 0 0)
 clear hb5 B3 A3 Z3 R3 I3 H3 kr3 k3
 go_wp2_with fail
 refine wp_region_held_drew (S := fun w' => w'.cell? ⟨2, 0, none⟩ = some (.iface 145 (.pointer (some x0)))) (by kernel_rfl) kg (fun hHeld => ?_)
 generalize w5.drew = v5 at kz kzf hvz hbz B5d hHeld ⊢
 refine wtv 0 (oi := oAftU14) ?_
 refine wtv 1 (oi := oAftU15) ?_
 refine wpAnyH_ready (rs := [2]) (by kernel_rfl) (by simp) ?_
 refine AllReadyH.cons (o := oAftU16) rfl (fun K hK => ?_) AllReadyH.nil
 go_simp
 rw [← hvz]
 refine hK.out _ _ ?_ (fun hHeld2 => ?_)
 ·exact (hbz.cell (p := ⟨2, 0, none⟩) (Nat.lt_succ_of_lt hG)).trans hHeld
 clear hK K
 try simp only [Act.put, qqA, qqB, qqC]
 refine wtv 3 (oi := oAftU17) ?_
 refine wpAnyH_done (by kernel_rfl) ?_ _
 clear kz kzf kg
 have kz := hFZ.S
 go_wp2_with fail
 refine bodyPost_ret (v := .tuple #[.agg #[.int .i64 0, .int .i64 0, .slice none 0 0], .iface 145 (.pointer (some x0))]) (by simp [results, Tryd.results41, go_sem, kz]) rfl ⟨rfl, ?_⟩
 exact (unhide B5d).trans (hbz.mono (by omega))
set_option maxHeartbeats 4000000 in
set_option maxRecDepth 100000 in
theorem iafter_cut (tm vt : Int) (ba oa : Nat) (cap n : Nat) (hn : n ≤ 1048576) (hcap : n ≤ cap) (t : ByteArray) (ht : t.size ≤ 65536) (HF : Hid (∀ m, rfOf t.data.toList = some m → ∀ k (hk : k < m.length), m[k].size ≤ 20000)) (c0 : Nat) (hc0 : c0 < n) (H : Hid (recP t = some (⟨#[99]⟩, [(c0 : Int)], []))) (w : World) (hE : ErrsIn w) :
  Calls Tryd.prog 41 #[.agg #[.int .i64 tm, .int .i64 vt, .slice (some ⟨ba, oa, none⟩) n cap], .string t] w fun e w' => e = .returned (.tuple #[.agg #[.int .i64 tm, .int .i64 vt, .slice (some ⟨ba, oa, none⟩) c0 cap], .nilIface]) ∧ Below w.heap.size w w' := by
 have e1 : IntKind.i64.wrap ((n : Int) - 1) = (n : Int) - 1 := wrapi _ (by omega) (by omega)
 have HX : Hid (true = inB (c0 : Int) 0 ((n : Int) - 1)) := by show _ = _; unfold inB; simp; omega
 have i1 : (0 : Int) ≤ (c0 : Int) := by omega
 have i2 : (c0 : Int) ≤ (cap : Int) := by omega
 have B0 := hide (Go.Joins.below_alloc2 w (.cells #[.int .i64 tm, .int .i64 vt, .slice (some ⟨ba, oa, none⟩) n cap] 25) (.cells #[.int .i64 0, .int .i64 0, .slice none 0 0] 25))
 have A0 := hide ((BF.new w #[.int .i64 tm, .int .i64 vt, .slice (some ⟨ba, oa, none⟩) n cap] 25).alloc (.cells #[.int .i64 0, .int .i64 0, .slice none 0 0] 25))
 have Z0 := hide (BF.new (w.alloc (.cells #[.int .i64 tm, .int .i64 vt, .slice (some ⟨ba, oa, none⟩) n cap] 25)) #[.int .i64 0, .int .i64 0, .slice none 0 0] 25)
 rw [show (w.alloc (.cells #[.int .i64 tm, .int .i64 vt, .slice (some ⟨ba, oa, none⟩) n cap] 25)).heap.size = w.heap.size + 1 from by simp] at Z0
 have T := irec_some t ⟨#[99]⟩ [(c0 : Int)] [] ht HF H 1 0 rfl rfl _ (hE.below (unhide B0))
 clear hE
 go_enter Tryd.func41, Tryd.ntmps41
 go_wp2_with fail
 refine T.mono ?_
 clear T
 rintro e w1 ⟨ai, ci, ar, cr, rfl, hi1, hr1, hgi, hgr, hb1⟩
 have hz2 : ((w.alloc (.cells #[.int .i64 tm, .int .i64 vt, .slice (some ⟨ba, oa, none⟩) n cap] 25)).alloc (.cells #[.int .i64 0, .int .i64 0, .slice none 0 0] 25)).heap.size = w.heap.size + 2 := by simp
 rw [hz2] at hgi hgr
 clear hz2
 have B1 := hide ((unhide B0).trans (hb1.mono (unhide B0).size))
 have A1 := hide ((unhide A0).below hb1)
 have Z1 := hide ((unhide Z0).below hb1)
 have hlt : Hid (w.heap.size + 1 < w1.heap.size) := (unhide Z1).lt
 have RW := hide (BF.new w1 #[.string ⟨#[99]⟩, .slice ai 1 ci, .slice ar 0 cr] 115)
 have BW := hide ((unhide B1).alloc (unhide B1).size (.cells #[.string ⟨#[99]⟩, .slice ai 1 ci, .slice ar 0 cr] 115))
 have AW := hide ((unhide A1).alloc (.cells #[.string ⟨#[99]⟩, .slice ai 1 ci, .slice ar 0 cr] 115))
 have ZW := hide ((unhide Z1).alloc (.cells #[.string ⟨#[99]⟩, .slice ai 1 ci, .slice ar 0 cr] 115))
 have IW := hide (hi1.below ((Below.refl _ _).alloc (Nat.le_refl _) (.cells #[.string ⟨#[99]⟩, .slice ai 1 ci, .slice ar 0 cr] 115)))
 have HW := hide (hr1.below ((Below.refl _ _).alloc (Nat.le_refl _) (.cells #[.string ⟨#[99]⟩, .slice ai 1 ci, .slice ar 0 cr] 115)))
 clear B0 A0 Z0 hb1 hi1 hr1 A1 Z1 B1
 have kr0 := (unhide RW).S
 go_wp2_with fail
 refine (iis_rec ⟨#[99]⟩ ⟨#[116]⟩ ai 1 ci ar 0 cr 2 0 (by decide) (by decide) false (by show _ = _; decide) _).mono ?_
 rintro e w2 ⟨rfl, hb2⟩
 have B2 := hide ((unhide BW).trans (hb2.mono (unhide BW).size))
 have A2 := hide ((unhide AW).below hb2)
 have Z2 := hide ((unhide ZW).below hb2)
 have R2 := hide ((unhide RW).below hb2)
 have I2 := hide ((unhide IW).below hb2)
 have H2 := hide ((unhide HW).below hb2)
 clear BW AW ZW RW IW HW hb2
 clear kr0
 obtain ⟨b, off, rfl, hblt, hcel⟩ := (unhide I2).at (by simp [cI])
 have hb9 : w.heap.size + 2 ≤ b := hgi _ rfl
 have kx : w2.cell? ⟨b, off, none⟩ = some (.int .i64 (c0 : Int)) := hcel 0 _ (by simp [cI])
 have HBL := hide hblt
 clear hcel hblt
 have k2 : (∀ o, w2.cell? ⟨w1.heap.size, o, none⟩ = (#[.string ⟨#[99]⟩, .slice (some ⟨b, off, none⟩) 1 ci, .slice ar 0 cr] : Array Value)[o]?) ∧ (∀ o, w2.cell? ⟨w.heap.size, o, none⟩ = (#[.int .i64 tm, .int .i64 vt, .slice (some ⟨ba, oa, none⟩) n cap] : Array Value)[o]?) ∧ w2.cell? ⟨b, off, none⟩ = some (.int .i64 (c0 : Int)) := ⟨(unhide R2).S, (unhide A2).S, kx⟩
 go_wp2_with fail
 refine wp_region_held_drew (S := fun w' => (∀ o, w'.cell? ⟨w1.heap.size, o, none⟩ = (#[.string ⟨#[99]⟩, .slice (some ⟨b, off, none⟩) 1 ci, .slice ar 0 cr] : Array Value)[o]?) ∧ (∀ o, w'.cell? ⟨w.heap.size, o, none⟩ = (#[.int .i64 tm, .int .i64 vt, .slice (some ⟨ba, oa, none⟩) n cap] : Array Value)[o]?) ∧ w'.cell? ⟨b, off, none⟩ = some (.int .i64 (c0 : Int))) (by kernel_rfl) k2 (fun hHeld => ?_)
 refine wtv 0 (oi := oAftU0) ?_
 refine wpAnyH_ready (rs := [1]) (by kernel_rfl) (by simp) ?_
 refine AllReadyH.cons (o := oAftU1) rfl (fun K hK => ?_) AllReadyH.nil
 have B2d := hide (unhide B2).drew
 have A2d := hide (unhide A2).drew
 have Z2d := hide (unhide Z2).drew
 have R2d := hide (unhide R2).drew
 have I2d := hide ((unhide I2).below (Below.refl _ _).drew)
 have H2d := hide ((unhide H2).below (Below.refl _ _).drew)
 go_simp
 refine (iis_rec ⟨#[99]⟩ ⟨#[99]⟩ _ 1 ci ar 0 cr 1 0 (by decide) (by decide) true (by show _ = _; decide) _).mono ?_
 rintro e w3 ⟨rfl, hb3⟩
 have B3 := hide ((unhide B2d).trans (hb3.mono (unhide B2d).size))
 have A3 := hide ((unhide A2d).below hb3)
 have Z3 := hide ((unhide Z2d).below hb3)
 have R3 := hide ((unhide R2d).below hb3)
 have I3 := hide ((unhide I2d).below hb3)
 have H3 := hide ((unhide H2d).below hb3)
 have k3 : (∀ o, w3.cell? ⟨w1.heap.size, o, none⟩ = (#[.string ⟨#[99]⟩, .slice (some ⟨b, off, none⟩) 1 ci, .slice ar 0 cr] : Array Value)[o]?) ∧ (∀ o, w3.cell? ⟨w.heap.size, o, none⟩ = (#[.int .i64 tm, .int .i64 vt, .slice (some ⟨ba, oa, none⟩) n cap] : Array Value)[o]?) ∧ w3.cell? ⟨b, off, none⟩ = some (.int .i64 (c0 : Int)) := ⟨(unhide R3).S, (unhide A3).S, ((below_undrew hb3).cell (p := ⟨b, off, none⟩) (unhide HBL)).trans kx⟩
 clear hb3 B2 A2 Z2 R2 I2 H2 B2d A2d Z2d R2d I2d H2d
 go_wp2_with fail
 refine hK.out _ _ ?_ (fun hHeld1 => ?_)
 ·exact k3
 clear hK K
 try simp only [Act.put, qqA, qqB, qqC]
 refine wtv 2 (oi := oAftU2) ?_
 refine wtv 3 (oi := oAftU3) ?_
 refine wtv 4 (oi := oAftU4) ?_
 refine wtv 5 (oi := oAftU5) ?_
 refine wtv 6 (oi := oAftU6) ?_
 refine wtv 7 (oi := oAftU7) ?_
 refine wtv 8 (oi := oAftU8) ?_
 refine wtv 9 (oi := oAftU9) ?_
 refine wtv 10 (oi := oAftU10) ?_
 refine wpAnyH_ready (rs := [11]) (by kernel_rfl) (by simp) ?_
 refine AllReadyH.cons (o := oAftU11) rfl (fun K hK => ?_) AllReadyH.nil
 go_simp
 refine (iwi (c0 : Int) 0 ((n : Int) - 1) true HX _).mono ?_
 rintro e w4 ⟨rfl, rfl⟩
 go_wp2_with fail
 refine hK.out _ _ ?_ (fun hHeld11 => ?_)
 ·exact k3
 clear hK K
 try simp only [Act.put, qqA, qqB, qqC]
 refine wtv 12 (oi := oAftU12) ?_
 refine wtv 13 (oi := oAftU13) ?_
 refine wpAnyH_done (by kernel_rfl) ?_ _
 clear k2 kx
 have k3b : (∀ o, w4.drew.cell? ⟨w1.heap.size, o, none⟩ = (#[.string ⟨#[99]⟩, .slice (some ⟨b, off, none⟩) 1 ci, .slice ar 0 cr] : Array Value)[o]?) ∧ w4.drew.cell? ⟨b, off, none⟩ = some (.int .i64 (c0 : Int)) := ⟨k3.1, k3.2.2⟩
 have AC := hide (unhide A3).drew
 have BC := hide (unhide B3).drew
 have ZC := hide (unhide Z3).drew
 have hl := unhide hlt
 obtain ⟨wz, hvz, hFA, hfar, hbz⟩ := put1 w4.drew (unhide AC) (.slice (some ⟨ba, oa, none⟩) c0 cap)
 clear B3 A3 Z3 R3 I3 H3 k3
 go_wp2_with fail
 refine wp_region_held_drew (S := fun w' => (∀ o, w'.cell? ⟨w1.heap.size, o, none⟩ = (#[.string ⟨#[99]⟩, .slice (some ⟨b, off, none⟩) 1 ci, .slice ar 0 cr] : Array Value)[o]?) ∧ w'.cell? ⟨b, off, none⟩ = some (.int .i64 (c0 : Int))) (by kernel_rfl) k3b (fun hHeld => ?_)
 generalize w4.drew = v3 at AC BC ZC hHeld hvz hFA hfar hbz ⊢
 refine wtv 0 (oi := { dst := some 47, op := .fieldAddr 25 (.tmp 2) 2, type := 0, pos := "l07_store.go:148", after := #[], guard := none }) ?_
 refine wtv 2 (oi := { dst := some 49, op := .fieldAddr 115 (.tmp 6) 1, type := 0, pos := "l07_store.go:148", after := #[], guard := none }) ?_
 refine wtv 3 (oi := { dst := some 50, op := .load 72 (.tmp 49), type := 72, pos := "l07_store.go:148", after := #[{ on := 2, ground := .data }], guard := none }) ?_
 refine wtv 4 (oi := { dst := some 51, op := .indexAddr 72 (.tmp 50) (.const (.int .i64 0)), type := 0, pos := "l07_store.go:148", after := #[{ on := 3, ground := .data }], guard := none }) ?_
 refine wtv 5 (oi := { dst := some 52, op := .load 3 (.tmp 51), type := 3, pos := "l07_store.go:148", after := #[{ on := 4, ground := .data }], guard := none }) ?_
 refine wpAnyH_ready (rs := [1]) (by kernel_rfl) (by simp) ?_
 refine AllReadyH.cons (o := { dst := some 48, op := .load 23 (.tmp 47), type := 23, pos := "l07_store.go:148", after := #[{ on := 0, ground := .data }], guard := none }) rfl (fun K hK => ?_) AllReadyH.nil
 have ka := (unhide AC).S
 have kaf := (unhide AC).F
 go_simp
 refine hK.out _ _ ?_ (fun hHeld1 => ?_)
 ·exact hHeld
 clear hK K
 try simp only [Act.put, qqA, qqB, qqC]
 refine wtv 6 (oi := { dst := some 53, op := .slice 23 (.tmp 48) none (some (.tmp 52)) none, type := 23, pos := "l07_store.go:148", after := #[{ on := 1, ground := .data }, { on := 5, ground := .data }], guard := none }) ?_
 refine wtv 7 (oi := { dst := some 54, op := .fieldAddr 25 (.tmp 2) 2, type := 0, pos := "l07_store.go:148", after := #[{ on := 0, ground := .phase }, { on := 1, ground := .phase }, { on := 2, ground := .phase }, { on := 3, ground := .phase }, { on := 4, ground := .phase }, { on := 5, ground := .phase }, { on := 6, ground := .phase }], guard := none }) ?_
 refine wpAnyH_ready (rs := [8]) (by kernel_rfl) (by simp) ?_
 refine AllReadyH.cons (o := { dst := none, op := .store 23 (.tmp 54) (.tmp 53), type := 0, pos := "l07_store.go:148", after := #[{ on := 7, ground := .data }, { on := 6, ground := .data }, { on := 0, ground := .phase }, { on := 1, ground := .phase }, { on := 2, ground := .phase }, { on := 3, ground := .phase }, { on := 4, ground := .phase }, { on := 5, ground := .phase }, { on := 6, ground := .phase }], guard := none }) rfl (fun K hK => ?_) AllReadyH.nil
 go_simp
 rw [← hvz]
 refine hK.out _ _ ?_ (fun hHeld8 => ?_)
 ·exact ⟨fun o => (World.cell?_of_block (a := ⟨w1.heap.size, o, none⟩) (hfar w1.heap.size (by omega))).trans (hHeld.1 o), (World.cell?_of_block (a := ⟨b, off, none⟩) (hfar b (by omega))).trans hHeld.2⟩
 clear hK K
 try simp only [Act.put, qqA, qqB, qqC]
 refine wpAnyH_done (by kernel_rfl) ?_ _
 have ZZ := (unhide ZC).keep (by have := hbz.size; exact this) (hfar _ (by omega))
 have kz := ZZ.S
 have kzf := ZZ.F
 have kf2 := hFA.S
 have BZ := hide ((unhide BC).trans hbz)
 clear hvz hfar hbz ka kaf hHeld
 go_wp2_with fail
 refine bodyPost_ret (v := .tuple #[.agg #[.int .i64 tm, .int .i64 vt, .slice (some ⟨ba, oa, none⟩) c0 cap], .nilIface]) (by simp [results, Tryd.results41, go_sem, kz]) rfl ⟨rfl, ?_⟩
 iterate 3 refine Below.setCell ?_ (by show w.heap.size ≤ w.heap.size + 1; omega) _
 exact unhide BZ
set_option maxHeartbeats 4000000 in
set_option maxRecDepth 100000 in
theorem iafter_ent (tm vt x : Int) (d : ByteArray) (a : Option Addr) (cap n : Nat) (l : List (Int × ByteArray)) (hn : n ≤ 1048576) (base : Nat) (t : ByteArray) (ht : t.size ≤ 65536) (HF : Hid (∀ m, rfOf t.data.toList = some m → ∀ k (hk : k < m.length), m[k].size ≤ 20000)) (H : Hid (recP t = some (⟨#[101]⟩, [x], [d]))) (w : World) (hE : ErrsIn w) (hbase : base ≤ w.heap.size) (hown : w.ownsRow base 62 2 (.slice a n cap) n (cE l)) :
  Calls Tryd.prog 41 #[.agg #[.int .i64 tm, .int .i64 vt, .slice a n cap], .string t] w fun e w' => ∃ v, e = .returned (.tuple #[.agg #[.int .i64 tm, .int .i64 vt, v], .nilIface]) ∧ w'.ownsRow base 62 2 v (n + 1) (cE (l ++ [(x, d)])) ∧ w'.ownsRow base 62 2 (.slice a n cap) n (cE l) ∧ Below base w w' ∧ w.grownBy w' (Value.slice a n cap).ownBlock := by
 obtain ⟨ie, hie, hie0, hie1, hie2⟩ := info_parts Tryd.infL62
 have HOW := hide (heldZ_of hown)
 clear hown
 have B0 := hide (Go.Joins.below_alloc2 w (.cells #[.int .i64 tm, .int .i64 vt, .slice a n cap] 25) (.cells #[.int .i64 0, .int .i64 0, .slice none 0 0] 25))
 have A0 := hide ((BF.new w #[.int .i64 tm, .int .i64 vt, .slice a n cap] 25).alloc (.cells #[.int .i64 0, .int .i64 0, .slice none 0 0] 25))
 have Z0 := hide (BF.new (w.alloc (.cells #[.int .i64 tm, .int .i64 vt, .slice a n cap] 25)) #[.int .i64 0, .int .i64 0, .slice none 0 0] 25)
 rw [show (w.alloc (.cells #[.int .i64 tm, .int .i64 vt, .slice a n cap] 25)).heap.size = w.heap.size + 1 from by simp] at Z0
 have T := irec_some t ⟨#[101]⟩ [x] [d] ht HF H 1 1 rfl rfl _ (hE.below (unhide B0))
 clear hE
 go_enter Tryd.func41, Tryd.ntmps41
 go_wp2_with fail
 refine T.mono ?_
 clear T
 rintro e w1 ⟨ai, ci, ar, cr, rfl, hi1, hr1, hgi, hgr, hb1⟩
 have hz2 : ((w.alloc (.cells #[.int .i64 tm, .int .i64 vt, .slice a n cap] 25)).alloc (.cells #[.int .i64 0, .int .i64 0, .slice none 0 0] 25)).heap.size = w.heap.size + 2 := by simp
 rw [hz2] at hgi hgr
 clear hz2
 have B1 := hide ((unhide B0).trans (hb1.mono (unhide B0).size))
 have A1 := hide ((unhide A0).below hb1)
 have Z1 := hide ((unhide Z0).below hb1)
 have hlt : Hid (w.heap.size + 1 < w1.heap.size) := (unhide Z1).lt
 have RW := hide (BF.new w1 #[.string ⟨#[101]⟩, .slice ai 1 ci, .slice ar 1 cr] 115)
 have BW := hide ((unhide B1).alloc (unhide B1).size (.cells #[.string ⟨#[101]⟩, .slice ai 1 ci, .slice ar 1 cr] 115))
 have AW := hide ((unhide A1).alloc (.cells #[.string ⟨#[101]⟩, .slice ai 1 ci, .slice ar 1 cr] 115))
 have ZW := hide ((unhide Z1).alloc (.cells #[.string ⟨#[101]⟩, .slice ai 1 ci, .slice ar 1 cr] 115))
 have IW := hide (hi1.below ((Below.refl _ _).alloc (Nat.le_refl _) (.cells #[.string ⟨#[101]⟩, .slice ai 1 ci, .slice ar 1 cr] 115)))
 have HW := hide (hr1.below ((Below.refl _ _).alloc (Nat.le_refl _) (.cells #[.string ⟨#[101]⟩, .slice ai 1 ci, .slice ar 1 cr] 115)))
 clear B0 A0 Z0 hb1 hi1 hr1 A1 Z1 B1
 have kr0 := (unhide RW).S
 go_wp2_with fail
 refine (iis_rec ⟨#[101]⟩ ⟨#[116]⟩ ai 1 ci ar 1 cr 2 0 (by decide) (by decide) false (by show _ = _; decide) _).mono ?_
 rintro e w2 ⟨rfl, hb2⟩
 have B2 := hide ((unhide BW).trans (hb2.mono (unhide BW).size))
 have A2 := hide ((unhide AW).below hb2)
 have Z2 := hide ((unhide ZW).below hb2)
 have R2 := hide ((unhide RW).below hb2)
 have I2 := hide ((unhide IW).below hb2)
 have H2 := hide ((unhide HW).below hb2)
 clear BW AW ZW RW IW HW hb2
 clear kr0
 have k2 : (∀ o, w2.cell? ⟨w1.heap.size, o, none⟩ = (#[.string ⟨#[101]⟩, .slice ai 1 ci, .slice ar 1 cr] : Array Value)[o]?) ∧ (∀ o, w2.cell? ⟨w.heap.size, o, none⟩ = (#[.int .i64 tm, .int .i64 vt, .slice a n cap] : Array Value)[o]?) ∧ True := ⟨(unhide R2).S, (unhide A2).S, trivial⟩
 go_wp2_with fail
 refine wp_region_held_drew (S := fun w' => (∀ o, w'.cell? ⟨w1.heap.size, o, none⟩ = (#[.string ⟨#[101]⟩, .slice ai 1 ci, .slice ar 1 cr] : Array Value)[o]?) ∧ (∀ o, w'.cell? ⟨w.heap.size, o, none⟩ = (#[.int .i64 tm, .int .i64 vt, .slice a n cap] : Array Value)[o]?) ∧ True) (by kernel_rfl) k2 (fun hHeld => ?_)
 refine wtv 0 (oi := oAftU0) ?_
 refine wpAnyH_ready (rs := [1]) (by kernel_rfl) (by simp) ?_
 refine AllReadyH.cons (o := oAftU1) rfl (fun K hK => ?_) AllReadyH.nil
 have B2d := hide (unhide B2).drew
 have A2d := hide (unhide A2).drew
 have Z2d := hide (unhide Z2).drew
 have R2d := hide (unhide R2).drew
 have I2d := hide ((unhide I2).below (Below.refl _ _).drew)
 have H2d := hide ((unhide H2).below (Below.refl _ _).drew)
 go_simp
 refine (iis_rec ⟨#[101]⟩ ⟨#[99]⟩ ai 1 ci ar 1 cr 1 0 (by decide) (by decide) false (by show _ = _; decide) _).mono ?_
 rintro e w3 ⟨rfl, hb3⟩
 have B3 := hide ((unhide B2d).trans (hb3.mono (unhide B2d).size))
 have A3 := hide ((unhide A2d).below hb3)
 have Z3 := hide ((unhide Z2d).below hb3)
 have R3 := hide ((unhide R2d).below hb3)
 have I3 := hide ((unhide I2d).below hb3)
 have H3 := hide ((unhide H2d).below hb3)
 have k3 : (∀ o, w3.cell? ⟨w1.heap.size, o, none⟩ = (#[.string ⟨#[101]⟩, .slice ai 1 ci, .slice ar 1 cr] : Array Value)[o]?) ∧ (∀ o, w3.cell? ⟨w.heap.size, o, none⟩ = (#[.int .i64 tm, .int .i64 vt, .slice a n cap] : Array Value)[o]?) ∧ True := ⟨(unhide R3).S, (unhide A3).S, trivial⟩
 clear hb3 B2 A2 Z2 R2 I2 H2 B2d A2d Z2d R2d I2d H2d
 go_wp2_with fail
 refine hK.out _ _ ?_ (fun hHeld1 => ?_)
 ·exact k3
 clear hK K
 try simp only [Act.put, qqA, qqB, qqC]
 refine wtv 2 (oi := oAftU2) ?_
 refine wtu 3 (oi := oAftU3) ?_
 refine wtu 4 (oi := oAftU4) ?_
 refine wtu 5 (oi := oAftU5) ?_
 refine wtu 6 (oi := oAftU6) ?_
 refine wtu 7 (oi := oAftU7) ?_
 refine wtu 8 (oi := oAftU8) ?_
 refine wtu 9 (oi := oAftU9) ?_
 refine wtu 10 (oi := oAftU10) ?_
 refine wtu 11 (oi := oAftU11) ?_
 refine wtv 12 (oi := oAftU12) ?_
 refine wtv 13 (oi := oAftU13) ?_
 refine wpAnyH_done (by kernel_rfl) ?_ _
 clear k2
 have kr3 := (unhide R3).S
 go_wp2_with fail
 refine (iis_rec ⟨#[101]⟩ ⟨#[101]⟩ ai 1 ci ar 1 cr 1 1 (by decide) (by decide) true (by show _ = _; decide) _).mono ?_
 rintro e w5 ⟨rfl, hb5⟩
 have B5 := hide ((unhide B3).trans (hb5.mono (unhide B3).size))
 have A5 := hide ((unhide A3).below hb5)
 have Z5 := hide ((unhide Z3).below hb5)
 have R5 := hide ((unhide R3).below hb5)
 have I5 := hide ((unhide I3).below hb5)
 have H5 := hide ((unhide H3).below hb5)
 obtain ⟨b, off, rfl, hblt, hcel⟩ := (unhide I5).at (by simp [cI])
 obtain ⟨b2, off2, rfl, hblt2, hcel2⟩ := (unhide H5).at (by simp [cS])
 have hb9 : w.heap.size + 2 ≤ b := hgi _ rfl
 have hb92 : w.heap.size + 2 ≤ b2 := hgr _ rfl
 have kx : w5.cell? ⟨b, off, none⟩ = some (.int .i64 x) := hcel 0 _ (by simp [cI])
 have kd : w5.cell? ⟨b2, off2, none⟩ = some (.string d) := hcel2 0 _ (by simp [cS])
 have kx5 : Hid (b < w5.drew.heap.size ∧ w5.drew.cell? ⟨b, off, none⟩ = some (.int .i64 x)) := ⟨hblt, kx⟩
 have kd5 : Hid (b2 < w5.drew.heap.size ∧ w5.drew.cell? ⟨b2, off2, none⟩ = some (.string d)) := ⟨hblt2, kd⟩
 have k5 : (∀ o, w5.drew.cell? ⟨w1.heap.size, o, none⟩ = (#[.string ⟨#[101]⟩, .slice (some ⟨b, off, none⟩) 1 ci, .slice (some ⟨b2, off2, none⟩) 1 cr] : Array Value)[o]?) ∧ w5.drew.cell? ⟨b, off, none⟩ = some (.int .i64 x) ∧ w5.drew.cell? ⟨b2, off2, none⟩ = some (.string d) := ⟨(unhide R5).drew.S, kx, kd⟩
 have AC := hide (unhide A5).drew
 have BC := hide (unhide B5).drew
 have ZC := hide (unhide Z5).drew
 have RC := hide (unhide R5).drew
 have OC := hide ((unhide HOW).below (unhide BC) (Nat.le_refl _))
 clear hb5 B3 A3 Z3 R3 I3 H3 kr3 k3 B5 A5 Z5 R5 I5 H5 hcel hcel2 kx kd hblt hblt2
 go_wp2_with fail
 refine wp_region_held_drew (S := fun w' => (∀ o, w'.cell? ⟨w1.heap.size, o, none⟩ = (#[.string ⟨#[101]⟩, .slice (some ⟨b, off, none⟩) 1 ci, .slice (some ⟨b2, off2, none⟩) 1 cr] : Array Value)[o]?) ∧ w'.cell? ⟨b, off, none⟩ = some (.int .i64 x) ∧ w'.cell? ⟨b2, off2, none⟩ = some (.string d)) (by kernel_rfl) k5 (fun hHeld => ?_)
 generalize w5.drew = v5 at AC BC ZC OC RC hHeld kx5 kd5 ⊢
 refine wtv 0 (oi := { dst := some 58, op := .fieldAddr 25 (.tmp 2) 2, type := 0, pos := "l07_store.go:150", after := #[], guard := none }) ?_
 refine wtv 2 (oi := { dst := some 60, op := .fieldAddr 115 (.tmp 6) 1, type := 0, pos := "l07_store.go:150", after := #[], guard := none }) ?_
 refine wtv 3 (oi := { dst := some 61, op := .load 72 (.tmp 60), type := 72, pos := "l07_store.go:150", after := #[{ on := 2, ground := .data }], guard := none }) ?_
 refine wtv 4 (oi := { dst := some 62, op := .indexAddr 72 (.tmp 61) (.const (.int .i64 0)), type := 0, pos := "l07_store.go:150", after := #[{ on := 3, ground := .data }], guard := none }) ?_
 refine wtv 5 (oi := { dst := some 63, op := .load 3 (.tmp 62), type := 3, pos := "l07_store.go:150", after := #[{ on := 4, ground := .data }], guard := none }) ?_
 refine wtv 6 (oi := { dst := some 64, op := .fieldAddr 115 (.tmp 6) 2, type := 0, pos := "l07_store.go:150", after := #[], guard := none }) ?_
 refine wtv 7 (oi := { dst := some 65, op := .load 27 (.tmp 64), type := 27, pos := "l07_store.go:150", after := #[{ on := 6, ground := .data }], guard := none }) ?_
 refine wtv 8 (oi := { dst := some 66, op := .indexAddr 27 (.tmp 65) (.const (.int .i64 0)), type := 0, pos := "l07_store.go:150", after := #[{ on := 7, ground := .data }], guard := none }) ?_
 refine wtv 9 (oi := { dst := some 67, op := .load 9 (.tmp 66), type := 9, pos := "l07_store.go:150", after := #[{ on := 8, ground := .data }], guard := none }) ?_
 refine wtv 10 (oi := { dst := some 68, op := .build 62 #[(0, .tmp 63), (1, .tmp 67)], type := 62, pos := "l07_store.go:150", after := #[{ on := 5, ground := .data }, { on := 9, ground := .data }], guard := none }) ?_
 refine wpAnyH_ready (rs := [1, 11]) (by kernel_rfl) (by simp) ?_
 refine AllReadyH.cons (o := oAftU18) rfl (fun K hK => ?_) (AllReadyH.cons (o := oAftU19) rfl (fun K hK => ?_) AllReadyH.nil)
 ·skip
  have ka := (unhide AC).S
  go_simp
  refine hK.out _ _ ?_ (fun hHeldL => ?_)
  ·exact hHeld
  clear hK K ka
  try simp only [Act.put, qqA, qqB, qqC]
  refine wpAnyH_ready (rs := [11]) (by kernel_rfl) (by simp) ?_
  refine AllReadyH.cons (o := oAftU19) rfl (fun K hK => ?_) AllReadyH.nil
  obtain ⟨G, hG⟩ : ∃ G, G = v5.heap.size := ⟨_, rfl⟩
  have hb6 : Below v5.heap.size v5 (v5.alloc (.cells #[.int .i64 x, .string d] 62)) := Go.Joins.below_alloc1 v5 (.cells #[.int .i64 x, .string d] 62)
  have E6 := hide (BF.new v5 #[.int .i64 x, .string d] 62)
  have A6 := hide ((unhide AC).below hb6)
  have Z6 := hide ((unhide ZC).below hb6)
  have R6 := hide ((unhide RC).below hb6)
  have O6 := hide ((unhide OC).below hb6 (Nat.le_trans (unhide BC).size (Nat.le_refl _)))
  have B6 := hide ((unhide BC).trans (hb6.mono (unhide BC).size))
  have k6 : (∀ o, (v5.alloc (.cells #[.int .i64 x, .string d] 62)).cell? ⟨w1.heap.size, o, none⟩ = (#[.string ⟨#[101]⟩, .slice (some ⟨b, off, none⟩) 1 ci, .slice (some ⟨b2, off2, none⟩) 1 cr] : Array Value)[o]?) ∧ (v5.alloc (.cells #[.int .i64 x, .string d] 62)).cell? ⟨b, off, none⟩ = some (.int .i64 x) ∧ (v5.alloc (.cells #[.int .i64 x, .string d] 62)).cell? ⟨b2, off2, none⟩ = some (.string d) := ⟨(unhide R6).S, (hb6.cell (p := ⟨b, off, none⟩) (unhide kx5).1).trans (unhide kx5).2, (hb6.cell (p := ⟨b2, off2, none⟩) (unhide kd5).1).trans (unhide kd5).2⟩
  rw [← hG] at E6
  go_simp
  refine hK.out _ _ ?_ (fun hHeldB => ?_)
  ·exact k6
  clear hK K
  try simp only [Act.put, qqA, qqB, qqC]
  rw [← hG]
  clear hb6 hG
  have kx6 : Hid (b < (v5.alloc (.cells #[.int .i64 x, .string d] 62)).heap.size ∧ b2 < (v5.alloc (.cells #[.int .i64 x, .string d] 62)).heap.size) := by show _ ∧ _; have := (unhide kx5).1; have := (unhide kd5).1; simp only [World.size_alloc]; omega
  generalize v5.alloc (.cells #[.int .i64 x, .string d] 62) = v6 at E6 A6 Z6 R6 O6 B6 k6 kx6 hHeldB ⊢
  refine wpAnyH_ready (rs := [12]) (by kernel_rfl) (by simp) ?_
  refine AllReadyH.cons (o := oAftU20) rfl (fun K hK => ?_) AllReadyH.nil
  refine step_append_keep v6 rfl (.tmp 59) (.tmp 69) 23 rfl base 62 ie (.agg #[.int .i64 0, .string ⟨#[]⟩]) Tryd.underlying23 hie hie0 2 hie1 rfl (by decide) (Nat.le_of_eq hie2) (.slice a n cap) n (cE l) rfl (unhide O6).own ⟨G, 0, none⟩ 1 1 [.int .i64 x, .string d] rfl rfl (by intro j u hj; have e := (unhide E6).S j; rw [show (⟨G, 0, none⟩ : Addr).add j = ⟨G, j, none⟩ from (by unfold Addr.add; split <;> simp_all)]; rw [e]; simpa using hj) (by intro u hu; simp at hu; rcases hu with rfl | rfl <;> rfl) (by decide) (by omega) (by have := (unhide B6).size; omega) ?_
  intro v' w7 ho7 hk7 hg7
  obtain ⟨a7, c7, rfl, -⟩ := ownZ_rowV ho7
  have hown := (unhide O6).own
  have hkk : ∀ j, (Value.slice a n cap).ownBlock = some j → base ≤ j ∧ j < w.heap.size := (unhide O6).blk
  have A7 := hide ((unhide A6).grown hg7 (fun h => by have := hkk _ h; omega))
  have Z7 := hide ((unhide Z6).grown hg7 (fun h => by have := hkk _ h; omega))
  have R7 := hide ((unhide R6).grown hg7 (fun h => by have := hkk _ h; have := unhide hlt; omega))
  have B7 : Hid (Below base w w7) := ((unhide B6).mono hbase).grown hg7 (Nat.le_trans hbase (unhide B6).size) (fun j hj => (hkk j hj).1)
  have k7 : (∀ o, w7.cell? ⟨w1.heap.size, o, none⟩ = (#[.string ⟨#[101]⟩, .slice (some ⟨b, off, none⟩) 1 ci, .slice (some ⟨b2, off2, none⟩) 1 cr] : Array Value)[o]?) ∧ w7.cell? ⟨b, off, none⟩ = some (.int .i64 x) ∧ w7.cell? ⟨b2, off2, none⟩ = some (.string d) := ⟨(unhide R7).S, (World.cell?_of_block (a := ⟨b, off, none⟩) (hg7.block b (unhide kx6).1 (fun h => by have := hkk _ h.symm; omega))).trans k6.2.1, (World.cell?_of_block (a := ⟨b2, off2, none⟩) (hg7.block b2 (unhide kx6).2 (fun h => by have := hkk _ h.symm; omega))).trans k6.2.2⟩
  have G7 := hide (World.grownBy.trans' (below_asGrown (unhide B6)) hg7)
  have O7 : Hid (w7.ownsRow base 62 2 (.slice a7 (n + 1) c7) (n + 1) (cE (l ++ [(x, d)]))) := by show World.ownsRow _ _ _ _ _ _ _; rw [cE_app]; exact ho7
  have K7 := hide hk7
  clear ho7 hk7 hg7 A6 Z6 R6 B6 E6 hown
  refine hK.out _ _ ?_ (fun hHeld12 => ?_)
  ·exact k7
  clear hK K
  try simp only [Act.put, qqA, qqB, qqC]
  refine wtv 13 (oi := oAftU21) ?_
  refine wpAnyH_ready (rs := [14]) (by kernel_rfl) (by simp) ?_
  refine AllReadyH.cons (o := oAftU22) rfl (fun K hK => ?_) AllReadyH.nil
  have ka := (unhide A7).S
  have kaf := (unhide A7).F
  obtain ⟨wz, hvz, hFA, hfar, hbz⟩ := put1 w7 (unhide A7) (.slice a7 (n + 1) c7)
  have hl := unhide hlt
  go_simp
  rw [← hvz]
  refine hK.out _ _ ?_ (fun hHeld14 => ?_)
  ·exact ⟨fun o => (World.cell?_of_block (a := ⟨w1.heap.size, o, none⟩) (hfar w1.heap.size (by omega))).trans (k7.1 o), (World.cell?_of_block (a := ⟨b, off, none⟩) (hfar b (by omega))).trans k7.2.1, (World.cell?_of_block (a := ⟨b2, off2, none⟩) (hfar b2 (by omega))).trans k7.2.2⟩
  clear hK K
  try simp only [Act.put, qqA, qqB, qqC]
  refine wpAnyH_done (by kernel_rfl) ?_ _
  have ZZ := (unhide Z7).keep (by have := hbz.size; exact this) (hfar _ (by omega))
  have kz := ZZ.S
  have kzf := ZZ.F
  have kf2 := hFA.S
  have hn7 := own_ne (unhide O7) (Nat.succ_pos n) (unhide A7)
  have hn8 := own_ne (unhide O7) (Nat.succ_pos n) (unhide Z7)
  have hm7 : (Value.slice a n cap).ownBlock ≠ some w.heap.size := fun h => by have := hkk _ h; omega
  have hm8 : (Value.slice a n cap).ownBlock ≠ some (w.heap.size + 1) := fun h => by have := hkk _ h; omega
  have OZ := hide (own_far (unhide O7) hfar hn7)
  have KZ := hide (own_far (unhide K7) hfar hm7)
  have BZ := hide ((unhide B7).trans (hbz.mono hbase))
  have GZ := hide (grown_low (unhide G7) hbz (Nat.le_refl _))
  obtain ⟨wy, hvy, hFY, hby⟩ := put3 wz ZZ (.int .i64 tm) (.int .i64 vt) (.slice a7 (n + 1) c7)
  have hfy : ∀ k, k ≠ w.heap.size + 1 → wy.heap[k]? = wz.heap[k]? := fun k hk => by rw [hvy]; iterate 3 rw [Below.heap_setCell _ _ _ _ hk]
  have OY := hide (own_far (unhide OZ) hfy hn8)
  have KY := hide (own_far (unhide KZ) hfy hm8)
  have BY := hide ((unhide BZ).trans (hby.mono (Nat.le_trans hbase (Nat.le_succ _))))
  have GY := hide (grown_low (unhide GZ) hby (Nat.le_succ _))
  have ky := hFY.S
  clear hvz hfar hbz hHeld hfy hby A7 Z7 R7 B7 hn7 hn8 hm7 hm8 OZ KZ BZ hFA hFY
  go_wp2_with fail
  rw [← hvy]
  refine bodyPost_ret (v := .tuple #[.agg #[.int .i64 tm, .int .i64 vt, .slice a7 (n + 1) c7], .nilIface]) (by simp [results, Tryd.results41, go_sem, ky]) rfl ⟨_, rfl, unhide OY, unhide KY, unhide BY, unhide GY⟩
 ·skip
  obtain ⟨G, hG⟩ : ∃ G, G = v5.heap.size := ⟨_, rfl⟩
  have hb6 : Below v5.heap.size v5 (v5.alloc (.cells #[.int .i64 x, .string d] 62)) := Go.Joins.below_alloc1 v5 (.cells #[.int .i64 x, .string d] 62)
  have E6 := hide (BF.new v5 #[.int .i64 x, .string d] 62)
  have A6 := hide ((unhide AC).below hb6)
  have Z6 := hide ((unhide ZC).below hb6)
  have R6 := hide ((unhide RC).below hb6)
  have O6 := hide ((unhide OC).below hb6 (Nat.le_trans (unhide BC).size (Nat.le_refl _)))
  have B6 := hide ((unhide BC).trans (hb6.mono (unhide BC).size))
  have k6 : (∀ o, (v5.alloc (.cells #[.int .i64 x, .string d] 62)).cell? ⟨w1.heap.size, o, none⟩ = (#[.string ⟨#[101]⟩, .slice (some ⟨b, off, none⟩) 1 ci, .slice (some ⟨b2, off2, none⟩) 1 cr] : Array Value)[o]?) ∧ (v5.alloc (.cells #[.int .i64 x, .string d] 62)).cell? ⟨b, off, none⟩ = some (.int .i64 x) ∧ (v5.alloc (.cells #[.int .i64 x, .string d] 62)).cell? ⟨b2, off2, none⟩ = some (.string d) := ⟨(unhide R6).S, (hb6.cell (p := ⟨b, off, none⟩) (unhide kx5).1).trans (unhide kx5).2, (hb6.cell (p := ⟨b2, off2, none⟩) (unhide kd5).1).trans (unhide kd5).2⟩
  rw [← hG] at E6
  go_simp
  refine hK.out _ _ ?_ (fun hHeldB => ?_)
  ·exact k6
  clear hK K
  try simp only [Act.put, qqA, qqB, qqC]
  rw [← hG]
  clear hb6 hG
  have kx6 : Hid (b < (v5.alloc (.cells #[.int .i64 x, .string d] 62)).heap.size ∧ b2 < (v5.alloc (.cells #[.int .i64 x, .string d] 62)).heap.size) := by show _ ∧ _; have := (unhide kx5).1; have := (unhide kd5).1; simp only [World.size_alloc]; omega
  generalize v5.alloc (.cells #[.int .i64 x, .string d] 62) = v6 at E6 A6 Z6 R6 O6 B6 k6 kx6 hHeldB ⊢
  refine wpAnyH_ready (rs := [1]) (by kernel_rfl) (by simp) ?_
  refine AllReadyH.cons (o := oAftU18) rfl (fun K hK => ?_) AllReadyH.nil
  have ka := (unhide A6).S
  go_simp
  refine hK.out _ _ ?_ (fun hHeldL => ?_)
  ·exact k6
  clear hK K ka
  try simp only [Act.put, qqA, qqB, qqC]
  refine wpAnyH_ready (rs := [12]) (by kernel_rfl) (by simp) ?_
  refine AllReadyH.cons (o := oAftU20) rfl (fun K hK => ?_) AllReadyH.nil
  refine step_append_keep v6 rfl (.tmp 59) (.tmp 69) 23 rfl base 62 ie (.agg #[.int .i64 0, .string ⟨#[]⟩]) Tryd.underlying23 hie hie0 2 hie1 rfl (by decide) (Nat.le_of_eq hie2) (.slice a n cap) n (cE l) rfl (unhide O6).own ⟨G, 0, none⟩ 1 1 [.int .i64 x, .string d] rfl rfl (by intro j u hj; have e := (unhide E6).S j; rw [show (⟨G, 0, none⟩ : Addr).add j = ⟨G, j, none⟩ from (by unfold Addr.add; split <;> simp_all)]; rw [e]; simpa using hj) (by intro u hu; simp at hu; rcases hu with rfl | rfl <;> rfl) (by decide) (by omega) (by have := (unhide B6).size; omega) ?_
  intro v' w7 ho7 hk7 hg7
  obtain ⟨a7, c7, rfl, -⟩ := ownZ_rowV ho7
  have hown := (unhide O6).own
  have hkk : ∀ j, (Value.slice a n cap).ownBlock = some j → base ≤ j ∧ j < w.heap.size := (unhide O6).blk
  have A7 := hide ((unhide A6).grown hg7 (fun h => by have := hkk _ h; omega))
  have Z7 := hide ((unhide Z6).grown hg7 (fun h => by have := hkk _ h; omega))
  have R7 := hide ((unhide R6).grown hg7 (fun h => by have := hkk _ h; have := unhide hlt; omega))
  have B7 : Hid (Below base w w7) := ((unhide B6).mono hbase).grown hg7 (Nat.le_trans hbase (unhide B6).size) (fun j hj => (hkk j hj).1)
  have k7 : (∀ o, w7.cell? ⟨w1.heap.size, o, none⟩ = (#[.string ⟨#[101]⟩, .slice (some ⟨b, off, none⟩) 1 ci, .slice (some ⟨b2, off2, none⟩) 1 cr] : Array Value)[o]?) ∧ w7.cell? ⟨b, off, none⟩ = some (.int .i64 x) ∧ w7.cell? ⟨b2, off2, none⟩ = some (.string d) := ⟨(unhide R7).S, (World.cell?_of_block (a := ⟨b, off, none⟩) (hg7.block b (unhide kx6).1 (fun h => by have := hkk _ h.symm; omega))).trans k6.2.1, (World.cell?_of_block (a := ⟨b2, off2, none⟩) (hg7.block b2 (unhide kx6).2 (fun h => by have := hkk _ h.symm; omega))).trans k6.2.2⟩
  have G7 := hide (World.grownBy.trans' (below_asGrown (unhide B6)) hg7)
  have O7 : Hid (w7.ownsRow base 62 2 (.slice a7 (n + 1) c7) (n + 1) (cE (l ++ [(x, d)]))) := by show World.ownsRow _ _ _ _ _ _ _; rw [cE_app]; exact ho7
  have K7 := hide hk7
  clear ho7 hk7 hg7 A6 Z6 R6 B6 E6 hown
  refine hK.out _ _ ?_ (fun hHeld12 => ?_)
  ·exact k7
  clear hK K
  try simp only [Act.put, qqA, qqB, qqC]
  refine wtv 13 (oi := oAftU21) ?_
  refine wpAnyH_ready (rs := [14]) (by kernel_rfl) (by simp) ?_
  refine AllReadyH.cons (o := oAftU22) rfl (fun K hK => ?_) AllReadyH.nil
  have ka := (unhide A7).S
  have kaf := (unhide A7).F
  obtain ⟨wz, hvz, hFA, hfar, hbz⟩ := put1 w7 (unhide A7) (.slice a7 (n + 1) c7)
  have hl := unhide hlt
  go_simp
  rw [← hvz]
  refine hK.out _ _ ?_ (fun hHeld14 => ?_)
  ·exact ⟨fun o => (World.cell?_of_block (a := ⟨w1.heap.size, o, none⟩) (hfar w1.heap.size (by omega))).trans (k7.1 o), (World.cell?_of_block (a := ⟨b, off, none⟩) (hfar b (by omega))).trans k7.2.1, (World.cell?_of_block (a := ⟨b2, off2, none⟩) (hfar b2 (by omega))).trans k7.2.2⟩
  clear hK K
  try simp only [Act.put, qqA, qqB, qqC]
  refine wpAnyH_done (by kernel_rfl) ?_ _
  have ZZ := (unhide Z7).keep (by have := hbz.size; exact this) (hfar _ (by omega))
  have kz := ZZ.S
  have kzf := ZZ.F
  have kf2 := hFA.S
  have hn7 := own_ne (unhide O7) (Nat.succ_pos n) (unhide A7)
  have hn8 := own_ne (unhide O7) (Nat.succ_pos n) (unhide Z7)
  have hm7 : (Value.slice a n cap).ownBlock ≠ some w.heap.size := fun h => by have := hkk _ h; omega
  have hm8 : (Value.slice a n cap).ownBlock ≠ some (w.heap.size + 1) := fun h => by have := hkk _ h; omega
  have OZ := hide (own_far (unhide O7) hfar hn7)
  have KZ := hide (own_far (unhide K7) hfar hm7)
  have BZ := hide ((unhide B7).trans (hbz.mono hbase))
  have GZ := hide (grown_low (unhide G7) hbz (Nat.le_refl _))
  obtain ⟨wy, hvy, hFY, hby⟩ := put3 wz ZZ (.int .i64 tm) (.int .i64 vt) (.slice a7 (n + 1) c7)
  have hfy : ∀ k, k ≠ w.heap.size + 1 → wy.heap[k]? = wz.heap[k]? := fun k hk => by rw [hvy]; iterate 3 rw [Below.heap_setCell _ _ _ _ hk]
  have OY := hide (own_far (unhide OZ) hfy hn8)
  have KY := hide (own_far (unhide KZ) hfy hm8)
  have BY := hide ((unhide BZ).trans (hby.mono (Nat.le_trans hbase (Nat.le_succ _))))
  have GY := hide (grown_low (unhide GZ) hby (Nat.le_succ _))
  have ky := hFY.S
  clear hvz hfar hbz hHeld hfy hby A7 Z7 R7 B7 hn7 hn8 hm7 hm8 OZ KZ BZ hFA hFY
  go_wp2_with fail
  rw [← hvy]
  refine bodyPost_ret (v := .tuple #[.agg #[.int .i64 tm, .int .i64 vt, .slice a7 (n + 1) c7], .nilIface]) (by simp [results, Tryd.results41, go_sem, ky]) rfl ⟨_, rfl, unhide OY, unhide KY, unhide BY, unhide GY⟩
end Go.Proofs.YtamjljhbnhdgdaaDoor
