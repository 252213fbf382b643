/- l04Read: the rows. -/
import Derived.Test.YtpcdjpfffanlbaaDoorZRcS
import Derived.Deep.Cut
import Derived.Deep.MidRow
import Derived.Laws.ResultCell
import Derived.Laws.OwnMore
namespace Go.Proofs.YtpcdjpfffanlbaaDoor
open Go.ChangeShapes Go.WideShapes Go.ChangeAt Go.RowKit
set_option linter.unusedVariables false
abbrev oRcU0 : Oper := { dst := some 102, op := .buildSlice 23 0 #[], type := 23, pos := "l04_screen.go:385", after := #[], guard := none }
abbrev oRcU1 : Oper := { dst := some 10, op := .alloc 26, type := 0, pos := "l04_screen.go:385", after := #[], guard := none }
abbrev oRcU2 : Oper := { dst := some 104, op := .build 26 #[(0, .tmp 74), (1, .tmp 77), (2, .tmp 80), (3, .tmp 83), (4, .tmp 86), (5, .tmp 89), (6, .tmp 92), (7, .tmp 95), (8, .tmp 98), (9, .tmp 101), (10, .tmp 102), (11, .tmp 103)], type := 26, pos := "l04_screen.go:385", after := #[{ on := 2, ground := .data }, { on := 5, ground := .data }, { on := 8, ground := .data }, { on := 11, ground := .data }, { on := 14, ground := .data }, { on := 17, ground := .data }, { on := 20, ground := .data }, { on := 23, ground := .data }, { on := 26, ground := .data }, { on := 29, ground := .data }, { on := 30, ground := .data }, { on := 31, ground := .data }], guard := none }
abbrev oRcU3 : Oper := { dst := none, op := .store 26 (.tmp 10) (.tmp 104), type := 0, pos := "l04_screen.go:385", after := #[{ on := 33, ground := .data }, { on := 32, ground := .data }, { on := 0, ground := .phase }, { on := 1, ground := .phase }, { on := 2, ground := .phase }, { on := 3, ground := .phase }, { on := 4, ground := .phase }, { on := 5, ground := .phase }, { on := 6, ground := .phase }, { on := 7, ground := .phase }, { on := 8, ground := .phase }, { on := 9, ground := .phase }, { on := 10, ground := .phase }, { on := 11, ground := .phase }, { on := 12, ground := .phase }, { on := 13, ground := .phase }, { on := 14, ground := .phase }, { on := 15, ground := .phase }, { on := 16, ground := .phase }, { on := 17, ground := .phase }, { on := 18, ground := .phase }, { on := 19, ground := .phase }, { on := 20, ground := .phase }, { on := 21, ground := .phase }, { on := 22, ground := .phase }, { on := 23, ground := .phase }, { on := 24, ground := .phase }, { on := 25, ground := .phase }, { on := 26, ground := .phase }, { on := 27, ground := .phase }, { on := 28, ground := .phase }, { on := 29, ground := .phase }, { on := 30, ground := .phase }, { on := 31, ground := .phase }, { on := 32, ground := .phase }, { on := 33, ground := .phase }], guard := none }
abbrev oRcU4 : Oper := { dst := some 149, op := .load 26 (.tmp 10), type := 26, pos := "l04_screen.go:395", after := #[], guard := none }
abbrev oRcU5 : Oper := { dst := some 150, op := .load 26 (.tmp 10), type := 26, pos := "l04_screen.go:395", after := #[], guard := none }
abbrev oRcU6 : Oper := { dst := some 151, op := .call { callee := .value (.func 26), args := #[.tmp 150], argTypes := #[26] }, type := 4, pos := "l04_screen.go:395", after := #[{ on := 1, ground := .data }], guard := none }
abbrev oRcU7 : Oper := { dst := none, op := .store 26 (.tmp 2) (.tmp 149), type := 0, pos := "l04_screen.go:395", after := #[{ on := 0, ground := .data }, { on := 2, ground := .chain }, { on := 0, ground := .phase }, { on := 1, ground := .textOnly Go.Departure.lateStores }, { on := 2, ground := .textOnly Go.Departure.lateStoresUnsure }], guard := none }
abbrev oRcU8 : Oper := { dst := some 3, op := .assign (.tmp 151), type := 4, pos := "l04_screen.go:395", after := #[{ on := 2, ground := .data }, { on := 3, ground := .chain }, { on := 0, ground := .phase }, { on := 1, ground := .phase }, { on := 2, ground := .phase }, { on := 3, ground := .phase }], guard := none }
abbrev oRcU9 : Oper := { dst := some 129, op := .fieldAddr 26 (.tmp 10) 10, type := 0, pos := "l04_screen.go:392", after := #[], guard := none }
abbrev oRcU10 : Oper := { dst := some 131, op := .move (.tmp 12), type := 9, pos := "l04_screen.go:392", after := #[], guard := none }
abbrev oRcU11 : Oper := { dst := some 132, op := .move (.tmp 13), type := 3, pos := "l04_screen.go:392", after := #[], guard := none }
abbrev oRcU12 : Oper := { dst := some 133, op := .binOp .mul 3 (.const (.int .i64 4)) (.tmp 132) 3, type := 3, pos := "l04_screen.go:392", after := #[{ on := 3, ground := .data }], guard := none }
abbrev oRcU13 : Oper := { dst := some 134, op := .move (.tmp 13), type := 3, pos := "l04_screen.go:392", after := #[], guard := none }
abbrev oRcU14 : Oper := { dst := some 135, op := .binOp .mul 3 (.const (.int .i64 4)) (.tmp 134) 3, type := 3, pos := "l04_screen.go:392", after := #[{ on := 5, ground := .data }], guard := none }
abbrev oRcU15 : Oper := { dst := some 136, op := .binOp .add 3 (.tmp 135) (.const (.int .i64 3)) 3, type := 3, pos := "l04_screen.go:392", after := #[{ on := 6, ground := .data }], guard := none }
abbrev oRcU16 : Oper := { dst := some 137, op := .slice 9 (.tmp 131) (some (.tmp 133)) (some (.tmp 136)) none, type := 9, pos := "l04_screen.go:392", after := #[{ on := 2, ground := .data }, { on := 4, ground := .data }, { on := 7, ground := .data }], guard := none }
abbrev oRcU17 : Oper := { dst := some 139, op := .move (.tmp 12), type := 9, pos := "l04_screen.go:392", after := #[], guard := none }
abbrev oRcU18 : Oper := { dst := some 140, op := .move (.tmp 13), type := 3, pos := "l04_screen.go:392", after := #[], guard := none }
abbrev oRcU19 : Oper := { dst := some 141, op := .binOp .mul 3 (.const (.int .i64 4)) (.tmp 140) 3, type := 3, pos := "l04_screen.go:392", after := #[{ on := 11, ground := .data }], guard := none }
abbrev oRcU20 : Oper := { dst := some 142, op := .binOp .add 3 (.tmp 141) (.const (.int .i64 3)) 3, type := 3, pos := "l04_screen.go:392", after := #[{ on := 12, ground := .data }], guard := none }
abbrev oRcU21 : Oper := { dst := some 143, op := .index 9 (.tmp 139) (.tmp 142), type := 5, pos := "l04_screen.go:392", after := #[{ on := 10, ground := .data }, { on := 13, ground := .data }], guard := none }
abbrev oRcU22 : Oper := { dst := some 144, op := .convert 5 3 (.tmp 143), type := 3, pos := "l04_screen.go:392", after := #[{ on := 14, ground := .data }], guard := none }
abbrev oRcU23 : Oper := { dst := some 130, op := .load 23 (.tmp 129), type := 23, pos := "l04_screen.go:392", after := #[{ on := 0, ground := .data }], guard := none }
abbrev oRcU24 : Oper := { dst := some 138, op := .call { callee := .value (.func 25), args := #[.tmp 137], argTypes := #[9] }, type := 3, pos := "l04_screen.go:392", after := #[{ on := 8, ground := .data }], guard := none }
abbrev oRcU25 : Oper := { dst := some 145, op := .build 53 #[(0, .tmp 138), (1, .tmp 144)], type := 53, pos := "l04_screen.go:392", after := #[{ on := 9, ground := .data }, { on := 15, ground := .data }], guard := none }
abbrev oRcU26 : Oper := { dst := some 146, op := .buildSlice 23 1 #[(0, .tmp 145)], type := 23, pos := "l04_screen.go:392", after := #[{ on := 16, ground := .data }], guard := none }
abbrev oRcU27 : Oper := { dst := some 147, op := .call { callee := .builtin Go.Builtin.append, args := #[.tmp 130, .tmp 146], argTypes := #[23, 23] }, type := 23, pos := "l04_screen.go:392", after := #[{ on := 1, ground := .data }, { on := 17, ground := .data }, { on := 9, ground := .chain }], guard := none }
abbrev oRcU28 : Oper := { dst := some 148, op := .fieldAddr 26 (.tmp 10) 10, type := 0, pos := "l04_screen.go:392", after := #[{ on := 0, ground := .phase }, { on := 1, ground := .phase }, { on := 2, ground := .phase }, { on := 3, ground := .phase }, { on := 4, ground := .phase }, { on := 5, ground := .phase }, { on := 6, ground := .phase }, { on := 7, ground := .phase }, { on := 8, ground := .phase }, { on := 9, ground := .phase }, { on := 10, ground := .phase }, { on := 11, ground := .phase }, { on := 12, ground := .phase }, { on := 13, ground := .phase }, { on := 14, ground := .phase }, { on := 15, ground := .phase }, { on := 16, ground := .phase }, { on := 17, ground := .phase }, { on := 18, ground := .phase }], guard := none }
abbrev oRcU29 : Oper := { dst := none, op := .store 23 (.tmp 148) (.tmp 147), type := 0, pos := "l04_screen.go:392", after := #[{ on := 19, ground := .data }, { on := 18, ground := .data }, { on := 18, ground := .chain }, { on := 0, ground := .phase }, { on := 1, ground := .phase }, { on := 2, ground := .phase }, { on := 3, ground := .phase }, { on := 4, ground := .phase }, { on := 5, ground := .phase }, { on := 6, ground := .phase }, { on := 7, ground := .phase }, { on := 8, ground := .phase }, { on := 9, ground := .phase }, { on := 10, ground := .phase }, { on := 11, ground := .phase }, { on := 12, ground := .phase }, { on := 13, ground := .phase }, { on := 14, ground := .phase }, { on := 15, ground := .phase }, { on := 16, ground := .phase }, { on := 17, ground := .phase }, { on := 18, ground := .phase }], guard := none }
theorem addr_add0 (g j : Nat) : (⟨g, 0, none⟩ : Addr).add j = ⟨g, j, none⟩ := by unfold Addr.add; split <;> simp_all
theorem own_keepS {w w' : World} {base : Nat} {e : TypeId} {z g n cap : Nat} {xs : List Value} (h : w.ownsRow base e z (.slice (some ⟨g, 0, none⟩) n cap) n xs) (hb : w'.heap[g]? = w.heap[g]?) : w'.ownsRow base e z (.slice (some ⟨g, 0, none⟩) n cap) n xs := by
 obtain ⟨h1, h2⟩ := h
 refine ⟨h1, ?_⟩
 rcases h2 with ⟨h2, _⟩ | ⟨g', cap', cur, hv, hbg, hgc, hrest⟩
 ·cases h2
 ·have e1 : g = g' := by injection hv with e1 _ _; injection e1 with e1; injection e1
  subst e1
  exact .inr ⟨g, cap', cur, hv, hbg, by rw [hb]; exact hgc, hrest⟩
theorem c4_partsS (s : ByteArray) (j b c : Nat) (hb : b = 4 * j) (hc : c = 4 * j + 3) (h : c < s.size) : c4 s.data.toList j = (((ofBE (s.extract b c).data.toList : Nat) : Int), (s[c].toNat : Int)) := by
 subst hb hc
 unfold c4
 have e1 : (s.extract (4 * j) (4 * j + 3)).data.toList = (s.data.toList.drop (4 * j)).take 3 := by simp
 have e2 : (s.data.toList.drop (4 * j + 3)).take 1 = [s[4 * j + 3]] := by
  rw [List.take_one, List.head?_drop, List.getElem?_eq_getElem (by simpa using h)]
  simp [ByteArray.getElem_eq_getElem_data]
 rw [e1, e2]
 simp [ofBE]
theorem snumX (X : ByteArray) (h : X.size ≤ 4) (xv : Int) (HX : Hid (((ofBE X.data.toList : Nat) : Int) = xv)) (w : World) : Calls Tryd.prog 25 #[.string X] w fun e w' => e = .returned (.int .i64 xv) ∧ w' = w := by
 have T := snumberOf X h w
 rw [unhide HX] at T
 exact T
theorem sokN (i0 i1 i2 i3 i4 i5 i6 i7 i8 : Int) (t : ByteArray) (a : Option Addr) (cap q : Nat) (l : List (Int × Int)) (HL : Hid (l.length = q)) (b : Option Addr) (capb mh : Nat) (m : List ByteArray) (HM : Hid (m.length = mh)) (ht : t.size ≤ 1048576) (hl : q ≤ 1048576) (hm : mh ≤ 1048576) (hz : ∀ k (h : k < m.length), m[k].size ≤ 1048576) (R : Bool) (HR : Hid (R = okB i0 i1 i2 i3 i4 i5 i6 i7 i8 t.data.toList l m)) (w : World) (hr : RowV w a (cP l)) (hs : RowV w b (cS m)) :
  Calls Tryd.prog 26 #[.agg #[.int .i64 i0, .int .i64 i1, .int .i64 i2, .int .i64 i3, .int .i64 i4, .int .i64 i5, .int .i64 i6, .int .i64 i7, .int .i64 i8, .string t, .slice a q cap, .slice b mh capb]] w fun e w' => e = .returned (.bool R) ∧ Below w.heap.size w w' := by
 have T := sok i0 i1 i2 i3 i4 i5 i6 i7 i8 t a cap l b capb m ht (by rw [unhide HL]; exact hl) (by rw [unhide HM]; exact hm) hz w hr hs
 rw [unhide HL, unhide HM, ← unhide HR] at T
 exact T
/-- How l04Read ends where the fields hold right sizes. -/
def SrPost (w : World) (W H : Nat) (i2 i3 i4 i5 i6 i7 i8 : Int) (t : ByteArray) (mh : Nat) (m rs : List ByteArray) (R : Bool) (e : Ending) (w' : World) : Prop :=
 (∃ (a2 : Option Addr) (c2 : Nat) (a4 : Option Addr) (c4 q : Nat), (rowsC W rs).length = q ∧ e = .returned (.tuple #[.agg #[.int .i64 (W : Int), .int .i64 (H : Int), .int .i64 i2, .int .i64 i3, .int .i64 i4, .int .i64 i5, .int .i64 i6, .int .i64 i7, .int .i64 i8, .string t, .slice a2 q c2, .slice a4 mh c4], .bool R]) ∧ (∀ s ∈ rs, s.size = 4 * W) ∧ w'.ownsRow w.heap.size 53 2 (.slice a2 q c2) q (cP (rowsC W rs)) ∧ w'.ownsRow w.heap.size 9 1 (.slice a4 mh c4) mh (cS m) ∧ Below w.heap.size w w') ∨ (e = .returned (.tuple #[.agg #[.int .i64 0, .int .i64 0, .int .i64 0, .int .i64 0, .int .i64 0, .int .i64 0, .int .i64 0, .int .i64 0, .int .i64 0, .string ⟨#[]⟩, .slice none 0 0, .slice none 0 0], .bool false]) ∧ (∃ s ∈ rs, ¬ s.size = 4 * W) ∧ Below w.heap.size w w')
set_option maxHeartbeats 16000000 in
set_option maxRecDepth 100000 in
theorem srs_rows (s : ByteArray) (d t f : ByteArray) (rs : List ByteArray) (rr : Nat) (hr60 : rr + 3 ≤ 60) (HRL : Hid (rs.length = rr)) (HRZ : Hid (∀ k (h : k < rs.length), rs[k].size ≤ 20000)) (h27 : d.size = 3 * 9) (W H : Nat) (hW1 : 2 ≤ W) (hW2 : W ≤ 24) (hH1 : 2 ≤ H) (hH2 : H ≤ 10) (hrr : rr = H) (i2 i3 i4 i5 i6 i7 i8 : Int) (hx : numsR d.data.toList 9 = [(W : Int), (H : Int), i2, i3, i4, i5, i6, i7, i8]) (ht : t.size ≤ 1048576) (mh : Nat) (m : List ByteArray) (HM : Hid (m.length = mh)) (hmh : mh ≤ 1048576) (HMZ : Hid (∀ k (h : k < m.length), m[k].size ≤ 1048576)) (R : Bool) (HRR : Hid (R = okB (W : Int) (H : Int) i2 i3 i4 i5 i6 i7 i8 t.data.toList (rowsC W rs) m)) (w : World) (T1 : Hid (∀ w1, Calls Tryd.prog 22 #[.string s] w1 fun e w' => ∃ v', e = .returned (.tuple #[v', .bool true]) ∧ w'.ownsRow w1.heap.size 9 1 v' (rr + 3) (cS (d :: t :: f :: rs)) ∧ Below w1.heap.size w1 w')) (T2 : Hid (∀ w1, Calls Tryd.prog 22 #[.string f] w1 fun e w' => ∃ v', e = .returned (.tuple #[v', .bool true]) ∧ w'.ownsRow w1.heap.size 9 1 v' mh (cS m) ∧ Below w1.heap.size w1 w')) :
  Calls Tryd.prog 12 #[.string s] w (SrPost w W H i2 i3 i4 i5 i6 i7 i8 t mh m rs R) := by
 obtain ⟨iz, hi, hz0, hz1, hz2⟩ := info_parts Tryd.infC53
 have hszb : sizeB (W : Int) (H : Int) = true := by unfold sizeB; exact decide_eq_true (by omega)
 have hwr : IntKind.i64.wrap (3 + (H : Int)) = 3 + (H : Int) := wrapi _ (by omega) (by omega)
 have hne3 : ((rr : Int) + 3 != 3 + (H : Int)) = false := by rw [bne_eq_false_iff_eq]; omega
 have hr4 : (1 : Int) < (rr : Int) + 3 := by omega
 have HRH := hide hrr
 have HW24 := hide hW2
 have HH10 := hide hH2
 have HTB := hide ht
 have HMB := hide hmh
 have hW24 : (W : Int) ≤ 24 := by omega
 have hH10 : (H : Int) ≤ 10 := by omega
 clear hW1 hH1 hrr hW2 hH2 ht hmh
 have B0 := hide (Go.Joins.below_alloc1 w (Obj.cells #[.int .i64 0, .int .i64 0, .int .i64 0, .int .i64 0, .int .i64 0, .int .i64 0, .int .i64 0, .int .i64 0, .int .i64 0, .string ⟨#[]⟩, .slice none 0 0, .slice none 0 0] 26))
 have Y0 := hide (BF.new w #[.int .i64 0, .int .i64 0, .int .i64 0, .int .i64 0, .int .i64 0, .int .i64 0, .int .i64 0, .int .i64 0, .int .i64 0, .string ⟨#[]⟩, .slice none 0 0, .slice none 0 0] 26)
 have TN := hide (fun w => sreadnums30 d 9 h27 (by omega) w)
 rw [numsR_len, hx] at TN
 clear hx h27
 go_enter Tryd.func12, Tryd.ntmps12
 go_wp2_with fail
 refine (unhide T1 _).mono ?_
 rintro e w1 ⟨v1, rfl, ho1, hb1⟩
 obtain ⟨a1, c1, rfl, -⟩ := own_rowV ho1
 have B1 := hide ((unhide B0).trans (hb1.mono (unhide B0).size))
 have Y1 := hide ((unhide Y0).below hb1)
 have hr1 : ¬ ((rr : Int) + 3) < 3 := by omega
 have hr2 : (0 : Int) < (rr : Int) + 3 := by omega
 have hr3 : (2 : Int) < (rr : Int) + 3 := by omega
 obtain ⟨g1, rfl⟩ := own_atN ho1 (by omega)
 have d0 := own_cellN ho1 0 _ rfl
 have hg1 := (World.ownsRow.lt ho1 g1 rfl).2
 have D2 := hide (own_cellN ho1 2 _ rfl)
 have D1 := hide (own_cellN ho1 1 _ rfl)
 have hc1 : ∀ k (h : k < rs.length), w1.cell? ⟨g1, 3 + k, none⟩ = some (.string rs[k]) := fun k h => own_cellN ho1 (3 + k) _ (by rw [Nat.add_comm 3 k]; unfold cS; simp only [List.map_cons, List.getElem?_cons_succ]; rw [List.getElem?_map, List.getElem?_eq_getElem h]; rfl)
 clear ho1 hb1 T1 B0 Y0
 go_wp2_with fail
 refine (unhide TN _).mono ?_
 rintro e w3 ⟨v3, rfl, ho3, hb3⟩
 obtain ⟨a3, c3, rfl, -⟩ := own_rowV ho3
 obtain ⟨gn, rfl⟩ := own_atN ho3 (by decide)
 have d2 : w3.cell? ⟨g1, 2, none⟩ = some (.string f) := (hb3.cell (p := ⟨g1, 2, none⟩) hg1).trans (unhide D2)
 have B3 := hide ((unhide B1).trans (hb3.mono (unhide B1).size))
 have Y3 := hide ((unhide Y1).below hb3)
 have k3 : w3.cell? ⟨gn, 0, none⟩ = some (.int .i64 (W : Int)) ∧ w3.cell? ⟨gn, 1, none⟩ = some (.int .i64 (H : Int)) ∧ w3.cell? ⟨gn, 2, none⟩ = some (.int .i64 i2) ∧ w3.cell? ⟨gn, 3, none⟩ = some (.int .i64 i3) ∧ w3.cell? ⟨gn, 4, none⟩ = some (.int .i64 i4) ∧ w3.cell? ⟨gn, 5, none⟩ = some (.int .i64 i5) ∧ w3.cell? ⟨gn, 6, none⟩ = some (.int .i64 i6) ∧ w3.cell? ⟨gn, 7, none⟩ = some (.int .i64 i7) ∧ w3.cell? ⟨gn, 8, none⟩ = some (.int .i64 i8) := ⟨own_cellN ho3 0 _ rfl, own_cellN ho3 1 _ rfl, own_cellN ho3 2 _ rfl, own_cellN ho3 3 _ rfl, own_cellN ho3 4 _ rfl, own_cellN ho3 5 _ rfl, own_cellN ho3 6 _ rfl, own_cellN ho3 7 _ rfl, own_cellN ho3 8 _ rfl⟩
 have hgn3 := (World.ownsRow.lt ho3 gn rfl).2
 have hg13 : g1 < w3.heap.size := Nat.lt_of_lt_of_le hg1 hb3.size
 have t3 : w3.cell? ⟨g1, 1, none⟩ = some (.string t) := (hb3.cell (p := ⟨g1, 1, none⟩) hg1).trans (unhide D1)
 have HC3 : ∀ k (h : k < rs.length), w3.cell? ⟨g1, 3 + k, none⟩ = some (.string rs[k]) := fun k h => (hb3.cell (p := ⟨g1, 3 + k, none⟩) hg1).trans (hc1 k h)
 clear ho3
 clear hb3 B1 Y1 d0 TN
 go_wp2_with fail
 refine (unhide T2 _).mono ?_
 rintro e w4 ⟨v4, rfl, ho4, hb4⟩
 obtain ⟨a4, c4, rfl, -⟩ := own_rowV ho4
 have B4 := hide ((unhide B3).trans (hb4.mono (unhide B3).size))
 have Y4 := hide ((unhide Y3).below hb4)
 have k4 : w4.cell? ⟨gn, 0, none⟩ = some (.int .i64 (W : Int)) ∧ w4.cell? ⟨gn, 1, none⟩ = some (.int .i64 (H : Int)) ∧ w4.cell? ⟨gn, 2, none⟩ = some (.int .i64 i2) ∧ w4.cell? ⟨gn, 3, none⟩ = some (.int .i64 i3) ∧ w4.cell? ⟨gn, 4, none⟩ = some (.int .i64 i4) ∧ w4.cell? ⟨gn, 5, none⟩ = some (.int .i64 i5) ∧ w4.cell? ⟨gn, 6, none⟩ = some (.int .i64 i6) ∧ w4.cell? ⟨gn, 7, none⟩ = some (.int .i64 i7) ∧ w4.cell? ⟨gn, 8, none⟩ = some (.int .i64 i8) ∧ w4.cell? ⟨g1, 1, none⟩ = some (.string t) := ⟨(hb4.cell (p := ⟨gn, 0, none⟩) hgn3).trans k3.1, (hb4.cell (p := ⟨gn, 1, none⟩) hgn3).trans k3.2.1, (hb4.cell (p := ⟨gn, 2, none⟩) hgn3).trans k3.2.2.1, (hb4.cell (p := ⟨gn, 3, none⟩) hgn3).trans k3.2.2.2.1, (hb4.cell (p := ⟨gn, 4, none⟩) hgn3).trans k3.2.2.2.2.1, (hb4.cell (p := ⟨gn, 5, none⟩) hgn3).trans k3.2.2.2.2.2.1, (hb4.cell (p := ⟨gn, 6, none⟩) hgn3).trans k3.2.2.2.2.2.2.1, (hb4.cell (p := ⟨gn, 7, none⟩) hgn3).trans k3.2.2.2.2.2.2.2.1, (hb4.cell (p := ⟨gn, 8, none⟩) hgn3).trans k3.2.2.2.2.2.2.2.2, (hb4.cell (p := ⟨g1, 1, none⟩) hg13).trans t3⟩
 have HGN : Hid (gn < w4.heap.size) := Nat.lt_of_lt_of_le hgn3 hb4.size
 have HG1 : Hid (g1 < w4.heap.size) := Nat.lt_of_lt_of_le hg13 hb4.size
 have HC : Hid (∀ k (h : k < rs.length), w4.cell? ⟨g1, 3 + k, none⟩ = some (.string rs[k])) := fun k h => (hb4.cell (p := ⟨g1, 3 + k, none⟩) hg13).trans (HC3 k h)
 obtain ⟨loH, hloH⟩ : ∃ lo, lo = w3.heap.size := ⟨_, rfl⟩
 have HH4 := hide (held_of ho4)
 rw [← hloH] at HH4
 have HLO : Hid (w.heap.size + 1 ≤ loH) := by have := (unhide Y3).lt; show _ ≤ _; omega
 have hgn5 := unhide HGN
 have hgg5 := unhide HG1
 clear k3 t3 hgn3 hg13 HC3 hloH
 clear ho4 hb4 d2 T2 B3 Y3 D2 D1 hc1
 go_wp2_with fail
 refine wp_region_held_drew (S := (fun w' => w'.cell? ⟨gn, 0, none⟩ = some (.int .i64 (W : Int)) ∧ w'.cell? ⟨gn, 1, none⟩ = some (.int .i64 (H : Int)) ∧ w'.cell? ⟨gn, 2, none⟩ = some (.int .i64 i2) ∧ w'.cell? ⟨gn, 3, none⟩ = some (.int .i64 i3) ∧ w'.cell? ⟨gn, 4, none⟩ = some (.int .i64 i4) ∧ w'.cell? ⟨gn, 5, none⟩ = some (.int .i64 i5) ∧ w'.cell? ⟨gn, 6, none⟩ = some (.int .i64 i6) ∧ w'.cell? ⟨gn, 7, none⟩ = some (.int .i64 i7) ∧ w'.cell? ⟨gn, 8, none⟩ = some (.int .i64 i8) ∧ w'.cell? ⟨g1, 1, none⟩ = some (.string t))) (by kernel_rfl) k4 (fun hHeld => ?_)
 have K4 := hide k4
 have k5 : w4.drew.cell? ⟨gn, 0, none⟩ = some (.int .i64 (W : Int)) ∧ w4.drew.cell? ⟨gn, 1, none⟩ = some (.int .i64 (H : Int)) ∧ w4.drew.cell? ⟨gn, 2, none⟩ = some (.int .i64 i2) ∧ w4.drew.cell? ⟨gn, 3, none⟩ = some (.int .i64 i3) ∧ w4.drew.cell? ⟨gn, 4, none⟩ = some (.int .i64 i4) ∧ w4.drew.cell? ⟨gn, 5, none⟩ = some (.int .i64 i5) ∧ w4.drew.cell? ⟨gn, 6, none⟩ = some (.int .i64 i6) ∧ w4.drew.cell? ⟨gn, 7, none⟩ = some (.int .i64 i7) ∧ w4.drew.cell? ⟨gn, 8, none⟩ = some (.int .i64 i8) ∧ w4.drew.cell? ⟨g1, 1, none⟩ = some (.string t) := k4
 have B5 : Hid (Below w4.heap.size w4 w4.drew) := (Below.refl _ _).drew
 clear k4
 generalize w4.drew = w5 at B5 k5 hHeld ⊢
 refine wtv 0 (oi := { dst := some 41, op := .move (.tmp 7), type := 4, pos := "l04_screen.go:382", after := #[], guard := none }) ?_
 refine wtv 1 (oi := { dst := some 42, op := .unOp .not 4 (.tmp 41), type := 4, pos := "l04_screen.go:382", after := #[{ on := 0, ground := .data }], guard := none }) ?_
 refine wtv 2 (oi := { dst := some 43, op := .move (.tmp 42), type := 4, pos := "l04_screen.go:382", after := #[{ on := 1, ground := .data }], guard := none }) ?_
 refine wtv 3 (oi := { dst := some 44, op := .move (.tmp 9), type := 4, pos := "l04_screen.go:382", after := #[{ on := 2, ground := .guard }], guard := some (2, false) }) ?_
 refine wtv 4 (oi := { dst := some 45, op := .unOp .not 4 (.tmp 44), type := 4, pos := "l04_screen.go:382", after := #[{ on := 3, ground := .data }, { on := 2, ground := .guard }], guard := some (2, false) }) ?_
 refine wtv 5 (oi := { dst := some 46, op := .pick (.tmp 43) (.const (.bool true)) (.tmp 45), type := 4, pos := "l04_screen.go:382", after := #[{ on := 2, ground := .data }, { on := 4, ground := .data }], guard := none }) ?_
 refine wtv 6 (oi := { dst := some 47, op := .move (.tmp 46), type := 4, pos := "l04_screen.go:382", after := #[{ on := 5, ground := .data }, { on := 2, ground := .chain }], guard := none }) ?_
 refine wtv 7 (oi := { dst := some 48, op := .move (.tmp 6), type := 47, pos := "l04_screen.go:382", after := #[{ on := 6, ground := .guard }], guard := some (6, false) }) ?_
 refine wtv 8 (oi := { dst := some 49, op := .call { callee := .builtin Go.Builtin.len, args := #[.tmp 48], argTypes := #[47] }, type := 3, pos := "l04_screen.go:382", after := #[{ on := 7, ground := .data }, { on := 6, ground := .guard }], guard := some (6, false) }) ?_
 refine wtv 9 (oi := { dst := some 50, op := .binOp .neq 3 (.tmp 49) (.const (.int .i64 9)) 3, type := 4, pos := "l04_screen.go:382", after := #[{ on := 8, ground := .data }, { on := 6, ground := .guard }], guard := some (6, false) }) ?_
 refine wtv 10 (oi := { dst := some 51, op := .pick (.tmp 47) (.const (.bool true)) (.tmp 50), type := 4, pos := "l04_screen.go:382", after := #[{ on := 6, ground := .data }, { on := 9, ground := .data }], guard := none }) ?_
 refine wtv 11 (oi := { dst := some 52, op := .move (.tmp 51), type := 4, pos := "l04_screen.go:382", after := #[{ on := 10, ground := .data }, { on := 6, ground := .chain }], guard := none }) ?_
 refine wtv 12 (oi := { dst := some 53, op := .move (.tmp 6), type := 47, pos := "l04_screen.go:382", after := #[{ on := 11, ground := .guard }], guard := some (11, false) }) ?_
 refine wtv 13 (oi := { dst := some 54, op := .indexAddr 47 (.tmp 53) (.const (.int .i64 0)), type := 0, pos := "l04_screen.go:382", after := #[{ on := 12, ground := .data }, { on := 11, ground := .guard }], guard := some (11, false) }) ?_
 refine wtv 14 (oi := { dst := some 55, op := .load 3 (.tmp 54), type := 3, pos := "l04_screen.go:382", after := #[{ on := 13, ground := .data }, { on := 11, ground := .guard }], guard := some (11, false) }) ?_
 refine wtv 15 (oi := { dst := some 56, op := .move (.tmp 6), type := 47, pos := "l04_screen.go:382", after := #[{ on := 11, ground := .guard }], guard := some (11, false) }) ?_
 refine wtv 16 (oi := { dst := some 57, op := .indexAddr 47 (.tmp 56) (.const (.int .i64 1)), type := 0, pos := "l04_screen.go:382", after := #[{ on := 15, ground := .data }, { on := 11, ground := .guard }], guard := some (11, false) }) ?_
 refine wtv 17 (oi := { dst := some 58, op := .load 3 (.tmp 57), type := 3, pos := "l04_screen.go:382", after := #[{ on := 16, ground := .data }, { on := 11, ground := .guard }], guard := some (11, false) }) ?_
 refine wpAnyH_ready (rs := [18]) (by kernel_rfl) (by simp) ?_
 refine AllReadyH.cons (o := { dst := some 59, op := .call { callee := .value (.func 24), args := #[.tmp 55, .tmp 58], argTypes := #[3, 3] }, type := 4, pos := "l04_screen.go:382", after := #[{ on := 14, ground := .data }, { on := 17, ground := .data }, { on := 11, ground := .chain }, { on := 11, ground := .guard }], guard := some (11, false) }) rfl (fun K hK => ?_) AllReadyH.nil
 go_simp
 refine (ssize (W : Int) (H : Int) _).mono ?_
 rintro e wq ⟨rfl, hw⟩
 subst wq
 rw [hszb]
 go_wp2_with fail
 refine hK.out _ _ ?_ (fun hHeld18 => ?_)
 ·exact k5
 clear hK K
 try simp only [Act.put, qqA, qqB, qqC]
 refine wtv 19 (oi := { dst := some 60, op := .unOp .not 4 (.tmp 59), type := 4, pos := "l04_screen.go:382", after := #[{ on := 18, ground := .data }, { on := 11, ground := .guard }], guard := some (11, false) }) ?_
 refine wtv 20 (oi := { dst := some 61, op := .pick (.tmp 52) (.const (.bool true)) (.tmp 60), type := 4, pos := "l04_screen.go:382", after := #[{ on := 11, ground := .data }, { on := 19, ground := .data }], guard := none }) ?_
 refine wtv 21 (oi := { dst := some 62, op := .move (.tmp 61), type := 4, pos := "l04_screen.go:382", after := #[{ on := 20, ground := .data }, { on := 18, ground := .chain }], guard := none }) ?_
 refine wtv 22 (oi := { dst := some 63, op := .move (.tmp 4), type := 24, pos := "l04_screen.go:382", after := #[{ on := 21, ground := .guard }], guard := some (21, false) }) ?_
 refine wtv 23 (oi := { dst := some 64, op := .call { callee := .builtin Go.Builtin.len, args := #[.tmp 63], argTypes := #[24] }, type := 3, pos := "l04_screen.go:382", after := #[{ on := 22, ground := .data }, { on := 21, ground := .guard }], guard := some (21, false) }) ?_
 refine wtv 24 (oi := { dst := some 65, op := .move (.tmp 6), type := 47, pos := "l04_screen.go:382", after := #[{ on := 21, ground := .guard }], guard := some (21, false) }) ?_
 refine wtv 25 (oi := { dst := some 66, op := .indexAddr 47 (.tmp 65) (.const (.int .i64 1)), type := 0, pos := "l04_screen.go:382", after := #[{ on := 24, ground := .data }, { on := 21, ground := .guard }], guard := some (21, false) }) ?_
 refine wtv 26 (oi := { dst := some 67, op := .load 3 (.tmp 66), type := 3, pos := "l04_screen.go:382", after := #[{ on := 25, ground := .data }, { on := 21, ground := .guard }], guard := some (21, false) }) ?_
 refine wtv 27 (oi := { dst := some 68, op := .binOp .add 3 (.const (.int .i64 3)) (.tmp 67) 3, type := 3, pos := "l04_screen.go:382", after := #[{ on := 26, ground := .data }, { on := 21, ground := .guard }], guard := some (21, false) }) ?_
 refine wtv 28 (oi := { dst := some 69, op := .binOp .neq 3 (.tmp 64) (.tmp 68) 3, type := 4, pos := "l04_screen.go:382", after := #[{ on := 23, ground := .data }, { on := 27, ground := .data }, { on := 21, ground := .guard }], guard := some (21, false) }) ?_
 refine wtv 29 (oi := { dst := some 70, op := .pick (.tmp 62) (.const (.bool true)) (.tmp 69), type := 4, pos := "l04_screen.go:382", after := #[{ on := 21, ground := .data }, { on := 28, ground := .data }], guard := none }) ?_
 refine wpAnyH_done (by kernel_rfl) ?_ _
 go_wp2_with fail
 refine wp_region_held_drew (S := (fun w' => w'.cell? ⟨gn, 0, none⟩ = some (.int .i64 (W : Int)) ∧ w'.cell? ⟨gn, 1, none⟩ = some (.int .i64 (H : Int)) ∧ w'.cell? ⟨gn, 2, none⟩ = some (.int .i64 i2) ∧ w'.cell? ⟨gn, 3, none⟩ = some (.int .i64 i3) ∧ w'.cell? ⟨gn, 4, none⟩ = some (.int .i64 i4) ∧ w'.cell? ⟨gn, 5, none⟩ = some (.int .i64 i5) ∧ w'.cell? ⟨gn, 6, none⟩ = some (.int .i64 i6) ∧ w'.cell? ⟨gn, 7, none⟩ = some (.int .i64 i7) ∧ w'.cell? ⟨gn, 8, none⟩ = some (.int .i64 i8) ∧ w'.cell? ⟨g1, 1, none⟩ = some (.string t))) (by kernel_rfl) k5 (fun hHeld => ?_)
 have B6 := hide ((unhide B5).drew)
 clear B5 k5
 generalize w5.drew = w6 at B6 hHeld ⊢
 refine wtv 0 (oi := { dst := some 72, op := .move (.tmp 6), type := 47, pos := "l04_screen.go:385", after := #[], guard := none }) ?_
 refine wtv 1 (oi := { dst := some 73, op := .indexAddr 47 (.tmp 72) (.const (.int .i64 0)), type := 0, pos := "l04_screen.go:385", after := #[{ on := 0, ground := .data }], guard := none }) ?_
 refine wtv 2 (oi := { dst := some 74, op := .load 3 (.tmp 73), type := 3, pos := "l04_screen.go:385", after := #[{ on := 1, ground := .data }], guard := none }) ?_
 refine wtv 3 (oi := { dst := some 75, op := .move (.tmp 6), type := 47, pos := "l04_screen.go:385", after := #[], guard := none }) ?_
 refine wtv 4 (oi := { dst := some 76, op := .indexAddr 47 (.tmp 75) (.const (.int .i64 1)), type := 0, pos := "l04_screen.go:385", after := #[{ on := 3, ground := .data }], guard := none }) ?_
 refine wtv 5 (oi := { dst := some 77, op := .load 3 (.tmp 76), type := 3, pos := "l04_screen.go:385", after := #[{ on := 4, ground := .data }], guard := none }) ?_
 refine wtv 6 (oi := { dst := some 78, op := .move (.tmp 6), type := 47, pos := "l04_screen.go:385", after := #[], guard := none }) ?_
 refine wtv 7 (oi := { dst := some 79, op := .indexAddr 47 (.tmp 78) (.const (.int .i64 2)), type := 0, pos := "l04_screen.go:385", after := #[{ on := 6, ground := .data }], guard := none }) ?_
 refine wtv 8 (oi := { dst := some 80, op := .load 3 (.tmp 79), type := 3, pos := "l04_screen.go:385", after := #[{ on := 7, ground := .data }], guard := none }) ?_
 refine wtv 9 (oi := { dst := some 81, op := .move (.tmp 6), type := 47, pos := "l04_screen.go:385", after := #[], guard := none }) ?_
 refine wtv 10 (oi := { dst := some 82, op := .indexAddr 47 (.tmp 81) (.const (.int .i64 3)), type := 0, pos := "l04_screen.go:385", after := #[{ on := 9, ground := .data }], guard := none }) ?_
 refine wtv 11 (oi := { dst := some 83, op := .load 3 (.tmp 82), type := 3, pos := "l04_screen.go:385", after := #[{ on := 10, ground := .data }], guard := none }) ?_
 refine wtv 12 (oi := { dst := some 84, op := .move (.tmp 6), type := 47, pos := "l04_screen.go:385", after := #[], guard := none }) ?_
 refine wtv 13 (oi := { dst := some 85, op := .indexAddr 47 (.tmp 84) (.const (.int .i64 4)), type := 0, pos := "l04_screen.go:385", after := #[{ on := 12, ground := .data }], guard := none }) ?_
 refine wtv 14 (oi := { dst := some 86, op := .load 3 (.tmp 85), type := 3, pos := "l04_screen.go:385", after := #[{ on := 13, ground := .data }], guard := none }) ?_
 refine wtv 15 (oi := { dst := some 87, op := .move (.tmp 6), type := 47, pos := "l04_screen.go:385", after := #[], guard := none }) ?_
 refine wtv 16 (oi := { dst := some 88, op := .indexAddr 47 (.tmp 87) (.const (.int .i64 5)), type := 0, pos := "l04_screen.go:385", after := #[{ on := 15, ground := .data }], guard := none }) ?_
 refine wtv 17 (oi := { dst := some 89, op := .load 3 (.tmp 88), type := 3, pos := "l04_screen.go:385", after := #[{ on := 16, ground := .data }], guard := none }) ?_
 refine wtv 18 (oi := { dst := some 90, op := .move (.tmp 6), type := 47, pos := "l04_screen.go:385", after := #[], guard := none }) ?_
 refine wtv 19 (oi := { dst := some 91, op := .indexAddr 47 (.tmp 90) (.const (.int .i64 6)), type := 0, pos := "l04_screen.go:385", after := #[{ on := 18, ground := .data }], guard := none }) ?_
 refine wtv 20 (oi := { dst := some 92, op := .load 3 (.tmp 91), type := 3, pos := "l04_screen.go:385", after := #[{ on := 19, ground := .data }], guard := none }) ?_
 refine wtv 21 (oi := { dst := some 93, op := .move (.tmp 6), type := 47, pos := "l04_screen.go:385", after := #[], guard := none }) ?_
 refine wtv 22 (oi := { dst := some 94, op := .indexAddr 47 (.tmp 93) (.const (.int .i64 7)), type := 0, pos := "l04_screen.go:385", after := #[{ on := 21, ground := .data }], guard := none }) ?_
 refine wtv 23 (oi := { dst := some 95, op := .load 3 (.tmp 94), type := 3, pos := "l04_screen.go:385", after := #[{ on := 22, ground := .data }], guard := none }) ?_
 refine wtv 24 (oi := { dst := some 96, op := .move (.tmp 6), type := 47, pos := "l04_screen.go:385", after := #[], guard := none }) ?_
 refine wtv 25 (oi := { dst := some 97, op := .indexAddr 47 (.tmp 96) (.const (.int .i64 8)), type := 0, pos := "l04_screen.go:385", after := #[{ on := 24, ground := .data }], guard := none }) ?_
 refine wtv 26 (oi := { dst := some 98, op := .load 3 (.tmp 97), type := 3, pos := "l04_screen.go:385", after := #[{ on := 25, ground := .data }], guard := none }) ?_
 refine wtv 27 (oi := { dst := some 99, op := .move (.tmp 4), type := 24, pos := "l04_screen.go:385", after := #[], guard := none }) ?_
 refine wtv 28 (oi := { dst := some 100, op := .indexAddr 24 (.tmp 99) (.const (.int .i64 1)), type := 0, pos := "l04_screen.go:385", after := #[{ on := 27, ground := .data }], guard := none }) ?_
 refine wtv 29 (oi := { dst := some 101, op := .load 9 (.tmp 100), type := 9, pos := "l04_screen.go:385", after := #[{ on := 28, ground := .data }], guard := none }) ?_
 refine wtv 31 (oi := { dst := some 103, op := .move (.tmp 8), type := 24, pos := "l04_screen.go:385", after := #[], guard := none }) ?_
 refine wpAnyH_ready (rs := [30, 33]) (by kernel_rfl) (by simp) ?_
 refine AllReadyH.cons (o := oRcU0) rfl (fun K hK => ?_) (AllReadyH.cons (o := oRcU1) rfl (fun K hK => ?_) AllReadyH.nil)
 ·skip
  obtain ⟨Q, hQ⟩ : ∃ Q, Q = w6.heap.size := ⟨_, rfl⟩
  have hb7 : Below w6.heap.size w6 (w6.alloc (.cells #[] 53)) := Go.Joins.below_alloc1 w6 (.cells #[] 53)
  have B7 := hide ((unhide B6).trans (hb7.mono (unhide B6).size))
  have E7 : Hid ((w6.alloc (.cells #[] 53)).ownsRow w4.heap.size 53 2 (.slice (some ⟨Q, 0, none⟩) 0 0) 0 []) := by rw [hQ]; exact World.ownsRow_lit (e := 53) (base := w4.heap.size) (size := 2) w6 #[] 0 (unhide B6).size (by decide) rfl
  go_simp
  refine hK.out _ _ ?_ (fun hHeld30 => ?_)
  ·exact ⟨((unhide B7).cell (p := ⟨gn, 0, none⟩) (unhide HGN)).trans (unhide K4).1, ((unhide B7).cell (p := ⟨gn, 1, none⟩) (unhide HGN)).trans (unhide K4).2.1, ((unhide B7).cell (p := ⟨gn, 2, none⟩) (unhide HGN)).trans (unhide K4).2.2.1, ((unhide B7).cell (p := ⟨gn, 3, none⟩) (unhide HGN)).trans (unhide K4).2.2.2.1, ((unhide B7).cell (p := ⟨gn, 4, none⟩) (unhide HGN)).trans (unhide K4).2.2.2.2.1, ((unhide B7).cell (p := ⟨gn, 5, none⟩) (unhide HGN)).trans (unhide K4).2.2.2.2.2.1, ((unhide B7).cell (p := ⟨gn, 6, none⟩) (unhide HGN)).trans (unhide K4).2.2.2.2.2.2.1, ((unhide B7).cell (p := ⟨gn, 7, none⟩) (unhide HGN)).trans (unhide K4).2.2.2.2.2.2.2.1, ((unhide B7).cell (p := ⟨gn, 8, none⟩) (unhide HGN)).trans (unhide K4).2.2.2.2.2.2.2.2.1, ((unhide B7).cell (p := ⟨g1, 1, none⟩) (unhide HG1)).trans (unhide K4).2.2.2.2.2.2.2.2.2⟩
  clear hK K
  try simp only [Act.put, qqA, qqB, qqC]
  rw [← hQ]
  clear hb7 hQ B6
  generalize w6.alloc (.cells #[] 53) = w7 at B7 E7 hHeld30 ⊢
  refine wtv 32 (oi := oRcU2) ?_
  refine wpAnyH_ready (rs := [33]) (by kernel_rfl) (by simp) ?_
  refine AllReadyH.cons (o := oRcU1) rfl (fun K hK => ?_) AllReadyH.nil
  obtain ⟨P, hP⟩ : ∃ P, P = w7.heap.size := ⟨_, rfl⟩
  have hb8 : Below w7.heap.size w7 (w7.alloc (.cells #[.int .i64 0, .int .i64 0, .int .i64 0, .int .i64 0, .int .i64 0, .int .i64 0, .int .i64 0, .int .i64 0, .int .i64 0, .string ⟨#[]⟩, .slice none 0 0, .slice none 0 0] 26)) := Go.Joins.below_alloc1 w7 (.cells #[.int .i64 0, .int .i64 0, .int .i64 0, .int .i64 0, .int .i64 0, .int .i64 0, .int .i64 0, .int .i64 0, .int .i64 0, .string ⟨#[]⟩, .slice none 0 0, .slice none 0 0] 26)
  have V8 := hide (BF.new w7 #[.int .i64 0, .int .i64 0, .int .i64 0, .int .i64 0, .int .i64 0, .int .i64 0, .int .i64 0, .int .i64 0, .int .i64 0, .string ⟨#[]⟩, .slice none 0 0, .slice none 0 0] 26)
  have B8_ := hide ((unhide B7).trans (hb8.mono (unhide B7).size))
  have B8 := B8_
  have E8 := hide (((heldZ_of (unhide E7)).below hb8 (Nat.le_refl _)).own)
  have LP : Hid (w4.heap.size ≤ P) := by have := (unhide B7).size; show _ ≤ _; omega
  have HQP : Hid (Q ≠ P) := by have := (World.ownsRow.lt (unhide E7) Q rfl).2; show _ ≠ _; omega
  have HQ3 : Hid (w4.heap.size ≤ Q) := (World.ownsRow.lt (unhide E7) Q rfl).1
  rw [← hP] at V8
  go_simp
  refine hK.out _ _ ?_ (fun hHeld33 => ?_)
  ·exact ⟨((unhide B8).cell (p := ⟨gn, 0, none⟩) (unhide HGN)).trans (unhide K4).1, ((unhide B8).cell (p := ⟨gn, 1, none⟩) (unhide HGN)).trans (unhide K4).2.1, ((unhide B8).cell (p := ⟨gn, 2, none⟩) (unhide HGN)).trans (unhide K4).2.2.1, ((unhide B8).cell (p := ⟨gn, 3, none⟩) (unhide HGN)).trans (unhide K4).2.2.2.1, ((unhide B8).cell (p := ⟨gn, 4, none⟩) (unhide HGN)).trans (unhide K4).2.2.2.2.1, ((unhide B8).cell (p := ⟨gn, 5, none⟩) (unhide HGN)).trans (unhide K4).2.2.2.2.2.1, ((unhide B8).cell (p := ⟨gn, 6, none⟩) (unhide HGN)).trans (unhide K4).2.2.2.2.2.2.1, ((unhide B8).cell (p := ⟨gn, 7, none⟩) (unhide HGN)).trans (unhide K4).2.2.2.2.2.2.2.1, ((unhide B8).cell (p := ⟨gn, 8, none⟩) (unhide HGN)).trans (unhide K4).2.2.2.2.2.2.2.2.1, ((unhide B8).cell (p := ⟨g1, 1, none⟩) (unhide HG1)).trans (unhide K4).2.2.2.2.2.2.2.2.2⟩
  clear hK K
  try simp only [Act.put, qqA, qqB, qqC]
  rw [← hP]
  clear hb8 hP B7 E7 B8_
  generalize w7.alloc (.cells #[.int .i64 0, .int .i64 0, .int .i64 0, .int .i64 0, .int .i64 0, .int .i64 0, .int .i64 0, .int .i64 0, .int .i64 0, .string ⟨#[]⟩, .slice none 0 0, .slice none 0 0] 26) = w8 at B8 V8 E8 hHeld33 ⊢
  refine wpAnyH_ready (rs := [34]) (by kernel_rfl) (by simp) ?_
  refine AllReadyH.cons (o := oRcU3) rfl (fun K hK => ?_) AllReadyH.nil
  have fv := (unhide V8).F
  have sv := (unhide V8).S
  obtain ⟨w9, hw9, hV9, hbP, hgP⟩ := put12G w8 (unhide V8) (.int .i64 (W : Int)) (.int .i64 (H : Int)) (.int .i64 i2) (.int .i64 i3) (.int .i64 i4) (.int .i64 i5) (.int .i64 i6) (.int .i64 i7) (.int .i64 i8) (.string t) (.slice (some ⟨Q, 0, none⟩) 0 0) (.slice a4 mh c4)
  have P9 := hide hV9
  have B9 := hide ((unhide B8).trans (hbP.mono (unhide LP)))
  have E9 : Hid (w9.ownsRow w4.heap.size 53 2 (.slice (some ⟨Q, 0, none⟩) 0 0) 0 (cP (rowsC W (rs.take 0)))) := by
   rw [hw9]
   refine own_keepS (unhide E8) ?_
   iterate 12 rw [Below.heap_setCell _ _ _ _ (unhide HQP)]
  have F9 : Hid (∀ j, (Value.slice (some ⟨Q, 0, none⟩) 0 0).ownBlock = some j → w4.heap.size ≤ j ∧ j ≠ P) := fun j hj => by have e : Q = j := Option.some.inj hj; subst e; exact ⟨unhide HQ3, unhide HQP⟩
  go_simp
  rw [← hw9]
  refine hK.out _ _ ?_ (fun hHeld34 => ?_)
  ·exact ⟨((unhide B9).cell (p := ⟨gn, 0, none⟩) (unhide HGN)).trans (unhide K4).1, ((unhide B9).cell (p := ⟨gn, 1, none⟩) (unhide HGN)).trans (unhide K4).2.1, ((unhide B9).cell (p := ⟨gn, 2, none⟩) (unhide HGN)).trans (unhide K4).2.2.1, ((unhide B9).cell (p := ⟨gn, 3, none⟩) (unhide HGN)).trans (unhide K4).2.2.2.1, ((unhide B9).cell (p := ⟨gn, 4, none⟩) (unhide HGN)).trans (unhide K4).2.2.2.2.1, ((unhide B9).cell (p := ⟨gn, 5, none⟩) (unhide HGN)).trans (unhide K4).2.2.2.2.2.1, ((unhide B9).cell (p := ⟨gn, 6, none⟩) (unhide HGN)).trans (unhide K4).2.2.2.2.2.2.1, ((unhide B9).cell (p := ⟨gn, 7, none⟩) (unhide HGN)).trans (unhide K4).2.2.2.2.2.2.2.1, ((unhide B9).cell (p := ⟨gn, 8, none⟩) (unhide HGN)).trans (unhide K4).2.2.2.2.2.2.2.2.1, ((unhide B9).cell (p := ⟨g1, 1, none⟩) (unhide HG1)).trans (unhide K4).2.2.2.2.2.2.2.2.2⟩
  clear hK K
  try simp only [Act.put, qqA, qqB, qqC]
  refine wpAnyH_done (by kernel_rfl) ?_ _
  clear fv sv hw9 hV9 hbP hgP V8 B8 E8
  go_wp2_with fail
  go_loopg [11] H (fun gy i wr => ∃ (y q : Nat) (aV : Option Addr) (cV : Nat), y + gy = H ∧ i = .int .i64 (y : Int) ∧ Hid (q = y * W) ∧ Hid (Below w4.heap.size w4 wr) ∧ Hid (BF P #[.int .i64 (W : Int), .int .i64 (H : Int), .int .i64 i2, .int .i64 i3, .int .i64 i4, .int .i64 i5, .int .i64 i6, .int .i64 i7, .int .i64 i8, .string t, .slice aV q cV, .slice a4 mh c4] wr) ∧ Hid (wr.ownsRow w4.heap.size 53 2 (.slice aV q cV) q (cP (rowsC W (rs.take y)))) ∧ Hid (∀ j, (Value.slice aV q cV).ownBlock = some j → w4.heap.size ≤ j ∧ j ≠ P) ∧ Hid (∀ s ∈ rs.take y, s.size = 4 * W))
  case atStart => exact ⟨0, 0, _, _, by omega, rfl, (show Hid (0 = 0 * W) from by show _ = _; omega), B9, P9, E9, F9, (fun s hs => (by simp at hs))⟩
  case round =>
   clear B9 P9 E9 F9
   obtain ⟨y, q, aV, cV, hyg, rfl, HQ, HB, HP, HE, HF, HPO⟩ := hrel
   have kp0 := (unhide HP).S
   cases gk with
   | zero =>
    obtain rfl : H = y := by omega
    have hyz : ¬ (H : Int) < (H : Int) := by omega
    have HPR : Hid (∀ s ∈ rs, s.size = 4 * W) := by have h := unhide HPO; rw [List.take_of_length_le (by rw [unhide HRL]; exact Nat.le_of_eq (unhide HRH))] at h; exact h
    have HLQ : Hid ((rowsC W rs).length = q) := by show _ = _; rw [rowsC_len, unhide HRL, unhide HRH, unhide HQ]
    have HQB2 : Hid (q ≤ 240) := by show _ ≤ _; rw [unhide HQ]; exact Nat.mul_le_mul (unhide HH10) (unhide HW24)
    clear hyg
    go_wp2_with fail
    (try simp only [Exit.inBlock, Exit.then])
    refine wp_region_held_drew (S := (fun w' => ∀ o, w'.cell? ⟨P, o, none⟩ = (#[.int .i64 (W : Int), .int .i64 (H : Int), .int .i64 i2, .int .i64 i3, .int .i64 i4, .int .i64 i5, .int .i64 i6, .int .i64 i7, .int .i64 i8, .string t, .slice aV q cV, .slice a4 mh c4] : Array Value)[o]?)) (by kernel_rfl) (unhide HP).S (fun hHeld => ?_)
    have B10 := hide ((unhide HB).drew)
    have P10 := hide ((unhide HP).drew)
    have E10 : Hid (wr.drew.ownsRow w4.heap.size 53 2 (.slice aV q cV) q (cP (rowsC W rs))) := by have h := unhide HE; rw [List.take_of_length_le (by rw [unhide HRL]; exact Nat.le_of_eq (unhide HRH))] at h; exact h
    clear HB HP HE
    generalize wr.drew = w10 at B10 P10 E10 hHeld ⊢
    refine wtv 0 (oi := oRcU4) ?_
    refine wtv 1 (oi := oRcU5) ?_
    refine wpAnyH_ready (rs := [2]) (by kernel_rfl) (by simp) ?_
    refine AllReadyH.cons (o := oRcU6) rfl (fun K hK => ?_) AllReadyH.nil
    go_simp
    refine (sokN (W : Int) (H : Int) i2 i3 i4 i5 i6 i7 i8 t aV cV q (rowsC W rs) HLQ a4 c4 mh m HM (unhide HTB) (by have := unhide HQB2; omega) (unhide HMB) (unhide HMZ) R HRR _ (rowZ_at (unhide E10)) ((unhide HH4).rowV.below (unhide B10))).mono ?_
    rintro e w11 ⟨rfl, hb11⟩
    have B11 := hide ((unhide B10).trans (hb11.mono (unhide B10).size))
    have P11 := hide ((unhide P10).below hb11)
    have E11 := hide (((heldZ_of (unhide E10)).below hb11 (Nat.le_refl _)).own)
    clear hb11 B10 P10 E10
    go_wp2_with fail
    refine hK.out _ _ ?_ (fun hHeld2 => ?_)
    ·exact (unhide P11).S
    clear hK K
    try simp only [Act.put, qqA, qqB, qqC]
    refine wpAnyH_ready (rs := [3]) (by kernel_rfl) (by simp) ?_
    refine AllReadyH.cons (o := oRcU7) rfl (fun K hK => ?_) AllReadyH.nil
    have Y11 := hide ((unhide Y4).below (unhide B11))
    have fy := (unhide Y11).F
    have sy := (unhide Y11).S
    obtain ⟨w12, hw12, hY12, hbY, hgY⟩ := put12G w11 (unhide Y11) (.int .i64 (W : Int)) (.int .i64 (H : Int)) (.int .i64 i2) (.int .i64 i3) (.int .i64 i4) (.int .i64 i5) (.int .i64 i6) (.int .i64 i7) (.int .i64 i8) (.string t) (.slice aV q cV) (.slice a4 mh c4)
    have Y12 := hide hY12
    have B12 : Hid (Below w.heap.size w w12) := ((unhide B4).trans ((unhide B11).mono (unhide B4).size)).trans hbY
    have P12 := hide ((unhide P11).grown hgY (fun h => by have e : w.heap.size = P := Option.some.inj h; have := (unhide Y4).lt; have := unhide LP; omega))
    have E12 : Hid (w12.ownsRow w.heap.size 53 2 (.slice aV q cV) q (cP (rowsC W rs))) := by
     rw [hw12]
     refine Go.Joins.ownsRow_le (base := w4.heap.size) ?_ (by have := (unhide Y4).lt; omega)
     iterate 12 refine ownsRow_setCell_below ?_ (by exact (unhide Y4).lt) _
     exact unhide E11
    have H12 : Hid (w12.ownsRow w.heap.size 9 1 (.slice a4 mh c4) mh (cS m)) := Go.Joins.ownsRow_le (((unhide HH4).below (unhide B11) (unhide HH4).le).grown hgY (fun j hj => by have e : w.heap.size = j := Option.some.inj hj; have := unhide HLO; omega)).own (by have := unhide HLO; omega)
    go_simp
    rw [← hw12]
    refine hK.out _ _ ?_ (fun hHeld3 => ?_)
    ·exact (unhide P12).S
    clear hK K
    try simp only [Act.put, qqA, qqB, qqC]
    clear fy sy hw12 hY12 hbY hgY B11 P11 E11 Y11
    refine wtv 4 (oi := oRcU8) ?_
    refine wpAnyH_done (by kernel_rfl) ?_ _
    have st := (unhide Y12).S
    go_wp2_with fail
    refine bodyPost_ret (v := .tuple #[.agg #[.int .i64 (W : Int), .int .i64 (H : Int), .int .i64 i2, .int .i64 i3, .int .i64 i4, .int .i64 i5, .int .i64 i6, .int .i64 i7, .int .i64 i8, .string t, .slice aV q cV, .slice a4 mh c4], .bool R]) ?_ rfl (Or.inl ⟨aV, cV, a4, c4, q, unhide HLQ, rfl, unhide HPR, unhide E12, unhide H12, unhide B12⟩)
    rw [results_cell_tmp rfl]
    go_simp
   | succ gy =>
    have HYG := hide hyg
    have hylt : (y : Int) < (H : Int) := by omega
    have HY10 : Hid (y ≤ 10) := by have := unhide HH10; show _ ≤ _; omega
    have hlm : y < rs.length := by rw [unhide HRL, unhide HRH]; omega
    have HLM := hide hlm
    obtain ⟨s1, hs1⟩ : ∃ s1, s1 = rs[y] := ⟨_, rfl⟩
    have HS1 := hide hs1
    obtain ⟨j, hj⟩ : ∃ j, j = 3 + y := ⟨_, rfl⟩
    have hj3 : (3 : Int) + (y : Int) = (j : Int) := by omega
    have hjb : (j : Int) ≤ 100 := by have := unhide HY10; omega
    have hjr : (j : Int) < (rr : Int) + 3 := by have := unhide HRH; omega
    have hcell : wr.cell? ⟨g1, j, none⟩ = some (.string s1) := ((unhide HB).cell (p := ⟨g1, j, none⟩) (unhide HG1)).trans (by rw [hj, hs1]; exact unhide HC y hlm)
    have hszb2 : s1.size ≤ 20000 := by rw [hs1]; exact unhide HRZ y hlm
    obtain ⟨M, hM⟩ : ∃ M, M = 4 * W := ⟨_, rfl⟩
    have hM4 : (4 : Int) * (W : Int) = (M : Int) := by omega
    have hMb : (M : Int) ≤ 100 := by have := unhide HW24; omega
    by_cases h0 : s1.size = M
    ·have hne : ((s1.size : Int) != (M : Int)) = false := by rw [bne_eq_false_iff_eq]; omega
     have HSZ : Hid (s1.size = 4 * W) := by show _ = _; omega
     have HPO2 : Hid (∀ s ∈ rs.take (y + 1), s.size = 4 * W) := by
      intro s2 hs2
      rw [List.take_add_one, List.getElem?_eq_getElem hlm, Option.toList_some, List.mem_append, List.mem_singleton] at hs2
      rcases hs2 with h | h
      ·exact unhide HPO s2 h
      ·rw [h.trans hs1.symm]; exact unhide HSZ
     have HE0 : Hid (wr.ownsRow w4.heap.size 53 2 (.slice aV q cV) q (cP (rowsC W (rs.take y) ++ cells4 s1.data.toList 0))) := by
      have e : rowsC W (rs.take y) ++ cells4 s1.data.toList 0 = rowsC W (rs.take y) := by simp [cells4]
      show World.ownsRow _ _ _ _ _ _ _
      rw [e]
      exact unhide HE
     clear hj hs1 h0 hM hyg hlm
     go_wp2_with fail
     go_loopg [13] W (fun gx i wr => ∃ (x q : Nat) (aV : Option Addr) (cV : Nat), x + gx = W ∧ i = .int .i64 (x : Int) ∧ Hid (q = y * W + x) ∧ Hid (Below w4.heap.size w4 wr) ∧ Hid (BF P #[.int .i64 (W : Int), .int .i64 (H : Int), .int .i64 i2, .int .i64 i3, .int .i64 i4, .int .i64 i5, .int .i64 i6, .int .i64 i7, .int .i64 i8, .string t, .slice aV q cV, .slice a4 mh c4] wr) ∧ Hid (wr.ownsRow w4.heap.size 53 2 (.slice aV q cV) q (cP (rowsC W (rs.take y) ++ cells4 s1.data.toList x))) ∧ Hid (∀ j, (Value.slice aV q cV).ownBlock = some j → w4.heap.size ≤ j ∧ j ≠ P))
     case atStart => exact ⟨0, q, aV, cV, by omega, rfl, (show Hid (q = y * W + 0) from unhide HQ), HB, HP, HE0, HF⟩
     case round =>
      clear HB HP HE HE0 HF HQ kp0
      obtain ⟨x, q, aV, cV, hxg, rfl, HQ, HB, HP, HE, HF⟩ := hrel
      have kp1 := (unhide HP).S
      cases gk with
      | zero =>
       obtain rfl : x = W := by omega
       have hxz : ¬ (x : Int) < (x : Int) := by omega
       have HQ2 : Hid (q = (y + 1) * x) := by show _ = _; rw [unhide HQ, Nat.add_mul, Nat.one_mul]
       have HE2 : Hid (wr.ownsRow w4.heap.size 53 2 (.slice aV q cV) q (cP (rowsC x (rs.take (y + 1))))) := by show World.ownsRow _ _ _ _ _ _ _; have e : rs[y]'(unhide HLM) = s1 := (unhide HS1).symm; rw [rowsC_snoc x rs y (unhide HLM), e]; exact unhide HE
       clear hxg HE HQ
       go_wp2_with fail
       go_roundg gy
       case measure => omega
       case rel => exact ⟨y + 1, q, aV, cV, by have := unhide HYG; omega, by go_num, HQ2, HB, HP, HE2, HF, HPO2⟩
      | succ gx =>
       have hxlt : (x : Int) < (W : Int) := by omega
       have HXG := hide hxg
       have HXL : Hid (x < W) := by show _ < _; omega
       obtain ⟨b, hb⟩ : ∃ b, b = 4 * x := ⟨_, rfl⟩
       obtain ⟨c, hc⟩ : ∃ c, c = b + 3 := ⟨_, rfl⟩
       have hx24 : (x : Int) ≤ 24 := by omega
       have hw1 : IntKind.i64.wrap (4 * (x : Int)) = (b : Int) := by rw [wrapi _ (by omega) (by omega)]; omega
       have hw2 : IntKind.i64.wrap ((b : Int) + 3) = (c : Int) := by rw [wrapi _ (by omega) (by omega)]; omega
       have hsz4 := unhide HSZ
       have hbc : b ≤ c := by omega
       have hcs : c < s1.size := by omega
       have hbi : (b : Int) ≤ (c : Int) := by omega
       have hci : (c : Int) ≤ (s1.size : Int) := by omega
       have hci2 : (c : Int) < (s1.size : Int) := by omega
       have hcn : c ≤ s1.size := by omega
       obtain ⟨X, hX⟩ : ∃ X, s1.extract b c = X := ⟨_, rfl⟩
       have HX4 : Hid (X.size ≤ 4) := by show _ ≤ _; rw [← hX, ByteArray.size_extract]; omega
       obtain ⟨xv, hxv⟩ : ∃ xv : Int, ((ofBE X.data.toList : Nat) : Int) = xv := ⟨_, rfl⟩
       have HXV := hide hxv
       obtain ⟨y8, hy8⟩ : ∃ y8, s1[c]'hcs = y8 := ⟨_, rfl⟩
       obtain ⟨yv, hyv⟩ : ∃ yv : Int, (y8.toNat : Int) = yv := ⟨_, rfl⟩
       have hy0 : 0 ≤ yv := by omega
       have hy255 : yv ≤ 255 := by have := y8.toNat_lt; omega
       have hwr2 : IntKind.i64.wrap yv = yv := wrapi yv (by omega) (by omega)
       have HSN : Hid (cP (rowsC W (rs.take y) ++ cells4 s1.data.toList (x + 1)) = cP (rowsC W (rs.take y) ++ cells4 s1.data.toList x) ++ [.int .i64 xv, .int .i64 yv]) := by
        show _ = _
        rw [cells4_snoc, ← List.append_assoc, cP_app]
        have e := c4_partsS s1 x b c hb (by omega) hcs
        rw [e, hX, hy8, hxv, hyv]
        simp [cP]
       have HQ2 : Hid (q + 1 = y * W + (x + 1)) := by show _ = _; have := unhide HQ; omega
       have HQB : Hid (q ≤ 1000) := by
        show _ ≤ _
        have e1 := unhide HQ
        have e2 : y * W ≤ 10 * 24 := Nat.mul_le_mul (unhide HY10) (unhide HW24)
        omega
       clear hb hc hxg hsz4 hxv
       go_wp2_with fail
       clear kp1
       refine wp_region_held_drew (S := (fun _ => True)) (by kernel_rfl) trivial (fun hHeld => ?_)
       have B10 := hide ((unhide HB).drew)
       have P10 := hide ((unhide HP).drew)
       have E10 : Hid (wr.drew.ownsRow w4.heap.size 53 2 (.slice aV q cV) q (cP (rowsC W (rs.take y) ++ cells4 s1.data.toList x))) := unhide HE
       clear HB HP HE
       generalize wr.drew = w10 at B10 P10 E10 hHeld ⊢
       refine wtv 0 (oi := oRcU9) ?_
       refine wtv 2 (oi := oRcU10) ?_
       refine wtv 3 (oi := oRcU11) ?_
       refine wtv 4 (oi := oRcU12) ?_
       refine wtv 5 (oi := oRcU13) ?_
       refine wtv 6 (oi := oRcU14) ?_
       refine wtv 7 (oi := oRcU15) ?_
       refine wtv 8 (oi := oRcU16) ?_
       refine wtv 10 (oi := oRcU17) ?_
       refine wtv 11 (oi := oRcU18) ?_
       refine wtv 12 (oi := oRcU19) ?_
       refine wtv 13 (oi := oRcU20) ?_
       refine wtv 14 (oi := oRcU21) ?_
       refine wtv 15 (oi := oRcU22) ?_
       refine wpAnyH_ready (rs := [1, 9]) (by kernel_rfl) (by simp) ?_
       refine AllReadyH.cons (o := oRcU23) rfl (fun K hK => ?_) (AllReadyH.cons (o := oRcU24) rfl (fun K hK => ?_) AllReadyH.nil)
       ·skip
        have kp := (unhide P10).S
        go_simp
        refine hK.out _ _ ?_ (fun hHeldL => ?_)
        ·trivial
        clear hK K kp
        try simp only [Act.put, qqA, qqB, qqC]
        refine wpAnyH_ready (rs := [9]) (by kernel_rfl) (by simp) ?_
        refine AllReadyH.cons (o := oRcU24) rfl (fun K hK => ?_) AllReadyH.nil
        go_simp
        refine (snumX X (unhide HX4) xv HXV _).mono ?_
        rintro e wn ⟨rfl, hw⟩
        subst wn
        go_wp2_with fail
        refine hK.out _ _ ?_ (fun hHeldN => ?_)
        ·trivial
        clear hK K
        try simp only [Act.put, qqA, qqB, qqC]
        refine wtv 16 (oi := oRcU25) ?_
        refine wpAnyH_ready (rs := [17]) (by kernel_rfl) (by simp) ?_
        refine AllReadyH.cons (o := oRcU26) rfl (fun K hK => ?_) AllReadyH.nil
        obtain ⟨G, hG⟩ : ∃ G, G = w10.heap.size := ⟨_, rfl⟩
        have hbb : Below w10.heap.size w10 (w10.alloc (.cells #[.int .i64 xv, .int .i64 yv] 53)) := Go.Joins.below_alloc1 w10 (.cells #[.int .i64 xv, .int .i64 yv] 53)
        have RB := hide (BF.new w10 #[.int .i64 xv, .int .i64 yv] 53)
        have B11 := hide ((unhide B10).trans (hbb.mono (unhide B10).size))
        have P11 := hide ((unhide P10).below hbb)
        have E11 := hide (((heldZ_of (unhide E10)).below hbb (Nat.le_refl _)).own)
        have ZB : Hid (P < G ∧ w4.heap.size ≤ G) := by show _ ∧ _; rw [hG]; exact ⟨(unhide P10).lt, (unhide B10).size⟩
        rw [← hG] at RB
        go_simp
        refine hK.out _ _ ?_ (fun hHeldB => ?_)
        ·trivial
        clear hK K
        try simp only [Act.put, qqA, qqB, qqC]
        rw [← hG]
        clear hbb hG B10 P10 E10
        generalize w10.alloc (.cells #[.int .i64 xv, .int .i64 yv] 53) = w11 at RB P11 B11 E11 hHeldB ⊢
        refine wpAnyH_ready (rs := [18]) (by kernel_rfl) (by simp) ?_
        refine AllReadyH.cons (o := oRcU27) rfl (fun K hK => ?_) AllReadyH.nil
        refine step_append_lies w11 rfl (.tmp 130) (.tmp 146) 23 rfl w4.heap.size 53 iz (.agg #[.int .i64 0, .int .i64 0]) 2 16 Tryd.underlying23 hi hz0 hz1 hz2 rfl (by decide) (.slice aV q cV) q (cP (rowsC W (rs.take y) ++ cells4 s1.data.toList x)) rfl (unhide E11) ⟨G, 0, none⟩ 1 1 [.int .i64 xv, .int .i64 yv] rfl rfl (by intro j u hj; have e := (unhide RB).S j; rw [addr_add0 G j, e]; simpa using hj) (by intro u hu; simp at hu; rcases hu with rfl | rfl <;> rfl) (by decide) (by have := unhide HQB; unfold maxLen; omega) (by have := unhide HQB; omega) (unhide B11).size _ rfl ?_
        intro g7 c7 wa ho7 hg7 hat7 hlt7
        have Pa := hide ((unhide P11).grown hg7 (fun h => (unhide HF _ h).2 rfl))
        have Ba := hide ((unhide B11).grown hg7 (unhide B11).size (fun j hj => by have := (unhide HF j hj).1; omega))
        have Fa : Hid (w4.heap.size ≤ g7 ∧ g7 ≠ P) := by
         show _ ∧ _
         rcases hat7 with h | h
         ·exact unhide HF _ h
         ·have := unhide ZB; have := (unhide P11).lt; have := (unhide B11).size; omega
        have Ea : Hid (wa.ownsRow w4.heap.size 53 2 (.slice (some ⟨g7, 0, none⟩) (q + 1) c7) (q + 1) (cP (rowsC W (rs.take y) ++ cells4 s1.data.toList (x + 1)))) := by show World.ownsRow _ _ _ _ _ _ _; rw [unhide HSN]; exact ho7
        clear ho7 hg7 hat7 hlt7 P11 B11 E11 RB ZB
        refine hK.out _ _ ?_ (fun hHeld18 => ?_)
        ·trivial
        clear hK K
        try simp only [Act.put, qqA, qqB, qqC]
        refine wtv 19 (oi := oRcU28) ?_
        refine wpAnyH_ready (rs := [20]) (by kernel_rfl) (by simp) ?_
        refine AllReadyH.cons (o := oRcU29) rfl (fun K hK => ?_) AllReadyH.nil
        have kp := (unhide Pa).S
        have kpf := (unhide Pa).F
        obtain ⟨wz, hwz⟩ : ∃ wz, wz = wa.setCell ⟨P, 10, none⟩ (.slice (some ⟨g7, 0, none⟩) (q + 1) c7) := ⟨_, rfl⟩
        have Pz : Hid (BF P #[.int .i64 (W : Int), .int .i64 (H : Int), .int .i64 i2, .int .i64 i3, .int .i64 i4, .int .i64 i5, .int .i64 i6, .int .i64 i7, .int .i64 i8, .string t, .slice (some ⟨g7, 0, none⟩) (q + 1) c7, .slice a4 mh c4] wz) := by rw [hwz]; exact (unhide Pa).set 10 (by simp) _
        have Bz : Hid (Below w4.heap.size w4 wz) := by rw [hwz]; exact (unhide Ba).setCell (p := ⟨P, 10, none⟩) (unhide LP) _
        have Ez : Hid (wz.ownsRow w4.heap.size 53 2 (.slice (some ⟨g7, 0, none⟩) (q + 1) c7) (q + 1) (cP (rowsC W (rs.take y) ++ cells4 s1.data.toList (x + 1)))) := by rw [hwz]; exact own_keepS (unhide Ea) (Below.heap_setCell _ _ _ _ (unhide Fa).2)
        have Fz : Hid (∀ j, (Value.slice (some ⟨g7, 0, none⟩) (q + 1) c7).ownBlock = some j → w4.heap.size ≤ j ∧ j ≠ P) := fun j hj => by have e : g7 = j := Option.some.inj hj; subst e; exact unhide Fa
        go_simp
        rw [← hwz]
        refine hK.out _ _ ?_ (fun hHeld20 => ?_)
        ·trivial
        clear hK K
        try simp only [Act.put, qqA, qqB, qqC]
        refine wpAnyH_done (by kernel_rfl) ?_ _
        clear kp kpf hwz Pa Ba Ea Fa
        go_wp2_with fail
        go_roundg gx
        case measure => omega
        case rel => exact ⟨x + 1, q + 1, _, _, by have := unhide HXG; omega, by go_num, HQ2, Bz, Pz, Ez, Fz⟩
       ·skip
        go_simp
        refine (snumX X (unhide HX4) xv HXV _).mono ?_
        rintro e wn ⟨rfl, hw⟩
        subst wn
        go_wp2_with fail
        refine hK.out _ _ ?_ (fun hHeldN => ?_)
        ·trivial
        clear hK K
        try simp only [Act.put, qqA, qqB, qqC]
        refine wtv 16 (oi := oRcU25) ?_
        refine wpAnyH_ready (rs := [1, 17]) (by kernel_rfl) (by simp) ?_
        refine AllReadyH.cons (o := oRcU23) rfl (fun K hK => ?_) (AllReadyH.cons (o := oRcU26) rfl (fun K hK => ?_) AllReadyH.nil)
        ·skip
         have kp := (unhide P10).S
         go_simp
         refine hK.out _ _ ?_ (fun hHeldL => ?_)
         ·trivial
         clear hK K kp
         try simp only [Act.put, qqA, qqB, qqC]
         refine wpAnyH_ready (rs := [17]) (by kernel_rfl) (by simp) ?_
         refine AllReadyH.cons (o := oRcU26) rfl (fun K hK => ?_) AllReadyH.nil
         obtain ⟨G, hG⟩ : ∃ G, G = w10.heap.size := ⟨_, rfl⟩
         have hbb : Below w10.heap.size w10 (w10.alloc (.cells #[.int .i64 xv, .int .i64 yv] 53)) := Go.Joins.below_alloc1 w10 (.cells #[.int .i64 xv, .int .i64 yv] 53)
         have RB := hide (BF.new w10 #[.int .i64 xv, .int .i64 yv] 53)
         have B11 := hide ((unhide B10).trans (hbb.mono (unhide B10).size))
         have P11 := hide ((unhide P10).below hbb)
         have E11 := hide (((heldZ_of (unhide E10)).below hbb (Nat.le_refl _)).own)
         have ZB : Hid (P < G ∧ w4.heap.size ≤ G) := by show _ ∧ _; rw [hG]; exact ⟨(unhide P10).lt, (unhide B10).size⟩
         rw [← hG] at RB
         go_simp
         refine hK.out _ _ ?_ (fun hHeldB => ?_)
         ·trivial
         clear hK K
         try simp only [Act.put, qqA, qqB, qqC]
         rw [← hG]
         clear hbb hG B10 P10 E10
         generalize w10.alloc (.cells #[.int .i64 xv, .int .i64 yv] 53) = w11 at RB P11 B11 E11 hHeldB ⊢
         refine wpAnyH_ready (rs := [18]) (by kernel_rfl) (by simp) ?_
         refine AllReadyH.cons (o := oRcU27) rfl (fun K hK => ?_) AllReadyH.nil
         refine step_append_lies w11 rfl (.tmp 130) (.tmp 146) 23 rfl w4.heap.size 53 iz (.agg #[.int .i64 0, .int .i64 0]) 2 16 Tryd.underlying23 hi hz0 hz1 hz2 rfl (by decide) (.slice aV q cV) q (cP (rowsC W (rs.take y) ++ cells4 s1.data.toList x)) rfl (unhide E11) ⟨G, 0, none⟩ 1 1 [.int .i64 xv, .int .i64 yv] rfl rfl (by intro j u hj; have e := (unhide RB).S j; rw [addr_add0 G j, e]; simpa using hj) (by intro u hu; simp at hu; rcases hu with rfl | rfl <;> rfl) (by decide) (by have := unhide HQB; unfold maxLen; omega) (by have := unhide HQB; omega) (unhide B11).size _ rfl ?_
         intro g7 c7 wa ho7 hg7 hat7 hlt7
         have Pa := hide ((unhide P11).grown hg7 (fun h => (unhide HF _ h).2 rfl))
         have Ba := hide ((unhide B11).grown hg7 (unhide B11).size (fun j hj => by have := (unhide HF j hj).1; omega))
         have Fa : Hid (w4.heap.size ≤ g7 ∧ g7 ≠ P) := by
          show _ ∧ _
          rcases hat7 with h | h
          ·exact unhide HF _ h
          ·have := unhide ZB; have := (unhide P11).lt; have := (unhide B11).size; omega
         have Ea : Hid (wa.ownsRow w4.heap.size 53 2 (.slice (some ⟨g7, 0, none⟩) (q + 1) c7) (q + 1) (cP (rowsC W (rs.take y) ++ cells4 s1.data.toList (x + 1)))) := by show World.ownsRow _ _ _ _ _ _ _; rw [unhide HSN]; exact ho7
         clear ho7 hg7 hat7 hlt7 P11 B11 E11 RB ZB
         refine hK.out _ _ ?_ (fun hHeld18 => ?_)
         ·trivial
         clear hK K
         try simp only [Act.put, qqA, qqB, qqC]
         refine wtv 19 (oi := oRcU28) ?_
         refine wpAnyH_ready (rs := [20]) (by kernel_rfl) (by simp) ?_
         refine AllReadyH.cons (o := oRcU29) rfl (fun K hK => ?_) AllReadyH.nil
         have kp := (unhide Pa).S
         have kpf := (unhide Pa).F
         obtain ⟨wz, hwz⟩ : ∃ wz, wz = wa.setCell ⟨P, 10, none⟩ (.slice (some ⟨g7, 0, none⟩) (q + 1) c7) := ⟨_, rfl⟩
         have Pz : Hid (BF P #[.int .i64 (W : Int), .int .i64 (H : Int), .int .i64 i2, .int .i64 i3, .int .i64 i4, .int .i64 i5, .int .i64 i6, .int .i64 i7, .int .i64 i8, .string t, .slice (some ⟨g7, 0, none⟩) (q + 1) c7, .slice a4 mh c4] wz) := by rw [hwz]; exact (unhide Pa).set 10 (by simp) _
         have Bz : Hid (Below w4.heap.size w4 wz) := by rw [hwz]; exact (unhide Ba).setCell (p := ⟨P, 10, none⟩) (unhide LP) _
         have Ez : Hid (wz.ownsRow w4.heap.size 53 2 (.slice (some ⟨g7, 0, none⟩) (q + 1) c7) (q + 1) (cP (rowsC W (rs.take y) ++ cells4 s1.data.toList (x + 1)))) := by rw [hwz]; exact own_keepS (unhide Ea) (Below.heap_setCell _ _ _ _ (unhide Fa).2)
         have Fz : Hid (∀ j, (Value.slice (some ⟨g7, 0, none⟩) (q + 1) c7).ownBlock = some j → w4.heap.size ≤ j ∧ j ≠ P) := fun j hj => by have e : g7 = j := Option.some.inj hj; subst e; exact unhide Fa
         go_simp
         rw [← hwz]
         refine hK.out _ _ ?_ (fun hHeld20 => ?_)
         ·trivial
         clear hK K
         try simp only [Act.put, qqA, qqB, qqC]
         refine wpAnyH_done (by kernel_rfl) ?_ _
         clear kp kpf hwz Pa Ba Ea Fa
         go_wp2_with fail
         go_roundg gx
         case measure => omega
         case rel => exact ⟨x + 1, q + 1, _, _, by have := unhide HXG; omega, by go_num, HQ2, Bz, Pz, Ez, Fz⟩
        ·skip
         obtain ⟨G, hG⟩ : ∃ G, G = w10.heap.size := ⟨_, rfl⟩
         have hbb : Below w10.heap.size w10 (w10.alloc (.cells #[.int .i64 xv, .int .i64 yv] 53)) := Go.Joins.below_alloc1 w10 (.cells #[.int .i64 xv, .int .i64 yv] 53)
         have RB := hide (BF.new w10 #[.int .i64 xv, .int .i64 yv] 53)
         have B11 := hide ((unhide B10).trans (hbb.mono (unhide B10).size))
         have P11 := hide ((unhide P10).below hbb)
         have E11 := hide (((heldZ_of (unhide E10)).below hbb (Nat.le_refl _)).own)
         have ZB : Hid (P < G ∧ w4.heap.size ≤ G) := by show _ ∧ _; rw [hG]; exact ⟨(unhide P10).lt, (unhide B10).size⟩
         rw [← hG] at RB
         go_simp
         refine hK.out _ _ ?_ (fun hHeldB => ?_)
         ·trivial
         clear hK K
         try simp only [Act.put, qqA, qqB, qqC]
         rw [← hG]
         clear hbb hG B10 P10 E10
         generalize w10.alloc (.cells #[.int .i64 xv, .int .i64 yv] 53) = w11 at RB P11 B11 E11 hHeldB ⊢
         refine wpAnyH_ready (rs := [1]) (by kernel_rfl) (by simp) ?_
         refine AllReadyH.cons (o := oRcU23) rfl (fun K hK => ?_) AllReadyH.nil
         have kp := (unhide P11).S
         go_simp
         refine hK.out _ _ ?_ (fun hHeldL => ?_)
         ·trivial
         clear hK K kp
         try simp only [Act.put, qqA, qqB, qqC]
         refine wpAnyH_ready (rs := [18]) (by kernel_rfl) (by simp) ?_
         refine AllReadyH.cons (o := oRcU27) rfl (fun K hK => ?_) AllReadyH.nil
         refine step_append_lies w11 rfl (.tmp 130) (.tmp 146) 23 rfl w4.heap.size 53 iz (.agg #[.int .i64 0, .int .i64 0]) 2 16 Tryd.underlying23 hi hz0 hz1 hz2 rfl (by decide) (.slice aV q cV) q (cP (rowsC W (rs.take y) ++ cells4 s1.data.toList x)) rfl (unhide E11) ⟨G, 0, none⟩ 1 1 [.int .i64 xv, .int .i64 yv] rfl rfl (by intro j u hj; have e := (unhide RB).S j; rw [addr_add0 G j, e]; simpa using hj) (by intro u hu; simp at hu; rcases hu with rfl | rfl <;> rfl) (by decide) (by have := unhide HQB; unfold maxLen; omega) (by have := unhide HQB; omega) (unhide B11).size _ rfl ?_
         intro g7 c7 wa ho7 hg7 hat7 hlt7
         have Pa := hide ((unhide P11).grown hg7 (fun h => (unhide HF _ h).2 rfl))
         have Ba := hide ((unhide B11).grown hg7 (unhide B11).size (fun j hj => by have := (unhide HF j hj).1; omega))
         have Fa : Hid (w4.heap.size ≤ g7 ∧ g7 ≠ P) := by
          show _ ∧ _
          rcases hat7 with h | h
          ·exact unhide HF _ h
          ·have := unhide ZB; have := (unhide P11).lt; have := (unhide B11).size; omega
         have Ea : Hid (wa.ownsRow w4.heap.size 53 2 (.slice (some ⟨g7, 0, none⟩) (q + 1) c7) (q + 1) (cP (rowsC W (rs.take y) ++ cells4 s1.data.toList (x + 1)))) := by show World.ownsRow _ _ _ _ _ _ _; rw [unhide HSN]; exact ho7
         clear ho7 hg7 hat7 hlt7 P11 B11 E11 RB ZB
         refine hK.out _ _ ?_ (fun hHeld18 => ?_)
         ·trivial
         clear hK K
         try simp only [Act.put, qqA, qqB, qqC]
         refine wtv 19 (oi := oRcU28) ?_
         refine wpAnyH_ready (rs := [20]) (by kernel_rfl) (by simp) ?_
         refine AllReadyH.cons (o := oRcU29) rfl (fun K hK => ?_) AllReadyH.nil
         have kp := (unhide Pa).S
         have kpf := (unhide Pa).F
         obtain ⟨wz, hwz⟩ : ∃ wz, wz = wa.setCell ⟨P, 10, none⟩ (.slice (some ⟨g7, 0, none⟩) (q + 1) c7) := ⟨_, rfl⟩
         have Pz : Hid (BF P #[.int .i64 (W : Int), .int .i64 (H : Int), .int .i64 i2, .int .i64 i3, .int .i64 i4, .int .i64 i5, .int .i64 i6, .int .i64 i7, .int .i64 i8, .string t, .slice (some ⟨g7, 0, none⟩) (q + 1) c7, .slice a4 mh c4] wz) := by rw [hwz]; exact (unhide Pa).set 10 (by simp) _
         have Bz : Hid (Below w4.heap.size w4 wz) := by rw [hwz]; exact (unhide Ba).setCell (p := ⟨P, 10, none⟩) (unhide LP) _
         have Ez : Hid (wz.ownsRow w4.heap.size 53 2 (.slice (some ⟨g7, 0, none⟩) (q + 1) c7) (q + 1) (cP (rowsC W (rs.take y) ++ cells4 s1.data.toList (x + 1)))) := by rw [hwz]; exact own_keepS (unhide Ea) (Below.heap_setCell _ _ _ _ (unhide Fa).2)
         have Fz : Hid (∀ j, (Value.slice (some ⟨g7, 0, none⟩) (q + 1) c7).ownBlock = some j → w4.heap.size ≤ j ∧ j ≠ P) := fun j hj => by have e : g7 = j := Option.some.inj hj; subst e; exact unhide Fa
         go_simp
         rw [← hwz]
         refine hK.out _ _ ?_ (fun hHeld20 => ?_)
         ·trivial
         clear hK K
         try simp only [Act.put, qqA, qqB, qqC]
         refine wpAnyH_done (by kernel_rfl) ?_ _
         clear kp kpf hwz Pa Ba Ea Fa
         go_wp2_with fail
         go_roundg gx
         case measure => omega
         case rel => exact ⟨x + 1, q + 1, _, _, by have := unhide HXG; omega, by go_num, HQ2, Bz, Pz, Ez, Fz⟩
    ·have hne : ((s1.size : Int) != (M : Int)) = true := by rw [bne_iff_ne]; omega
     have HEX : Hid (∃ s ∈ rs, ¬ s.size = 4 * W) := ⟨s1, by rw [hs1]; exact List.getElem_mem hlm, by omega⟩
     clear hj hs1 h0 hM hyg hlm
     have YR := hide ((unhide Y4).below (unhide HB))
     have BR := hide ((unhide B4).trans ((unhide HB).mono (unhide B4).size))
     have kz := (unhide YR).S
     have kf := (unhide YR).F
     go_wp2_with fail
     (try simp only [Exit.inBlock, Exit.then])
     refine bodyPost_ret (v := .tuple #[.agg #[.int .i64 0, .int .i64 0, .int .i64 0, .int .i64 0, .int .i64 0, .int .i64 0, .int .i64 0, .int .i64 0, .int .i64 0, .string ⟨#[]⟩, .slice none 0 0, .slice none 0 0], .bool false]) ?_ rfl (Or.inr ⟨rfl, unhide HEX, ?_⟩)
     ·rw [results_cell_tmp rfl]
      go_simp
     ·iterate 12 refine Below.setCell ?_ (by exact Nat.le_refl _) _
      exact unhide BR
 ·skip
  obtain ⟨P, hP⟩ : ∃ P, P = w6.heap.size := ⟨_, rfl⟩
  have hb7 : Below w6.heap.size w6 (w6.alloc (.cells #[.int .i64 0, .int .i64 0, .int .i64 0, .int .i64 0, .int .i64 0, .int .i64 0, .int .i64 0, .int .i64 0, .int .i64 0, .string ⟨#[]⟩, .slice none 0 0, .slice none 0 0] 26)) := Go.Joins.below_alloc1 w6 (.cells #[.int .i64 0, .int .i64 0, .int .i64 0, .int .i64 0, .int .i64 0, .int .i64 0, .int .i64 0, .int .i64 0, .int .i64 0, .string ⟨#[]⟩, .slice none 0 0, .slice none 0 0] 26)
  have V7 := hide (BF.new w6 #[.int .i64 0, .int .i64 0, .int .i64 0, .int .i64 0, .int .i64 0, .int .i64 0, .int .i64 0, .int .i64 0, .int .i64 0, .string ⟨#[]⟩, .slice none 0 0, .slice none 0 0] 26)
  have B7 := hide ((unhide B6).trans (hb7.mono (unhide B6).size))
  have LP : Hid (w4.heap.size ≤ P) := by have := (unhide B6).size; show _ ≤ _; omega
  rw [← hP] at V7
  go_simp
  refine hK.out _ _ ?_ (fun hHeld33 => ?_)
  ·exact ⟨((unhide B7).cell (p := ⟨gn, 0, none⟩) (unhide HGN)).trans (unhide K4).1, ((unhide B7).cell (p := ⟨gn, 1, none⟩) (unhide HGN)).trans (unhide K4).2.1, ((unhide B7).cell (p := ⟨gn, 2, none⟩) (unhide HGN)).trans (unhide K4).2.2.1, ((unhide B7).cell (p := ⟨gn, 3, none⟩) (unhide HGN)).trans (unhide K4).2.2.2.1, ((unhide B7).cell (p := ⟨gn, 4, none⟩) (unhide HGN)).trans (unhide K4).2.2.2.2.1, ((unhide B7).cell (p := ⟨gn, 5, none⟩) (unhide HGN)).trans (unhide K4).2.2.2.2.2.1, ((unhide B7).cell (p := ⟨gn, 6, none⟩) (unhide HGN)).trans (unhide K4).2.2.2.2.2.2.1, ((unhide B7).cell (p := ⟨gn, 7, none⟩) (unhide HGN)).trans (unhide K4).2.2.2.2.2.2.2.1, ((unhide B7).cell (p := ⟨gn, 8, none⟩) (unhide HGN)).trans (unhide K4).2.2.2.2.2.2.2.2.1, ((unhide B7).cell (p := ⟨g1, 1, none⟩) (unhide HG1)).trans (unhide K4).2.2.2.2.2.2.2.2.2⟩
  clear hK K
  try simp only [Act.put, qqA, qqB, qqC]
  rw [← hP]
  clear hb7 hP B6
  generalize w6.alloc (.cells #[.int .i64 0, .int .i64 0, .int .i64 0, .int .i64 0, .int .i64 0, .int .i64 0, .int .i64 0, .int .i64 0, .int .i64 0, .string ⟨#[]⟩, .slice none 0 0, .slice none 0 0] 26) = w7 at B7 V7 hHeld33 ⊢
  refine wpAnyH_ready (rs := [30]) (by kernel_rfl) (by simp) ?_
  refine AllReadyH.cons (o := oRcU0) rfl (fun K hK => ?_) AllReadyH.nil
  obtain ⟨Q, hQ⟩ : ∃ Q, Q = w7.heap.size := ⟨_, rfl⟩
  have hb8 : Below w7.heap.size w7 (w7.alloc (.cells #[] 53)) := Go.Joins.below_alloc1 w7 (.cells #[] 53)
  have B8 := hide ((unhide B7).trans (hb8.mono (unhide B7).size))
  have V8 := hide ((unhide V7).below hb8)
  have E8 : Hid ((w7.alloc (.cells #[] 53)).ownsRow w4.heap.size 53 2 (.slice (some ⟨Q, 0, none⟩) 0 0) 0 []) := by rw [hQ]; exact World.ownsRow_lit (e := 53) (base := w4.heap.size) (size := 2) w7 #[] 0 (unhide B7).size (by decide) rfl
  have HQP : Hid (Q ≠ P) := by have := (unhide V7).lt; show _ ≠ _; omega
  have HQ3 : Hid (w4.heap.size ≤ Q) := (World.ownsRow.lt (unhide E8) Q rfl).1
  go_simp
  refine hK.out _ _ ?_ (fun hHeld30 => ?_)
  ·exact ⟨((unhide B8).cell (p := ⟨gn, 0, none⟩) (unhide HGN)).trans (unhide K4).1, ((unhide B8).cell (p := ⟨gn, 1, none⟩) (unhide HGN)).trans (unhide K4).2.1, ((unhide B8).cell (p := ⟨gn, 2, none⟩) (unhide HGN)).trans (unhide K4).2.2.1, ((unhide B8).cell (p := ⟨gn, 3, none⟩) (unhide HGN)).trans (unhide K4).2.2.2.1, ((unhide B8).cell (p := ⟨gn, 4, none⟩) (unhide HGN)).trans (unhide K4).2.2.2.2.1, ((unhide B8).cell (p := ⟨gn, 5, none⟩) (unhide HGN)).trans (unhide K4).2.2.2.2.2.1, ((unhide B8).cell (p := ⟨gn, 6, none⟩) (unhide HGN)).trans (unhide K4).2.2.2.2.2.2.1, ((unhide B8).cell (p := ⟨gn, 7, none⟩) (unhide HGN)).trans (unhide K4).2.2.2.2.2.2.2.1, ((unhide B8).cell (p := ⟨gn, 8, none⟩) (unhide HGN)).trans (unhide K4).2.2.2.2.2.2.2.2.1, ((unhide B8).cell (p := ⟨g1, 1, none⟩) (unhide HG1)).trans (unhide K4).2.2.2.2.2.2.2.2.2⟩
  clear hK K
  try simp only [Act.put, qqA, qqB, qqC]
  rw [← hQ]
  clear hb8 hQ B7 V7
  generalize w7.alloc (.cells #[] 53) = w8 at B8 V8 E8 hHeld30 ⊢
  refine wtv 32 (oi := oRcU2) ?_
  refine wpAnyH_ready (rs := [34]) (by kernel_rfl) (by simp) ?_
  refine AllReadyH.cons (o := oRcU3) rfl (fun K hK => ?_) AllReadyH.nil
  have fv := (unhide V8).F
  have sv := (unhide V8).S
  obtain ⟨w9, hw9, hV9, hbP, hgP⟩ := put12G w8 (unhide V8) (.int .i64 (W : Int)) (.int .i64 (H : Int)) (.int .i64 i2) (.int .i64 i3) (.int .i64 i4) (.int .i64 i5) (.int .i64 i6) (.int .i64 i7) (.int .i64 i8) (.string t) (.slice (some ⟨Q, 0, none⟩) 0 0) (.slice a4 mh c4)
  have P9 := hide hV9
  have B9 := hide ((unhide B8).trans (hbP.mono (unhide LP)))
  have E9 : Hid (w9.ownsRow w4.heap.size 53 2 (.slice (some ⟨Q, 0, none⟩) 0 0) 0 (cP (rowsC W (rs.take 0)))) := by
   rw [hw9]
   refine own_keepS (unhide E8) ?_
   iterate 12 rw [Below.heap_setCell _ _ _ _ (unhide HQP)]
  have F9 : Hid (∀ j, (Value.slice (some ⟨Q, 0, none⟩) 0 0).ownBlock = some j → w4.heap.size ≤ j ∧ j ≠ P) := fun j hj => by have e : Q = j := Option.some.inj hj; subst e; exact ⟨unhide HQ3, unhide HQP⟩
  go_simp
  rw [← hw9]
  refine hK.out _ _ ?_ (fun hHeld34 => ?_)
  ·exact ⟨((unhide B9).cell (p := ⟨gn, 0, none⟩) (unhide HGN)).trans (unhide K4).1, ((unhide B9).cell (p := ⟨gn, 1, none⟩) (unhide HGN)).trans (unhide K4).2.1, ((unhide B9).cell (p := ⟨gn, 2, none⟩) (unhide HGN)).trans (unhide K4).2.2.1, ((unhide B9).cell (p := ⟨gn, 3, none⟩) (unhide HGN)).trans (unhide K4).2.2.2.1, ((unhide B9).cell (p := ⟨gn, 4, none⟩) (unhide HGN)).trans (unhide K4).2.2.2.2.1, ((unhide B9).cell (p := ⟨gn, 5, none⟩) (unhide HGN)).trans (unhide K4).2.2.2.2.2.1, ((unhide B9).cell (p := ⟨gn, 6, none⟩) (unhide HGN)).trans (unhide K4).2.2.2.2.2.2.1, ((unhide B9).cell (p := ⟨gn, 7, none⟩) (unhide HGN)).trans (unhide K4).2.2.2.2.2.2.2.1, ((unhide B9).cell (p := ⟨gn, 8, none⟩) (unhide HGN)).trans (unhide K4).2.2.2.2.2.2.2.2.1, ((unhide B9).cell (p := ⟨g1, 1, none⟩) (unhide HG1)).trans (unhide K4).2.2.2.2.2.2.2.2.2⟩
  clear hK K
  try simp only [Act.put, qqA, qqB, qqC]
  refine wpAnyH_done (by kernel_rfl) ?_ _
  clear fv sv hw9 hV9 hbP hgP V8 B8 E8
  go_wp2_with fail
  go_loopg [11] H (fun gy i wr => ∃ (y q : Nat) (aV : Option Addr) (cV : Nat), y + gy = H ∧ i = .int .i64 (y : Int) ∧ Hid (q = y * W) ∧ Hid (Below w4.heap.size w4 wr) ∧ Hid (BF P #[.int .i64 (W : Int), .int .i64 (H : Int), .int .i64 i2, .int .i64 i3, .int .i64 i4, .int .i64 i5, .int .i64 i6, .int .i64 i7, .int .i64 i8, .string t, .slice aV q cV, .slice a4 mh c4] wr) ∧ Hid (wr.ownsRow w4.heap.size 53 2 (.slice aV q cV) q (cP (rowsC W (rs.take y)))) ∧ Hid (∀ j, (Value.slice aV q cV).ownBlock = some j → w4.heap.size ≤ j ∧ j ≠ P) ∧ Hid (∀ s ∈ rs.take y, s.size = 4 * W))
  case atStart => exact ⟨0, 0, _, _, by omega, rfl, (show Hid (0 = 0 * W) from by show _ = _; omega), B9, P9, E9, F9, (fun s hs => (by simp at hs))⟩
  case round =>
   clear B9 P9 E9 F9
   obtain ⟨y, q, aV, cV, hyg, rfl, HQ, HB, HP, HE, HF, HPO⟩ := hrel
   have kp0 := (unhide HP).S
   cases gk with
   | zero =>
    obtain rfl : H = y := by omega
    have hyz : ¬ (H : Int) < (H : Int) := by omega
    have HPR : Hid (∀ s ∈ rs, s.size = 4 * W) := by have h := unhide HPO; rw [List.take_of_length_le (by rw [unhide HRL]; exact Nat.le_of_eq (unhide HRH))] at h; exact h
    have HLQ : Hid ((rowsC W rs).length = q) := by show _ = _; rw [rowsC_len, unhide HRL, unhide HRH, unhide HQ]
    have HQB2 : Hid (q ≤ 240) := by show _ ≤ _; rw [unhide HQ]; exact Nat.mul_le_mul (unhide HH10) (unhide HW24)
    clear hyg
    go_wp2_with fail
    (try simp only [Exit.inBlock, Exit.then])
    refine wp_region_held_drew (S := (fun w' => ∀ o, w'.cell? ⟨P, o, none⟩ = (#[.int .i64 (W : Int), .int .i64 (H : Int), .int .i64 i2, .int .i64 i3, .int .i64 i4, .int .i64 i5, .int .i64 i6, .int .i64 i7, .int .i64 i8, .string t, .slice aV q cV, .slice a4 mh c4] : Array Value)[o]?)) (by kernel_rfl) (unhide HP).S (fun hHeld => ?_)
    have B10 := hide ((unhide HB).drew)
    have P10 := hide ((unhide HP).drew)
    have E10 : Hid (wr.drew.ownsRow w4.heap.size 53 2 (.slice aV q cV) q (cP (rowsC W rs))) := by have h := unhide HE; rw [List.take_of_length_le (by rw [unhide HRL]; exact Nat.le_of_eq (unhide HRH))] at h; exact h
    clear HB HP HE
    generalize wr.drew = w10 at B10 P10 E10 hHeld ⊢
    refine wtv 0 (oi := oRcU4) ?_
    refine wtv 1 (oi := oRcU5) ?_
    refine wpAnyH_ready (rs := [2]) (by kernel_rfl) (by simp) ?_
    refine AllReadyH.cons (o := oRcU6) rfl (fun K hK => ?_) AllReadyH.nil
    go_simp
    refine (sokN (W : Int) (H : Int) i2 i3 i4 i5 i6 i7 i8 t aV cV q (rowsC W rs) HLQ a4 c4 mh m HM (unhide HTB) (by have := unhide HQB2; omega) (unhide HMB) (unhide HMZ) R HRR _ (rowZ_at (unhide E10)) ((unhide HH4).rowV.below (unhide B10))).mono ?_
    rintro e w11 ⟨rfl, hb11⟩
    have B11 := hide ((unhide B10).trans (hb11.mono (unhide B10).size))
    have P11 := hide ((unhide P10).below hb11)
    have E11 := hide (((heldZ_of (unhide E10)).below hb11 (Nat.le_refl _)).own)
    clear hb11 B10 P10 E10
    go_wp2_with fail
    refine hK.out _ _ ?_ (fun hHeld2 => ?_)
    ·exact (unhide P11).S
    clear hK K
    try simp only [Act.put, qqA, qqB, qqC]
    refine wpAnyH_ready (rs := [3]) (by kernel_rfl) (by simp) ?_
    refine AllReadyH.cons (o := oRcU7) rfl (fun K hK => ?_) AllReadyH.nil
    have Y11 := hide ((unhide Y4).below (unhide B11))
    have fy := (unhide Y11).F
    have sy := (unhide Y11).S
    obtain ⟨w12, hw12, hY12, hbY, hgY⟩ := put12G w11 (unhide Y11) (.int .i64 (W : Int)) (.int .i64 (H : Int)) (.int .i64 i2) (.int .i64 i3) (.int .i64 i4) (.int .i64 i5) (.int .i64 i6) (.int .i64 i7) (.int .i64 i8) (.string t) (.slice aV q cV) (.slice a4 mh c4)
    have Y12 := hide hY12
    have B12 : Hid (Below w.heap.size w w12) := ((unhide B4).trans ((unhide B11).mono (unhide B4).size)).trans hbY
    have P12 := hide ((unhide P11).grown hgY (fun h => by have e : w.heap.size = P := Option.some.inj h; have := (unhide Y4).lt; have := unhide LP; omega))
    have E12 : Hid (w12.ownsRow w.heap.size 53 2 (.slice aV q cV) q (cP (rowsC W rs))) := by
     rw [hw12]
     refine Go.Joins.ownsRow_le (base := w4.heap.size) ?_ (by have := (unhide Y4).lt; omega)
     iterate 12 refine ownsRow_setCell_below ?_ (by exact (unhide Y4).lt) _
     exact unhide E11
    have H12 : Hid (w12.ownsRow w.heap.size 9 1 (.slice a4 mh c4) mh (cS m)) := Go.Joins.ownsRow_le (((unhide HH4).below (unhide B11) (unhide HH4).le).grown hgY (fun j hj => by have e : w.heap.size = j := Option.some.inj hj; have := unhide HLO; omega)).own (by have := unhide HLO; omega)
    go_simp
    rw [← hw12]
    refine hK.out _ _ ?_ (fun hHeld3 => ?_)
    ·exact (unhide P12).S
    clear hK K
    try simp only [Act.put, qqA, qqB, qqC]
    clear fy sy hw12 hY12 hbY hgY B11 P11 E11 Y11
    refine wtv 4 (oi := oRcU8) ?_
    refine wpAnyH_done (by kernel_rfl) ?_ _
    have st := (unhide Y12).S
    go_wp2_with fail
    refine bodyPost_ret (v := .tuple #[.agg #[.int .i64 (W : Int), .int .i64 (H : Int), .int .i64 i2, .int .i64 i3, .int .i64 i4, .int .i64 i5, .int .i64 i6, .int .i64 i7, .int .i64 i8, .string t, .slice aV q cV, .slice a4 mh c4], .bool R]) ?_ rfl (Or.inl ⟨aV, cV, a4, c4, q, unhide HLQ, rfl, unhide HPR, unhide E12, unhide H12, unhide B12⟩)
    rw [results_cell_tmp rfl]
    go_simp
   | succ gy =>
    have HYG := hide hyg
    have hylt : (y : Int) < (H : Int) := by omega
    have HY10 : Hid (y ≤ 10) := by have := unhide HH10; show _ ≤ _; omega
    have hlm : y < rs.length := by rw [unhide HRL, unhide HRH]; omega
    have HLM := hide hlm
    obtain ⟨s1, hs1⟩ : ∃ s1, s1 = rs[y] := ⟨_, rfl⟩
    have HS1 := hide hs1
    obtain ⟨j, hj⟩ : ∃ j, j = 3 + y := ⟨_, rfl⟩
    have hj3 : (3 : Int) + (y : Int) = (j : Int) := by omega
    have hjb : (j : Int) ≤ 100 := by have := unhide HY10; omega
    have hjr : (j : Int) < (rr : Int) + 3 := by have := unhide HRH; omega
    have hcell : wr.cell? ⟨g1, j, none⟩ = some (.string s1) := ((unhide HB).cell (p := ⟨g1, j, none⟩) (unhide HG1)).trans (by rw [hj, hs1]; exact unhide HC y hlm)
    have hszb2 : s1.size ≤ 20000 := by rw [hs1]; exact unhide HRZ y hlm
    obtain ⟨M, hM⟩ : ∃ M, M = 4 * W := ⟨_, rfl⟩
    have hM4 : (4 : Int) * (W : Int) = (M : Int) := by omega
    have hMb : (M : Int) ≤ 100 := by have := unhide HW24; omega
    by_cases h0 : s1.size = M
    ·have hne : ((s1.size : Int) != (M : Int)) = false := by rw [bne_eq_false_iff_eq]; omega
     have HSZ : Hid (s1.size = 4 * W) := by show _ = _; omega
     have HPO2 : Hid (∀ s ∈ rs.take (y + 1), s.size = 4 * W) := by
      intro s2 hs2
      rw [List.take_add_one, List.getElem?_eq_getElem hlm, Option.toList_some, List.mem_append, List.mem_singleton] at hs2
      rcases hs2 with h | h
      ·exact unhide HPO s2 h
      ·rw [h.trans hs1.symm]; exact unhide HSZ
     have HE0 : Hid (wr.ownsRow w4.heap.size 53 2 (.slice aV q cV) q (cP (rowsC W (rs.take y) ++ cells4 s1.data.toList 0))) := by
      have e : rowsC W (rs.take y) ++ cells4 s1.data.toList 0 = rowsC W (rs.take y) := by simp [cells4]
      show World.ownsRow _ _ _ _ _ _ _
      rw [e]
      exact unhide HE
     clear hj hs1 h0 hM hyg hlm
     go_wp2_with fail
     go_loopg [13] W (fun gx i wr => ∃ (x q : Nat) (aV : Option Addr) (cV : Nat), x + gx = W ∧ i = .int .i64 (x : Int) ∧ Hid (q = y * W + x) ∧ Hid (Below w4.heap.size w4 wr) ∧ Hid (BF P #[.int .i64 (W : Int), .int .i64 (H : Int), .int .i64 i2, .int .i64 i3, .int .i64 i4, .int .i64 i5, .int .i64 i6, .int .i64 i7, .int .i64 i8, .string t, .slice aV q cV, .slice a4 mh c4] wr) ∧ Hid (wr.ownsRow w4.heap.size 53 2 (.slice aV q cV) q (cP (rowsC W (rs.take y) ++ cells4 s1.data.toList x))) ∧ Hid (∀ j, (Value.slice aV q cV).ownBlock = some j → w4.heap.size ≤ j ∧ j ≠ P))
     case atStart => exact ⟨0, q, aV, cV, by omega, rfl, (show Hid (q = y * W + 0) from unhide HQ), HB, HP, HE0, HF⟩
     case round =>
      clear HB HP HE HE0 HF HQ kp0
      obtain ⟨x, q, aV, cV, hxg, rfl, HQ, HB, HP, HE, HF⟩ := hrel
      have kp1 := (unhide HP).S
      cases gk with
      | zero =>
       obtain rfl : x = W := by omega
       have hxz : ¬ (x : Int) < (x : Int) := by omega
       have HQ2 : Hid (q = (y + 1) * x) := by show _ = _; rw [unhide HQ, Nat.add_mul, Nat.one_mul]
       have HE2 : Hid (wr.ownsRow w4.heap.size 53 2 (.slice aV q cV) q (cP (rowsC x (rs.take (y + 1))))) := by show World.ownsRow _ _ _ _ _ _ _; have e : rs[y]'(unhide HLM) = s1 := (unhide HS1).symm; rw [rowsC_snoc x rs y (unhide HLM), e]; exact unhide HE
       clear hxg HE HQ
       go_wp2_with fail
       go_roundg gy
       case measure => omega
       case rel => exact ⟨y + 1, q, aV, cV, by have := unhide HYG; omega, by go_num, HQ2, HB, HP, HE2, HF, HPO2⟩
      | succ gx =>
       have hxlt : (x : Int) < (W : Int) := by omega
       have HXG := hide hxg
       have HXL : Hid (x < W) := by show _ < _; omega
       obtain ⟨b, hb⟩ : ∃ b, b = 4 * x := ⟨_, rfl⟩
       obtain ⟨c, hc⟩ : ∃ c, c = b + 3 := ⟨_, rfl⟩
       have hx24 : (x : Int) ≤ 24 := by omega
       have hw1 : IntKind.i64.wrap (4 * (x : Int)) = (b : Int) := by rw [wrapi _ (by omega) (by omega)]; omega
       have hw2 : IntKind.i64.wrap ((b : Int) + 3) = (c : Int) := by rw [wrapi _ (by omega) (by omega)]; omega
       have hsz4 := unhide HSZ
       have hbc : b ≤ c := by omega
       have hcs : c < s1.size := by omega
       have hbi : (b : Int) ≤ (c : Int) := by omega
       have hci : (c : Int) ≤ (s1.size : Int) := by omega
       have hci2 : (c : Int) < (s1.size : Int) := by omega
       have hcn : c ≤ s1.size := by omega
       obtain ⟨X, hX⟩ : ∃ X, s1.extract b c = X := ⟨_, rfl⟩
       have HX4 : Hid (X.size ≤ 4) := by show _ ≤ _; rw [← hX, ByteArray.size_extract]; omega
       obtain ⟨xv, hxv⟩ : ∃ xv : Int, ((ofBE X.data.toList : Nat) : Int) = xv := ⟨_, rfl⟩
       have HXV := hide hxv
       obtain ⟨y8, hy8⟩ : ∃ y8, s1[c]'hcs = y8 := ⟨_, rfl⟩
       obtain ⟨yv, hyv⟩ : ∃ yv : Int, (y8.toNat : Int) = yv := ⟨_, rfl⟩
       have hy0 : 0 ≤ yv := by omega
       have hy255 : yv ≤ 255 := by have := y8.toNat_lt; omega
       have hwr2 : IntKind.i64.wrap yv = yv := wrapi yv (by omega) (by omega)
       have HSN : Hid (cP (rowsC W (rs.take y) ++ cells4 s1.data.toList (x + 1)) = cP (rowsC W (rs.take y) ++ cells4 s1.data.toList x) ++ [.int .i64 xv, .int .i64 yv]) := by
        show _ = _
        rw [cells4_snoc, ← List.append_assoc, cP_app]
        have e := c4_partsS s1 x b c hb (by omega) hcs
        rw [e, hX, hy8, hxv, hyv]
        simp [cP]
       have HQ2 : Hid (q + 1 = y * W + (x + 1)) := by show _ = _; have := unhide HQ; omega
       have HQB : Hid (q ≤ 1000) := by
        show _ ≤ _
        have e1 := unhide HQ
        have e2 : y * W ≤ 10 * 24 := Nat.mul_le_mul (unhide HY10) (unhide HW24)
        omega
       clear hb hc hxg hsz4 hxv
       go_wp2_with fail
       clear kp1
       refine wp_region_held_drew (S := (fun _ => True)) (by kernel_rfl) trivial (fun hHeld => ?_)
       have B10 := hide ((unhide HB).drew)
       have P10 := hide ((unhide HP).drew)
       have E10 : Hid (wr.drew.ownsRow w4.heap.size 53 2 (.slice aV q cV) q (cP (rowsC W (rs.take y) ++ cells4 s1.data.toList x))) := unhide HE
       clear HB HP HE
       generalize wr.drew = w10 at B10 P10 E10 hHeld ⊢
       refine wtv 0 (oi := oRcU9) ?_
       refine wtv 2 (oi := oRcU10) ?_
       refine wtv 3 (oi := oRcU11) ?_
       refine wtv 4 (oi := oRcU12) ?_
       refine wtv 5 (oi := oRcU13) ?_
       refine wtv 6 (oi := oRcU14) ?_
       refine wtv 7 (oi := oRcU15) ?_
       refine wtv 8 (oi := oRcU16) ?_
       refine wtv 10 (oi := oRcU17) ?_
       refine wtv 11 (oi := oRcU18) ?_
       refine wtv 12 (oi := oRcU19) ?_
       refine wtv 13 (oi := oRcU20) ?_
       refine wtv 14 (oi := oRcU21) ?_
       refine wtv 15 (oi := oRcU22) ?_
       refine wpAnyH_ready (rs := [1, 9]) (by kernel_rfl) (by simp) ?_
       refine AllReadyH.cons (o := oRcU23) rfl (fun K hK => ?_) (AllReadyH.cons (o := oRcU24) rfl (fun K hK => ?_) AllReadyH.nil)
       ·skip
        have kp := (unhide P10).S
        go_simp
        refine hK.out _ _ ?_ (fun hHeldL => ?_)
        ·trivial
        clear hK K kp
        try simp only [Act.put, qqA, qqB, qqC]
        refine wpAnyH_ready (rs := [9]) (by kernel_rfl) (by simp) ?_
        refine AllReadyH.cons (o := oRcU24) rfl (fun K hK => ?_) AllReadyH.nil
        go_simp
        refine (snumX X (unhide HX4) xv HXV _).mono ?_
        rintro e wn ⟨rfl, hw⟩
        subst wn
        go_wp2_with fail
        refine hK.out _ _ ?_ (fun hHeldN => ?_)
        ·trivial
        clear hK K
        try simp only [Act.put, qqA, qqB, qqC]
        refine wtv 16 (oi := oRcU25) ?_
        refine wpAnyH_ready (rs := [17]) (by kernel_rfl) (by simp) ?_
        refine AllReadyH.cons (o := oRcU26) rfl (fun K hK => ?_) AllReadyH.nil
        obtain ⟨G, hG⟩ : ∃ G, G = w10.heap.size := ⟨_, rfl⟩
        have hbb : Below w10.heap.size w10 (w10.alloc (.cells #[.int .i64 xv, .int .i64 yv] 53)) := Go.Joins.below_alloc1 w10 (.cells #[.int .i64 xv, .int .i64 yv] 53)
        have RB := hide (BF.new w10 #[.int .i64 xv, .int .i64 yv] 53)
        have B11 := hide ((unhide B10).trans (hbb.mono (unhide B10).size))
        have P11 := hide ((unhide P10).below hbb)
        have E11 := hide (((heldZ_of (unhide E10)).below hbb (Nat.le_refl _)).own)
        have ZB : Hid (P < G ∧ w4.heap.size ≤ G) := by show _ ∧ _; rw [hG]; exact ⟨(unhide P10).lt, (unhide B10).size⟩
        rw [← hG] at RB
        go_simp
        refine hK.out _ _ ?_ (fun hHeldB => ?_)
        ·trivial
        clear hK K
        try simp only [Act.put, qqA, qqB, qqC]
        rw [← hG]
        clear hbb hG B10 P10 E10
        generalize w10.alloc (.cells #[.int .i64 xv, .int .i64 yv] 53) = w11 at RB P11 B11 E11 hHeldB ⊢
        refine wpAnyH_ready (rs := [18]) (by kernel_rfl) (by simp) ?_
        refine AllReadyH.cons (o := oRcU27) rfl (fun K hK => ?_) AllReadyH.nil
        refine step_append_lies w11 rfl (.tmp 130) (.tmp 146) 23 rfl w4.heap.size 53 iz (.agg #[.int .i64 0, .int .i64 0]) 2 16 Tryd.underlying23 hi hz0 hz1 hz2 rfl (by decide) (.slice aV q cV) q (cP (rowsC W (rs.take y) ++ cells4 s1.data.toList x)) rfl (unhide E11) ⟨G, 0, none⟩ 1 1 [.int .i64 xv, .int .i64 yv] rfl rfl (by intro j u hj; have e := (unhide RB).S j; rw [addr_add0 G j, e]; simpa using hj) (by intro u hu; simp at hu; rcases hu with rfl | rfl <;> rfl) (by decide) (by have := unhide HQB; unfold maxLen; omega) (by have := unhide HQB; omega) (unhide B11).size _ rfl ?_
        intro g7 c7 wa ho7 hg7 hat7 hlt7
        have Pa := hide ((unhide P11).grown hg7 (fun h => (unhide HF _ h).2 rfl))
        have Ba := hide ((unhide B11).grown hg7 (unhide B11).size (fun j hj => by have := (unhide HF j hj).1; omega))
        have Fa : Hid (w4.heap.size ≤ g7 ∧ g7 ≠ P) := by
         show _ ∧ _
         rcases hat7 with h | h
         ·exact unhide HF _ h
         ·have := unhide ZB; have := (unhide P11).lt; have := (unhide B11).size; omega
        have Ea : Hid (wa.ownsRow w4.heap.size 53 2 (.slice (some ⟨g7, 0, none⟩) (q + 1) c7) (q + 1) (cP (rowsC W (rs.take y) ++ cells4 s1.data.toList (x + 1)))) := by show World.ownsRow _ _ _ _ _ _ _; rw [unhide HSN]; exact ho7
        clear ho7 hg7 hat7 hlt7 P11 B11 E11 RB ZB
        refine hK.out _ _ ?_ (fun hHeld18 => ?_)
        ·trivial
        clear hK K
        try simp only [Act.put, qqA, qqB, qqC]
        refine wtv 19 (oi := oRcU28) ?_
        refine wpAnyH_ready (rs := [20]) (by kernel_rfl) (by simp) ?_
        refine AllReadyH.cons (o := oRcU29) rfl (fun K hK => ?_) AllReadyH.nil
        have kp := (unhide Pa).S
        have kpf := (unhide Pa).F
        obtain ⟨wz, hwz⟩ : ∃ wz, wz = wa.setCell ⟨P, 10, none⟩ (.slice (some ⟨g7, 0, none⟩) (q + 1) c7) := ⟨_, rfl⟩
        have Pz : Hid (BF P #[.int .i64 (W : Int), .int .i64 (H : Int), .int .i64 i2, .int .i64 i3, .int .i64 i4, .int .i64 i5, .int .i64 i6, .int .i64 i7, .int .i64 i8, .string t, .slice (some ⟨g7, 0, none⟩) (q + 1) c7, .slice a4 mh c4] wz) := by rw [hwz]; exact (unhide Pa).set 10 (by simp) _
        have Bz : Hid (Below w4.heap.size w4 wz) := by rw [hwz]; exact (unhide Ba).setCell (p := ⟨P, 10, none⟩) (unhide LP) _
        have Ez : Hid (wz.ownsRow w4.heap.size 53 2 (.slice (some ⟨g7, 0, none⟩) (q + 1) c7) (q + 1) (cP (rowsC W (rs.take y) ++ cells4 s1.data.toList (x + 1)))) := by rw [hwz]; exact own_keepS (unhide Ea) (Below.heap_setCell _ _ _ _ (unhide Fa).2)
        have Fz : Hid (∀ j, (Value.slice (some ⟨g7, 0, none⟩) (q + 1) c7).ownBlock = some j → w4.heap.size ≤ j ∧ j ≠ P) := fun j hj => by have e : g7 = j := Option.some.inj hj; subst e; exact unhide Fa
        go_simp
        rw [← hwz]
        refine hK.out _ _ ?_ (fun hHeld20 => ?_)
        ·trivial
        clear hK K
        try simp only [Act.put, qqA, qqB, qqC]
        refine wpAnyH_done (by kernel_rfl) ?_ _
        clear kp kpf hwz Pa Ba Ea Fa
        go_wp2_with fail
        go_roundg gx
        case measure => omega
        case rel => exact ⟨x + 1, q + 1, _, _, by have := unhide HXG; omega, by go_num, HQ2, Bz, Pz, Ez, Fz⟩
       ·skip
        go_simp
        refine (snumX X (unhide HX4) xv HXV _).mono ?_
        rintro e wn ⟨rfl, hw⟩
        subst wn
        go_wp2_with fail
        refine hK.out _ _ ?_ (fun hHeldN => ?_)
        ·trivial
        clear hK K
        try simp only [Act.put, qqA, qqB, qqC]
        refine wtv 16 (oi := oRcU25) ?_
        refine wpAnyH_ready (rs := [1, 17]) (by kernel_rfl) (by simp) ?_
        refine AllReadyH.cons (o := oRcU23) rfl (fun K hK => ?_) (AllReadyH.cons (o := oRcU26) rfl (fun K hK => ?_) AllReadyH.nil)
        ·skip
         have kp := (unhide P10).S
         go_simp
         refine hK.out _ _ ?_ (fun hHeldL => ?_)
         ·trivial
         clear hK K kp
         try simp only [Act.put, qqA, qqB, qqC]
         refine wpAnyH_ready (rs := [17]) (by kernel_rfl) (by simp) ?_
         refine AllReadyH.cons (o := oRcU26) rfl (fun K hK => ?_) AllReadyH.nil
         obtain ⟨G, hG⟩ : ∃ G, G = w10.heap.size := ⟨_, rfl⟩
         have hbb : Below w10.heap.size w10 (w10.alloc (.cells #[.int .i64 xv, .int .i64 yv] 53)) := Go.Joins.below_alloc1 w10 (.cells #[.int .i64 xv, .int .i64 yv] 53)
         have RB := hide (BF.new w10 #[.int .i64 xv, .int .i64 yv] 53)
         have B11 := hide ((unhide B10).trans (hbb.mono (unhide B10).size))
         have P11 := hide ((unhide P10).below hbb)
         have E11 := hide (((heldZ_of (unhide E10)).below hbb (Nat.le_refl _)).own)
         have ZB : Hid (P < G ∧ w4.heap.size ≤ G) := by show _ ∧ _; rw [hG]; exact ⟨(unhide P10).lt, (unhide B10).size⟩
         rw [← hG] at RB
         go_simp
         refine hK.out _ _ ?_ (fun hHeldB => ?_)
         ·trivial
         clear hK K
         try simp only [Act.put, qqA, qqB, qqC]
         rw [← hG]
         clear hbb hG B10 P10 E10
         generalize w10.alloc (.cells #[.int .i64 xv, .int .i64 yv] 53) = w11 at RB P11 B11 E11 hHeldB ⊢
         refine wpAnyH_ready (rs := [18]) (by kernel_rfl) (by simp) ?_
         refine AllReadyH.cons (o := oRcU27) rfl (fun K hK => ?_) AllReadyH.nil
         refine step_append_lies w11 rfl (.tmp 130) (.tmp 146) 23 rfl w4.heap.size 53 iz (.agg #[.int .i64 0, .int .i64 0]) 2 16 Tryd.underlying23 hi hz0 hz1 hz2 rfl (by decide) (.slice aV q cV) q (cP (rowsC W (rs.take y) ++ cells4 s1.data.toList x)) rfl (unhide E11) ⟨G, 0, none⟩ 1 1 [.int .i64 xv, .int .i64 yv] rfl rfl (by intro j u hj; have e := (unhide RB).S j; rw [addr_add0 G j, e]; simpa using hj) (by intro u hu; simp at hu; rcases hu with rfl | rfl <;> rfl) (by decide) (by have := unhide HQB; unfold maxLen; omega) (by have := unhide HQB; omega) (unhide B11).size _ rfl ?_
         intro g7 c7 wa ho7 hg7 hat7 hlt7
         have Pa := hide ((unhide P11).grown hg7 (fun h => (unhide HF _ h).2 rfl))
         have Ba := hide ((unhide B11).grown hg7 (unhide B11).size (fun j hj => by have := (unhide HF j hj).1; omega))
         have Fa : Hid (w4.heap.size ≤ g7 ∧ g7 ≠ P) := by
          show _ ∧ _
          rcases hat7 with h | h
          ·exact unhide HF _ h
          ·have := unhide ZB; have := (unhide P11).lt; have := (unhide B11).size; omega
         have Ea : Hid (wa.ownsRow w4.heap.size 53 2 (.slice (some ⟨g7, 0, none⟩) (q + 1) c7) (q + 1) (cP (rowsC W (rs.take y) ++ cells4 s1.data.toList (x + 1)))) := by show World.ownsRow _ _ _ _ _ _ _; rw [unhide HSN]; exact ho7
         clear ho7 hg7 hat7 hlt7 P11 B11 E11 RB ZB
         refine hK.out _ _ ?_ (fun hHeld18 => ?_)
         ·trivial
         clear hK K
         try simp only [Act.put, qqA, qqB, qqC]
         refine wtv 19 (oi := oRcU28) ?_
         refine wpAnyH_ready (rs := [20]) (by kernel_rfl) (by simp) ?_
         refine AllReadyH.cons (o := oRcU29) rfl (fun K hK => ?_) AllReadyH.nil
         have kp := (unhide Pa).S
         have kpf := (unhide Pa).F
         obtain ⟨wz, hwz⟩ : ∃ wz, wz = wa.setCell ⟨P, 10, none⟩ (.slice (some ⟨g7, 0, none⟩) (q + 1) c7) := ⟨_, rfl⟩
         have Pz : Hid (BF P #[.int .i64 (W : Int), .int .i64 (H : Int), .int .i64 i2, .int .i64 i3, .int .i64 i4, .int .i64 i5, .int .i64 i6, .int .i64 i7, .int .i64 i8, .string t, .slice (some ⟨g7, 0, none⟩) (q + 1) c7, .slice a4 mh c4] wz) := by rw [hwz]; exact (unhide Pa).set 10 (by simp) _
         have Bz : Hid (Below w4.heap.size w4 wz) := by rw [hwz]; exact (unhide Ba).setCell (p := ⟨P, 10, none⟩) (unhide LP) _
         have Ez : Hid (wz.ownsRow w4.heap.size 53 2 (.slice (some ⟨g7, 0, none⟩) (q + 1) c7) (q + 1) (cP (rowsC W (rs.take y) ++ cells4 s1.data.toList (x + 1)))) := by rw [hwz]; exact own_keepS (unhide Ea) (Below.heap_setCell _ _ _ _ (unhide Fa).2)
         have Fz : Hid (∀ j, (Value.slice (some ⟨g7, 0, none⟩) (q + 1) c7).ownBlock = some j → w4.heap.size ≤ j ∧ j ≠ P) := fun j hj => by have e : g7 = j := Option.some.inj hj; subst e; exact unhide Fa
         go_simp
         rw [← hwz]
         refine hK.out _ _ ?_ (fun hHeld20 => ?_)
         ·trivial
         clear hK K
         try simp only [Act.put, qqA, qqB, qqC]
         refine wpAnyH_done (by kernel_rfl) ?_ _
         clear kp kpf hwz Pa Ba Ea Fa
         go_wp2_with fail
         go_roundg gx
         case measure => omega
         case rel => exact ⟨x + 1, q + 1, _, _, by have := unhide HXG; omega, by go_num, HQ2, Bz, Pz, Ez, Fz⟩
        ·skip
         obtain ⟨G, hG⟩ : ∃ G, G = w10.heap.size := ⟨_, rfl⟩
         have hbb : Below w10.heap.size w10 (w10.alloc (.cells #[.int .i64 xv, .int .i64 yv] 53)) := Go.Joins.below_alloc1 w10 (.cells #[.int .i64 xv, .int .i64 yv] 53)
         have RB := hide (BF.new w10 #[.int .i64 xv, .int .i64 yv] 53)
         have B11 := hide ((unhide B10).trans (hbb.mono (unhide B10).size))
         have P11 := hide ((unhide P10).below hbb)
         have E11 := hide (((heldZ_of (unhide E10)).below hbb (Nat.le_refl _)).own)
         have ZB : Hid (P < G ∧ w4.heap.size ≤ G) := by show _ ∧ _; rw [hG]; exact ⟨(unhide P10).lt, (unhide B10).size⟩
         rw [← hG] at RB
         go_simp
         refine hK.out _ _ ?_ (fun hHeldB => ?_)
         ·trivial
         clear hK K
         try simp only [Act.put, qqA, qqB, qqC]
         rw [← hG]
         clear hbb hG B10 P10 E10
         generalize w10.alloc (.cells #[.int .i64 xv, .int .i64 yv] 53) = w11 at RB P11 B11 E11 hHeldB ⊢
         refine wpAnyH_ready (rs := [1]) (by kernel_rfl) (by simp) ?_
         refine AllReadyH.cons (o := oRcU23) rfl (fun K hK => ?_) AllReadyH.nil
         have kp := (unhide P11).S
         go_simp
         refine hK.out _ _ ?_ (fun hHeldL => ?_)
         ·trivial
         clear hK K kp
         try simp only [Act.put, qqA, qqB, qqC]
         refine wpAnyH_ready (rs := [18]) (by kernel_rfl) (by simp) ?_
         refine AllReadyH.cons (o := oRcU27) rfl (fun K hK => ?_) AllReadyH.nil
         refine step_append_lies w11 rfl (.tmp 130) (.tmp 146) 23 rfl w4.heap.size 53 iz (.agg #[.int .i64 0, .int .i64 0]) 2 16 Tryd.underlying23 hi hz0 hz1 hz2 rfl (by decide) (.slice aV q cV) q (cP (rowsC W (rs.take y) ++ cells4 s1.data.toList x)) rfl (unhide E11) ⟨G, 0, none⟩ 1 1 [.int .i64 xv, .int .i64 yv] rfl rfl (by intro j u hj; have e := (unhide RB).S j; rw [addr_add0 G j, e]; simpa using hj) (by intro u hu; simp at hu; rcases hu with rfl | rfl <;> rfl) (by decide) (by have := unhide HQB; unfold maxLen; omega) (by have := unhide HQB; omega) (unhide B11).size _ rfl ?_
         intro g7 c7 wa ho7 hg7 hat7 hlt7
         have Pa := hide ((unhide P11).grown hg7 (fun h => (unhide HF _ h).2 rfl))
         have Ba := hide ((unhide B11).grown hg7 (unhide B11).size (fun j hj => by have := (unhide HF j hj).1; omega))
         have Fa : Hid (w4.heap.size ≤ g7 ∧ g7 ≠ P) := by
          show _ ∧ _
          rcases hat7 with h | h
          ·exact unhide HF _ h
          ·have := unhide ZB; have := (unhide P11).lt; have := (unhide B11).size; omega
         have Ea : Hid (wa.ownsRow w4.heap.size 53 2 (.slice (some ⟨g7, 0, none⟩) (q + 1) c7) (q + 1) (cP (rowsC W (rs.take y) ++ cells4 s1.data.toList (x + 1)))) := by show World.ownsRow _ _ _ _ _ _ _; rw [unhide HSN]; exact ho7
         clear ho7 hg7 hat7 hlt7 P11 B11 E11 RB ZB
         refine hK.out _ _ ?_ (fun hHeld18 => ?_)
         ·trivial
         clear hK K
         try simp only [Act.put, qqA, qqB, qqC]
         refine wtv 19 (oi := oRcU28) ?_
         refine wpAnyH_ready (rs := [20]) (by kernel_rfl) (by simp) ?_
         refine AllReadyH.cons (o := oRcU29) rfl (fun K hK => ?_) AllReadyH.nil
         have kp := (unhide Pa).S
         have kpf := (unhide Pa).F
         obtain ⟨wz, hwz⟩ : ∃ wz, wz = wa.setCell ⟨P, 10, none⟩ (.slice (some ⟨g7, 0, none⟩) (q + 1) c7) := ⟨_, rfl⟩
         have Pz : Hid (BF P #[.int .i64 (W : Int), .int .i64 (H : Int), .int .i64 i2, .int .i64 i3, .int .i64 i4, .int .i64 i5, .int .i64 i6, .int .i64 i7, .int .i64 i8, .string t, .slice (some ⟨g7, 0, none⟩) (q + 1) c7, .slice a4 mh c4] wz) := by rw [hwz]; exact (unhide Pa).set 10 (by simp) _
         have Bz : Hid (Below w4.heap.size w4 wz) := by rw [hwz]; exact (unhide Ba).setCell (p := ⟨P, 10, none⟩) (unhide LP) _
         have Ez : Hid (wz.ownsRow w4.heap.size 53 2 (.slice (some ⟨g7, 0, none⟩) (q + 1) c7) (q + 1) (cP (rowsC W (rs.take y) ++ cells4 s1.data.toList (x + 1)))) := by rw [hwz]; exact own_keepS (unhide Ea) (Below.heap_setCell _ _ _ _ (unhide Fa).2)
         have Fz : Hid (∀ j, (Value.slice (some ⟨g7, 0, none⟩) (q + 1) c7).ownBlock = some j → w4.heap.size ≤ j ∧ j ≠ P) := fun j hj => by have e : g7 = j := Option.some.inj hj; subst e; exact unhide Fa
         go_simp
         rw [← hwz]
         refine hK.out _ _ ?_ (fun hHeld20 => ?_)
         ·trivial
         clear hK K
         try simp only [Act.put, qqA, qqB, qqC]
         refine wpAnyH_done (by kernel_rfl) ?_ _
         clear kp kpf hwz Pa Ba Ea Fa
         go_wp2_with fail
         go_roundg gx
         case measure => omega
         case rel => exact ⟨x + 1, q + 1, _, _, by have := unhide HXG; omega, by go_num, HQ2, Bz, Pz, Ez, Fz⟩
    ·have hne : ((s1.size : Int) != (M : Int)) = true := by rw [bne_iff_ne]; omega
     have HEX : Hid (∃ s ∈ rs, ¬ s.size = 4 * W) := ⟨s1, by rw [hs1]; exact List.getElem_mem hlm, by omega⟩
     clear hj hs1 h0 hM hyg hlm
     have YR := hide ((unhide Y4).below (unhide HB))
     have BR := hide ((unhide B4).trans ((unhide HB).mono (unhide B4).size))
     have kz := (unhide YR).S
     have kf := (unhide YR).F
     go_wp2_with fail
     (try simp only [Exit.inBlock, Exit.then])
     refine bodyPost_ret (v := .tuple #[.agg #[.int .i64 0, .int .i64 0, .int .i64 0, .int .i64 0, .int .i64 0, .int .i64 0, .int .i64 0, .int .i64 0, .int .i64 0, .string ⟨#[]⟩, .slice none 0 0, .slice none 0 0], .bool false]) ?_ rfl (Or.inr ⟨rfl, unhide HEX, ?_⟩)
     ·rw [results_cell_tmp rfl]
      go_simp
     ·iterate 12 refine Below.setCell ?_ (by exact Nat.le_refl _) _
      exact unhide BR
end Go.Proofs.YtpcdjpfffanlbaaDoor
