/- l11Read: fields that hold numbers and rows. -/
import Derived.Test.YtblhediekdeffaaDoorZRvwS
import Derived.Test.YtblhediekdeffaaDoorZG32
import Derived.Deep.Cut
import Derived.Deep.MidRow
import Derived.Laws.ResultCell
import Derived.Laws.OwnMore
namespace Go.Proofs.YtblhediekdeffaaDoor
open Go.ChangeShapes Go.WideShapes Go.ChangeAt Go.RowKit
set_option linter.unusedVariables false
abbrev oRvwU0 : Oper := { dst := some 61, op := .buildSlice 23 0 #[], type := 23, pos := "l11_view.go:155", after := #[], guard := none }
abbrev oRvwU1 : Oper := { dst := some 8, op := .alloc 25, type := 0, pos := "l11_view.go:155", after := #[], guard := none }
abbrev oRvwU2 : Oper := { dst := some 62, op := .build 25 #[(0, .tmp 47), (1, .tmp 50), (2, .tmp 54), (3, .tmp 57), (4, .tmp 60), (5, .tmp 61)], type := 25, pos := "l11_view.go:155", after := #[{ on := 2, ground := .data }, { on := 5, ground := .data }, { on := 9, ground := .data }, { on := 12, ground := .data }, { on := 15, ground := .data }, { on := 16, ground := .data }], guard := none }
abbrev oRvwU3 : Oper := { dst := none, op := .store 25 (.tmp 8) (.tmp 62), type := 0, pos := "l11_view.go:155", after := #[{ on := 18, ground := .data }, { on := 17, ground := .data }, { on := 0, ground := .phase }, { on := 1, ground := .phase }, { on := 2, ground := .phase }, { on := 3, ground := .phase }, { on := 4, ground := .phase }, { on := 5, ground := .phase }, { on := 6, ground := .phase }, { on := 7, ground := .phase }, { on := 8, ground := .phase }, { on := 9, ground := .phase }, { on := 10, ground := .phase }, { on := 11, ground := .phase }, { on := 12, ground := .phase }, { on := 13, ground := .phase }, { on := 14, ground := .phase }, { on := 15, ground := .phase }, { on := 16, ground := .phase }, { on := 17, ground := .phase }, { on := 18, ground := .phase }], guard := none }
abbrev oRvwU4 : Oper := { dst := some 75, op := .fieldAddr 25 (.tmp 8) 5, type := 0, pos := "l11_view.go:160", after := #[], guard := none }
abbrev oRvwU5 : Oper := { dst := some 77, op := .move (.tmp 4), type := 36, pos := "l11_view.go:160", after := #[], guard := none }
abbrev oRvwU6 : Oper := { dst := some 78, op := .move (.tmp 9), type := 3, pos := "l11_view.go:160", after := #[], guard := none }
abbrev oRvwU7 : Oper := { dst := some 79, op := .indexAddr 36 (.tmp 77) (.tmp 78), type := 0, pos := "l11_view.go:160", after := #[{ on := 2, ground := .data }, { on := 3, ground := .data }], guard := none }
abbrev oRvwU8 : Oper := { dst := some 80, op := .load 9 (.tmp 79), type := 9, pos := "l11_view.go:160", after := #[{ on := 4, ground := .data }], guard := none }
abbrev oRvwU9 : Oper := { dst := some 81, op := .index 9 (.tmp 80) (.const (.int .i64 0)), type := 5, pos := "l11_view.go:160", after := #[{ on := 5, ground := .data }], guard := none }
abbrev oRvwU10 : Oper := { dst := some 82, op := .convert 5 3 (.tmp 81), type := 3, pos := "l11_view.go:160", after := #[{ on := 6, ground := .data }], guard := none }
abbrev oRvwU11 : Oper := { dst := some 83, op := .move (.tmp 4), type := 36, pos := "l11_view.go:160", after := #[], guard := none }
abbrev oRvwU12 : Oper := { dst := some 84, op := .move (.tmp 9), type := 3, pos := "l11_view.go:160", after := #[], guard := none }
abbrev oRvwU13 : Oper := { dst := some 85, op := .indexAddr 36 (.tmp 83) (.tmp 84), type := 0, pos := "l11_view.go:160", after := #[{ on := 8, ground := .data }, { on := 9, ground := .data }], guard := none }
abbrev oRvwU14 : Oper := { dst := some 86, op := .load 9 (.tmp 85), type := 9, pos := "l11_view.go:160", after := #[{ on := 10, ground := .data }], guard := none }
abbrev oRvwU15 : Oper := { dst := some 87, op := .slice 9 (.tmp 86) (some (.const (.int .i64 1))) none none, type := 9, pos := "l11_view.go:160", after := #[{ on := 11, ground := .data }], guard := none }
abbrev oRvwU16 : Oper := { dst := some 88, op := .build 51 #[(0, .tmp 82), (1, .tmp 87)], type := 51, pos := "l11_view.go:160", after := #[{ on := 7, ground := .data }, { on := 12, ground := .data }], guard := none }
abbrev oRvwU17 : Oper := { dst := some 76, op := .load 23 (.tmp 75), type := 23, pos := "l11_view.go:160", after := #[{ on := 0, ground := .data }], guard := none }
abbrev oRvwU18 : Oper := { dst := some 89, op := .buildSlice 23 1 #[(0, .tmp 88)], type := 23, pos := "l11_view.go:160", after := #[{ on := 13, ground := .data }], guard := none }
abbrev oRvwU19 : Oper := { dst := some 90, op := .call { callee := .builtin Go.Builtin.append, args := #[.tmp 76, .tmp 89], argTypes := #[23, 23] }, type := 23, pos := "l11_view.go:160", after := #[{ on := 1, ground := .data }, { on := 14, ground := .data }], guard := none }
abbrev oRvwU20 : Oper := { dst := some 91, op := .fieldAddr 25 (.tmp 8) 5, type := 0, pos := "l11_view.go:160", after := #[{ on := 0, ground := .phase }, { on := 1, ground := .phase }, { on := 2, ground := .phase }, { on := 3, ground := .phase }, { on := 4, ground := .phase }, { on := 5, ground := .phase }, { on := 6, ground := .phase }, { on := 7, ground := .phase }, { on := 8, ground := .phase }, { on := 9, ground := .phase }, { on := 10, ground := .phase }, { on := 11, ground := .phase }, { on := 12, ground := .phase }, { on := 13, ground := .phase }, { on := 14, ground := .phase }, { on := 15, ground := .phase }], guard := none }
abbrev oRvwU21 : Oper := { dst := none, op := .store 23 (.tmp 91) (.tmp 90), type := 0, pos := "l11_view.go:160", after := #[{ on := 16, ground := .data }, { on := 15, ground := .data }, { on := 15, ground := .chain }, { on := 0, ground := .phase }, { on := 1, ground := .phase }, { on := 2, ground := .phase }, { on := 3, ground := .phase }, { on := 4, ground := .phase }, { on := 5, ground := .phase }, { on := 6, ground := .phase }, { on := 7, ground := .phase }, { on := 8, ground := .phase }, { on := 9, ground := .phase }, { on := 10, ground := .phase }, { on := 11, ground := .phase }, { on := 12, ground := .phase }, { on := 13, ground := .phase }, { on := 14, ground := .phase }, { on := 15, ground := .phase }], guard := none }
abbrev oRvwU22 : Oper := { dst := some 92, op := .load 25 (.tmp 8), type := 25, pos := "l11_view.go:162", after := #[], guard := none }
abbrev oRvwU23 : Oper := { dst := some 93, op := .load 25 (.tmp 8), type := 25, pos := "l11_view.go:162", after := #[], guard := none }
abbrev oRvwU24 : Oper := { dst := some 94, op := .call { callee := .value (.func 23), args := #[.tmp 93], argTypes := #[25] }, type := 4, pos := "l11_view.go:162", after := #[{ on := 1, ground := .data }], guard := none }
abbrev oRvwU25 : Oper := { dst := none, op := .store 25 (.tmp 2) (.tmp 92), type := 0, pos := "l11_view.go:162", after := #[{ on := 0, ground := .data }, { on := 2, ground := .chain }, { on := 0, ground := .phase }, { on := 1, ground := .textOnly Go.Departure.lateStores }, { on := 2, ground := .textOnly Go.Departure.lateStoresUnsure }], guard := none }
abbrev oRvwU26 : Oper := { dst := some 3, op := .assign (.tmp 94), type := 4, pos := "l11_view.go:162", after := #[{ on := 2, ground := .data }, { on := 3, ground := .chain }, { on := 0, ground := .phase }, { on := 1, ground := .phase }, { on := 2, ground := .phase }, { on := 3, ground := .phase }], guard := none }
theorem head_byte {s : ByteArray} (h : 0 < s.size) : s[0]'h = s.data.toList.headD 0 := by
  have hl := text_len s
  cases hs : s.data.toList with
  | nil => rw [hs] at hl; simp at hl; omega
  | cons x r =>
    show s.data[0]'h = x
    have e : s.data.toList[0]? = some x := by rw [hs]; rfl
    rw [Array.getElem?_toList, Array.getElem?_eq_getElem h] at e
    injection e
set_option maxHeartbeats 8000000 in
set_option maxRecDepth 100000 in
theorem srv_rows (s : ByteArray) (f0 : ByteArray) (rs : List ByteArray) (r : Nat) (hr60 : r + 1 ≤ 60) (HRL : Hid (rs.length = r)) (HRZ : Hid (∀ k (h : k < rs.length), rs[k].size ≤ 1048576)) (h15 : f0.size = 3 * 5) (x0 x1 x2 x3 x4 : Int) (hx : numsR f0.data.toList 5 = [x0, x1, x2, x3, x4]) (hbit : inB x2 0 1 = true) (R : Bool) (HRR : Hid (R = vwB x0 x1 (x2 == 1) x3 x4 (rs.map rowOf))) (w : World) (T1 : Hid (∀ w1, Calls Tryd.prog 20 #[.string s] w1 fun e w' => ∃ v', e = .returned (.tuple #[v', .bool true]) ∧ w'.ownsRow w1.heap.size 9 1 v' (r + 1) (cS (f0 :: rs)) ∧ Below w1.heap.size w1 w')) :
    Calls Tryd.prog 12 #[.string s] w fun e w' => (∃ (a2 : Option Addr) (c2 : Nat), e = .returned (.tuple #[.agg #[.int .i64 x0, .int .i64 x1, .bool (x2 == 1), .int .i64 x3, .int .i64 x4, .slice a2 r c2], .bool R]) ∧ PosB rs ∧ w'.ownsRow w.heap.size 51 2 (.slice a2 r c2) r (cE (rs.map rowOf)) ∧ Below w.heap.size w w') ∨ (e = .returned (.tuple #[.agg #[.int .i64 0, .int .i64 0, .bool false, .int .i64 0, .int .i64 0, .slice none 0 0], .bool false]) ∧ (∃ s ∈ rs, s.size = 0) ∧ Below w.heap.size w w') := by
  obtain ⟨i0, hi, hz0, hz1, hz2⟩ := info_parts Tryd.infL51
  have B0 := hide (Go.Joins.below_alloc1 w (Obj.cells #[.int .i64 0, .int .i64 0, .bool false, .int .i64 0, .int .i64 0, .slice none 0 0] 25))
  have Y0 := hide (BF.new w #[.int .i64 0, .int .i64 0, .bool false, .int .i64 0, .int .i64 0, .slice none 0 0] 25)
  have TN := hide (fun w => sreadnums30 f0 5 h15 (by omega) w)
  rw [numsR_len, hx] at TN
  have H60 := hide hr60
  clear hx h15
  go_enter Tryd.func12, Tryd.ntmps12
  go_wp2_with fail
  refine (unhide T1 _).mono ?_
  rintro e w1 ⟨v1, rfl, ho1, hb1⟩
  obtain ⟨a1, c1, rfl, -⟩ := own_rowV ho1
  have B1 := hide ((unhide B0).trans (hb1.mono (unhide B0).size))
  have Y1 := hide ((unhide Y0).below hb1)
  have hr1 : ¬ ((r : Int) + 1) < 1 := by omega
  have hr2 : (0 : Int) < (r : Int) + 1 := by omega
  obtain ⟨g1, rfl⟩ := own_at1 ho1 (by omega)
  have d0 := own_cell ho1 0 _ rfl
  have hg1 := (World.ownsRow.lt ho1 g1 rfl).2
  have hc1 : ∀ k (h : k < rs.length), w1.cell? ⟨g1, 1 + k, none⟩ = some (.string rs[k]) := fun k h => own_cell ho1 (1 + k) _ (by rw [Nat.add_comm 1 k]; unfold cS; rw [List.map_cons, List.getElem?_cons_succ, List.getElem?_map, List.getElem?_eq_getElem h]; rfl)
  clear ho1 hb1 T1 B0 Y0 hr60
  go_wp2_with fail
  refine (unhide TN _).mono ?_
  rintro e w3 ⟨v3, rfl, ho3, hb3⟩
  obtain ⟨a3, c3, rfl, -⟩ := own_rowV ho3
  obtain ⟨gn, rfl⟩ := own_at1 ho3 (by decide)
  have e2 := own_cell ho3 2 _ rfl
  have K3 : Hid (w3.cell? ⟨gn, 0, none⟩ = some (.int .i64 x0) ∧ w3.cell? ⟨gn, 1, none⟩ = some (.int .i64 x1) ∧ w3.cell? ⟨gn, 2, none⟩ = some (.int .i64 x2) ∧ w3.cell? ⟨gn, 3, none⟩ = some (.int .i64 x3) ∧ w3.cell? ⟨gn, 4, none⟩ = some (.int .i64 x4)) := ⟨own_cell ho3 0 _ rfl, own_cell ho3 1 _ rfl, own_cell ho3 2 _ rfl, own_cell ho3 3 _ rfl, own_cell ho3 4 _ rfl⟩
  have HGN := hide (World.ownsRow.lt ho3 gn rfl).2
  have HC : Hid (∀ k (h : k < rs.length), w3.cell? ⟨g1, 1 + k, none⟩ = some (.string rs[k])) := fun k h => (hb3.cell (p := ⟨g1, 1 + k, none⟩) hg1).trans (hc1 k h)
  have HG : Hid (g1 < w3.heap.size) := Nat.lt_of_lt_of_le hg1 hb3.size
  have HLN : Hid ((rs.map rowOf).length = r) := by show _ = _; rw [List.length_map]; exact unhide HRL
  have HLS : Hid (∀ k (h : k < (rs.map rowOf).length), (rs.map rowOf)[k].2.size ≤ 1048576) := fun k h => by
    have hk' : k < rs.length := by simpa using h
    rw [List.getElem_map]
    show ((rs[k]'hk').extract 1 (rs[k]'hk').size).size ≤ _
    rw [ByteArray.size_extract]
    have := unhide HRZ k hk'
    omega
  have B3 := hide ((unhide B1).trans (hb3.mono (unhide B1).size))
  have Y3 := hide ((unhide Y1).below hb3)
  clear hb3 ho3 B1 Y1 d0 TN hc1 hg1
  go_wp2_with (go_at_call 22; refine (sin _ _ _ _).mono ?_; rintro e wq ⟨rfl, hw⟩; subst wq; rw [hbit])
  clear e2 hbit
  refine wp_region_held_drew (S := (fun w' => w'.cell? ⟨gn, 0, none⟩ = some (.int .i64 x0) ∧ w'.cell? ⟨gn, 1, none⟩ = some (.int .i64 x1) ∧ w'.cell? ⟨gn, 2, none⟩ = some (.int .i64 x2) ∧ w'.cell? ⟨gn, 3, none⟩ = some (.int .i64 x3) ∧ w'.cell? ⟨gn, 4, none⟩ = some (.int .i64 x4))) (by kernel_rfl) (unhide K3) (fun hHeld => ?_)
  have B4 : Hid (Below w3.heap.size w3 w3.drew) := (Below.refl _ _).drew
  generalize w3.drew = w4 at B4 hHeld ⊢
  refine wtk (i := 0) (oi := { dst := some 45, op := .move (.tmp 6), type := 46, pos := "l11_view.go:155", after := #[], guard := none }) (v := ?_) rfl (Or.inl ⟨by rfl, ?_⟩) (by assumption) ?_
  rotate_left 1
  · (intro w' hSw; (try dsimp only at hSw); go_simp; try with_reducible rfl)
  try simp only [Act.put, qqA, qqB, qqC]
  refine wtk (i := 1) (oi := { dst := some 46, op := .indexAddr 46 (.tmp 45) (.const (.int .i64 0)), type := 0, pos := "l11_view.go:155", after := #[{ on := 0, ground := .data }], guard := none }) (v := ?_) rfl (Or.inl ⟨by rfl, ?_⟩) (by assumption) ?_
  rotate_left 1
  · (intro w' hSw; (try dsimp only at hSw); go_simp; try with_reducible rfl)
  try simp only [Act.put, qqA, qqB, qqC]
  refine wtk (i := 2) (oi := { dst := some 47, op := .load 3 (.tmp 46), type := 3, pos := "l11_view.go:155", after := #[{ on := 1, ground := .data }], guard := none }) (v := ?_) rfl (Or.inl ⟨by rfl, ?_⟩) (by assumption) ?_
  rotate_left 1
  · (intro w' hSw; (try dsimp only at hSw); go_simp; try with_reducible rfl)
  try simp only [Act.put, qqA, qqB, qqC]
  refine wtk (i := 3) (oi := { dst := some 48, op := .move (.tmp 6), type := 46, pos := "l11_view.go:155", after := #[], guard := none }) (v := ?_) rfl (Or.inl ⟨by rfl, ?_⟩) (by assumption) ?_
  rotate_left 1
  · (intro w' hSw; (try dsimp only at hSw); go_simp; try with_reducible rfl)
  try simp only [Act.put, qqA, qqB, qqC]
  refine wtk (i := 4) (oi := { dst := some 49, op := .indexAddr 46 (.tmp 48) (.const (.int .i64 1)), type := 0, pos := "l11_view.go:155", after := #[{ on := 3, ground := .data }], guard := none }) (v := ?_) rfl (Or.inl ⟨by rfl, ?_⟩) (by assumption) ?_
  rotate_left 1
  · (intro w' hSw; (try dsimp only at hSw); go_simp; try with_reducible rfl)
  try simp only [Act.put, qqA, qqB, qqC]
  refine wtk (i := 5) (oi := { dst := some 50, op := .load 3 (.tmp 49), type := 3, pos := "l11_view.go:155", after := #[{ on := 4, ground := .data }], guard := none }) (v := ?_) rfl (Or.inl ⟨by rfl, ?_⟩) (by assumption) ?_
  rotate_left 1
  · (intro w' hSw; (try dsimp only at hSw); go_simp; try with_reducible rfl)
  try simp only [Act.put, qqA, qqB, qqC]
  refine wtk (i := 6) (oi := { dst := some 51, op := .move (.tmp 6), type := 46, pos := "l11_view.go:155", after := #[], guard := none }) (v := ?_) rfl (Or.inl ⟨by rfl, ?_⟩) (by assumption) ?_
  rotate_left 1
  · (intro w' hSw; (try dsimp only at hSw); go_simp; try with_reducible rfl)
  try simp only [Act.put, qqA, qqB, qqC]
  refine wtk (i := 7) (oi := { dst := some 52, op := .indexAddr 46 (.tmp 51) (.const (.int .i64 2)), type := 0, pos := "l11_view.go:155", after := #[{ on := 6, ground := .data }], guard := none }) (v := ?_) rfl (Or.inl ⟨by rfl, ?_⟩) (by assumption) ?_
  rotate_left 1
  · (intro w' hSw; (try dsimp only at hSw); go_simp; try with_reducible rfl)
  try simp only [Act.put, qqA, qqB, qqC]
  refine wtk (i := 8) (oi := { dst := some 53, op := .load 3 (.tmp 52), type := 3, pos := "l11_view.go:155", after := #[{ on := 7, ground := .data }], guard := none }) (v := ?_) rfl (Or.inl ⟨by rfl, ?_⟩) (by assumption) ?_
  rotate_left 1
  · (intro w' hSw; (try dsimp only at hSw); go_simp; try with_reducible rfl)
  try simp only [Act.put, qqA, qqB, qqC]
  refine wtk (i := 9) (oi := { dst := some 54, op := .binOp .eql 3 (.tmp 53) (.const (.int .i64 1)) 3, type := 4, pos := "l11_view.go:155", after := #[{ on := 8, ground := .data }], guard := none }) (v := ?_) rfl (Or.inl ⟨by rfl, ?_⟩) (by assumption) ?_
  rotate_left 1
  · (intro w' hSw; (try dsimp only at hSw); go_simp; try with_reducible rfl)
  try simp only [Act.put, qqA, qqB, qqC]
  refine wtk (i := 10) (oi := { dst := some 55, op := .move (.tmp 6), type := 46, pos := "l11_view.go:155", after := #[], guard := none }) (v := ?_) rfl (Or.inl ⟨by rfl, ?_⟩) (by assumption) ?_
  rotate_left 1
  · (intro w' hSw; (try dsimp only at hSw); go_simp; try with_reducible rfl)
  try simp only [Act.put, qqA, qqB, qqC]
  refine wtk (i := 11) (oi := { dst := some 56, op := .indexAddr 46 (.tmp 55) (.const (.int .i64 3)), type := 0, pos := "l11_view.go:155", after := #[{ on := 10, ground := .data }], guard := none }) (v := ?_) rfl (Or.inl ⟨by rfl, ?_⟩) (by assumption) ?_
  rotate_left 1
  · (intro w' hSw; (try dsimp only at hSw); go_simp; try with_reducible rfl)
  try simp only [Act.put, qqA, qqB, qqC]
  refine wtk (i := 12) (oi := { dst := some 57, op := .load 3 (.tmp 56), type := 3, pos := "l11_view.go:155", after := #[{ on := 11, ground := .data }], guard := none }) (v := ?_) rfl (Or.inl ⟨by rfl, ?_⟩) (by assumption) ?_
  rotate_left 1
  · (intro w' hSw; (try dsimp only at hSw); go_simp; try with_reducible rfl)
  try simp only [Act.put, qqA, qqB, qqC]
  refine wtk (i := 13) (oi := { dst := some 58, op := .move (.tmp 6), type := 46, pos := "l11_view.go:155", after := #[], guard := none }) (v := ?_) rfl (Or.inl ⟨by rfl, ?_⟩) (by assumption) ?_
  rotate_left 1
  · (intro w' hSw; (try dsimp only at hSw); go_simp; try with_reducible rfl)
  try simp only [Act.put, qqA, qqB, qqC]
  refine wtk (i := 14) (oi := { dst := some 59, op := .indexAddr 46 (.tmp 58) (.const (.int .i64 4)), type := 0, pos := "l11_view.go:155", after := #[{ on := 13, ground := .data }], guard := none }) (v := ?_) rfl (Or.inl ⟨by rfl, ?_⟩) (by assumption) ?_
  rotate_left 1
  · (intro w' hSw; (try dsimp only at hSw); go_simp; try with_reducible rfl)
  try simp only [Act.put, qqA, qqB, qqC]
  refine wtk (i := 15) (oi := { dst := some 60, op := .load 3 (.tmp 59), type := 3, pos := "l11_view.go:155", after := #[{ on := 14, ground := .data }], guard := none }) (v := ?_) rfl (Or.inl ⟨by rfl, ?_⟩) (by assumption) ?_
  rotate_left 1
  · (intro w' hSw; (try dsimp only at hSw); go_simp; try with_reducible rfl)
  try simp only [Act.put, qqA, qqB, qqC]
  refine wpAnyH_ready (rs := [16, 18]) (by kernel_rfl) (by simp) ?_
  refine AllReadyH.cons (o := oRvwU0) rfl (fun K hK => ?_) (AllReadyH.cons (o := oRvwU1) rfl (fun K hK => ?_) AllReadyH.nil)
  · skip
    obtain ⟨Q, hQ⟩ : ∃ Q, Q = w4.heap.size := ⟨_, rfl⟩
    have hb5 : Below w4.heap.size w4 (w4.alloc (.cells #[] 51)) := Go.Joins.below_alloc1 w4 (.cells #[] 51)
    have B5 := hide ((unhide B4).trans (hb5.mono (unhide B4).size))
    have E5 : Hid ((w4.alloc (.cells #[] 51)).ownsRow w3.heap.size 51 2 (.slice (some ⟨Q, 0, none⟩) 0 0) 0 []) := by rw [hQ]; exact World.ownsRow_lit (e := 51) (base := w3.heap.size) (size := 2) w4 #[] 0 (unhide B4).size (by decide) rfl
    go_simp
    refine hK.out _ _ ?_ (fun hHeld16 => ?_)
    · exact ⟨((unhide B5).cell (p := ⟨gn, 0, none⟩) (unhide HGN)).trans ((unhide K3).1), ((unhide B5).cell (p := ⟨gn, 1, none⟩) (unhide HGN)).trans ((unhide K3).2.1), ((unhide B5).cell (p := ⟨gn, 2, none⟩) (unhide HGN)).trans ((unhide K3).2.2.1), ((unhide B5).cell (p := ⟨gn, 3, none⟩) (unhide HGN)).trans ((unhide K3).2.2.2.1), ((unhide B5).cell (p := ⟨gn, 4, none⟩) (unhide HGN)).trans ((unhide K3).2.2.2.2)⟩
    clear hK K
    try simp only [Act.put, qqA, qqB, qqC]
    rw [← hQ]
    clear hb5 hQ B4
    generalize w4.alloc (.cells #[] 51) = w5 at B5 E5 hHeld16 ⊢
    refine wtk (i := 17) (oi := oRvwU2) (v := ?_) rfl (Or.inl ⟨by rfl, ?_⟩) (by assumption) ?_
    rotate_left 1
    · (intro w' hSw; (try dsimp only at hSw); go_simp; try with_reducible rfl)
    try simp only [Act.put, qqA, qqB, qqC]
    refine wpAnyH_ready (rs := [18]) (by kernel_rfl) (by simp) ?_
    refine AllReadyH.cons (o := oRvwU1) rfl (fun K hK => ?_) AllReadyH.nil
    obtain ⟨P, hP⟩ : ∃ P, P = w5.heap.size := ⟨_, rfl⟩
    have hb6 : Below w5.heap.size w5 (w5.alloc (.cells #[.int .i64 0, .int .i64 0, .bool false, .int .i64 0, .int .i64 0, .slice none 0 0] 25)) := Go.Joins.below_alloc1 w5 (.cells #[.int .i64 0, .int .i64 0, .bool false, .int .i64 0, .int .i64 0, .slice none 0 0] 25)
    have V6 := hide (BF.new w5 #[.int .i64 0, .int .i64 0, .bool false, .int .i64 0, .int .i64 0, .slice none 0 0] 25)
    have B6 := hide ((unhide B5).trans (hb6.mono (unhide B5).size))
    have E6 := hide (((heldZ_of (unhide E5)).below hb6 (Nat.le_refl _)).own)
    have LP : Hid (w3.heap.size ≤ P) := by have := (unhide B5).size; show _ ≤ _; omega
    have HQP : Hid (Q ≠ P) := by have := (World.ownsRow.lt (unhide E5) Q rfl).2; show _ ≠ _; omega
    have HQ3 : Hid (w3.heap.size ≤ Q) := (World.ownsRow.lt (unhide E5) Q rfl).1
    rw [← hP] at V6
    go_simp
    refine hK.out _ _ ?_ (fun hHeld18 => ?_)
    · exact ⟨((unhide B6).cell (p := ⟨gn, 0, none⟩) (unhide HGN)).trans ((unhide K3).1), ((unhide B6).cell (p := ⟨gn, 1, none⟩) (unhide HGN)).trans ((unhide K3).2.1), ((unhide B6).cell (p := ⟨gn, 2, none⟩) (unhide HGN)).trans ((unhide K3).2.2.1), ((unhide B6).cell (p := ⟨gn, 3, none⟩) (unhide HGN)).trans ((unhide K3).2.2.2.1), ((unhide B6).cell (p := ⟨gn, 4, none⟩) (unhide HGN)).trans ((unhide K3).2.2.2.2)⟩
    clear hK K
    try simp only [Act.put, qqA, qqB, qqC]
    rw [← hP]
    clear hb6 hP B5 E5
    generalize w5.alloc (.cells #[.int .i64 0, .int .i64 0, .bool false, .int .i64 0, .int .i64 0, .slice none 0 0] 25) = w6 at B6 V6 E6 hHeld18 ⊢
    refine wpAnyH_ready (rs := [19]) (by kernel_rfl) (by simp) ?_
    refine AllReadyH.cons (o := oRvwU3) rfl (fun K hK => ?_) AllReadyH.nil
    have fv := (unhide V6).F
    have sv := (unhide V6).S
    obtain ⟨w7, hw7⟩ : ∃ w7, w7 = ((((((w6.setCell ⟨P, 0, none⟩ (.int .i64 x0)).setCell ⟨P, 1, none⟩ (.int .i64 x1)).setCell ⟨P, 2, none⟩ (.bool (x2 == 1))).setCell ⟨P, 3, none⟩ (.int .i64 x3)).setCell ⟨P, 4, none⟩ (.int .i64 x4)).setCell ⟨P, 5, none⟩ (.slice (some ⟨Q, 0, none⟩) 0 0)) := ⟨_, rfl⟩
    have P7 : Hid (BF P #[.int .i64 x0, .int .i64 x1, .bool (x2 == 1), .int .i64 x3, .int .i64 x4, .slice (some ⟨Q, 0, none⟩) 0 0] w7) := by rw [hw7]; exact (((((((unhide V6).set 0 (by simp) (.int .i64 x0)).set 1 (by simp) (.int .i64 x1)).set 2 (by simp) (.bool (x2 == 1))).set 3 (by simp) (.int .i64 x3)).set 4 (by simp) (.int .i64 x4)).set 5 (by simp) (.slice (some ⟨Q, 0, none⟩) 0 0))
    have B7 : Hid (Below w3.heap.size w3 w7) := by
      rw [hw7]
      show Below _ _ _
      iterate 6 refine Below.setCell ?_ (by exact unhide LP) _
      exact unhide B6
    have E7 : Hid (w7.ownsRow w3.heap.size 51 2 (.slice (some ⟨Q, 0, none⟩) 0 0) 0 (cE (([] : List ByteArray).map rowOf))) := by
      rw [hw7]
      refine own_keepBR (unhide E6) ?_
      iterate 6 rw [Below.heap_setCell _ _ _ _ (unhide HQP)]
    have F7 : Hid (∀ j, (Value.slice (some ⟨Q, 0, none⟩) 0 0).ownBlock = some j → w3.heap.size ≤ j ∧ j ≠ P) := fun j hj => by have e : Q = j := Option.some.inj hj; subst e; exact ⟨unhide HQ3, unhide HQP⟩
    go_simp
    rw [← hw7]
    refine hK.out _ _ ?_ (fun hHeld19 => ?_)
    · exact ⟨((unhide B7).cell (p := ⟨gn, 0, none⟩) (unhide HGN)).trans ((unhide K3).1), ((unhide B7).cell (p := ⟨gn, 1, none⟩) (unhide HGN)).trans ((unhide K3).2.1), ((unhide B7).cell (p := ⟨gn, 2, none⟩) (unhide HGN)).trans ((unhide K3).2.2.1), ((unhide B7).cell (p := ⟨gn, 3, none⟩) (unhide HGN)).trans ((unhide K3).2.2.2.1), ((unhide B7).cell (p := ⟨gn, 4, none⟩) (unhide HGN)).trans ((unhide K3).2.2.2.2)⟩
    clear hK K
    try simp only [Act.put, qqA, qqB, qqC]
    clear fv sv hw7 V6 B6 E6
    refine wpAnyH_done (by kernel_rfl) ?_ _
    go_wp2_with fail
    go_loopw [9] (fun i wr => ∃ (k j : Nat) (aV : Option Addr) (cV : Nat), k ≤ r ∧ Hid (j = k + 1) ∧ i = .int .i64 (j : Int) ∧ Hid (Below w3.heap.size w3 wr) ∧ Hid (BF P #[.int .i64 x0, .int .i64 x1, .bool (x2 == 1), .int .i64 x3, .int .i64 x4, .slice aV k cV] wr) ∧ Hid (wr.ownsRow w3.heap.size 51 2 (.slice aV k cV) k (cE ((rs.take k).map rowOf))) ∧ Hid (∀ j, (Value.slice aV k cV).ownBlock = some j → w3.heap.size ≤ j ∧ j ≠ P) ∧ Hid (PosB (rs.take k))) (fun i _ => r + 1 - (intOf i).toNat)
    case atStart => exact ⟨0, 1, _, _, by omega, (show Hid ((1 : Nat) = 0 + 1) from rfl), rfl, B7, P7, E7, F7, (fun s hs => (by simp at hs))⟩
    case round =>
      clear B7 P7 E7 F7
      obtain ⟨k, j, aV, cV, hk, HJ, rfl, HB, HP, HE, HF, HPO⟩ := hrel
      by_cases hlt : k < r
      · have hlm : k < rs.length := by rw [unhide HRL]; exact hlt
        have hlt' : (j : Int) < (r : Int) + 1 := by have := unhide HJ; omega
        have HJ2 : Hid (j + 1 = (k + 1) + 1) := by show _ = _; have := unhide HJ; omega
        have hj60 : (j : Int) ≤ 100 := by have := unhide HJ; have := unhide H60; omega
        obtain ⟨s1, hs1⟩ : ∃ s1, s1 = rs[k] := ⟨_, rfl⟩
        have HCK : Hid (w3.cell? ⟨g1, j, none⟩ = some (.string s1)) := by rw [hs1, unhide HJ, Nat.add_comm k 1]; exact unhide HC k hlm
        have hcell : wr.cell? ⟨g1, j, none⟩ = some (.string s1) := ((unhide HB).cell (p := ⟨g1, j, none⟩) (unhide HG)).trans (unhide HCK)
        have hsz : s1.size ≤ 1048576 := by rw [hs1]; exact unhide HRZ k hlm
        by_cases h0 : s1.size = 0
        · have h0' : (s1.toList == ([] : List UInt8)) = true := by
            have e : s1.toList = [] := by rw [ByteArray.toList_eq]; exact List.length_eq_zero_iff.1 ((text_len s1).trans h0)
            rw [e]; rfl
          have h0'' : s1.toList.isEmpty = true := by rw [List.isEmpty_iff]; exact eq_of_beq h0'
          have HEX : Hid (∃ s ∈ rs, s.size = 0) := ⟨s1, by rw [hs1]; exact List.getElem_mem hlm, h0⟩
          clear hs1 h0
          have YR := hide ((unhide Y3).below (unhide HB))
          have BR := hide ((unhide B3).trans ((unhide HB).mono (unhide B3).size))
          have kz := (unhide YR).S
          have kf := (unhide YR).F
          go_wp2_with fail
          (try simp only [Exit.inBlock, Exit.then])
          refine bodyPost_ret (v := .tuple #[.agg #[.int .i64 0, .int .i64 0, .bool false, .int .i64 0, .int .i64 0, .slice none 0 0], .bool false]) ?_ rfl (Or.inr ⟨rfl, unhide HEX, ?_⟩)
          · rw [results_cell_tmp rfl]
            go_simp
          · iterate 6 refine Below.setCell ?_ (by exact Nat.le_refl _) _
            exact unhide BR
        · have h0' : (s1.toList == ([] : List UInt8)) = false := by
            rw [beq_eq_false_iff_ne]
            intro e
            rw [ByteArray.toList_eq] at e
            have := text_len s1
            rw [e] at this
            simp at this; omega
          have h0'' : s1.toList.isEmpty = false := by rw [← Bool.not_eq_true, List.isEmpty_iff]; exact fun e => by rw [e] at h0'; cases h0'
          have h1' : (1 : Int) ≤ (s1.size : Int) := by omega
          have h1'' : (0 : Int) < (s1.size : Int) := by omega
          obtain ⟨X2, hX2⟩ : ∃ X, s1.extract 1 s1.size = X := ⟨_, rfl⟩
          obtain ⟨y8, hy8⟩ : ∃ y8, y8 = s1.data.toList.headD 0 := ⟨_, rfl⟩
          obtain ⟨yv, hyv⟩ : ∃ yv : Int, (y8.toNat : Int) = yv := ⟨_, rfl⟩
          have h1n : 0 < s1.size := by omega
          have hb0 : s1[0]'h1n = y8 := by rw [hy8]; exact head_byte h1n
          have hy0 : 0 ≤ yv := by omega
          have hy255 : yv ≤ 255 := by have := y8.toNat_lt; omega
          have hwr : IntKind.i64.wrap yv = yv := wrapi yv (by omega) (by omega)
          have HSN : Hid ((cE ((rs.take (k + 1)).map rowOf)) = (cE ((rs.take k).map rowOf)) ++ [.int .i64 yv, .string X2]) := by
            show _ = _
            rw [List.take_add_one, List.getElem?_eq_getElem hlm, Option.toList_some, List.map_append, cE_app, ← hs1]
            show _ ++ cE [rowOf s1] = _
            unfold rowOf
            rw [← hy8, hX2, ← hyv]; rfl
          have HPO2 : Hid (PosB (rs.take (k + 1))) := by
            intro s2 hs2
            rw [List.take_add_one, List.getElem?_eq_getElem hlm, Option.toList_some, List.mem_append, List.mem_singleton] at hs2
            rcases hs2 with h | h
            · exact unhide HPO s2 h
            · rw [h, ← hs1]; omega
          clear hs1 h0 hy8
          go_upto_region 13 with fail
          refine wp_region_held_drew (S := (fun w' => w'.cell? ⟨g1, j, none⟩ = some (.string s1))) (by kernel_rfl) hcell (fun hHeld => ?_)
          have B10 := hide ((unhide HB).drew)
          have P10 := hide ((unhide HP).drew)
          have E10 : Hid (wr.drew.ownsRow w3.heap.size 51 2 (.slice aV k cV) k (cE ((rs.take k).map rowOf))) := unhide HE
          clear HB HP HE hcell
          generalize wr.drew = w10 at B10 P10 E10 hHeld ⊢
          refine wtk (i := 0) (oi := oRvwU4) (v := ?_) rfl (Or.inl ⟨by rfl, ?_⟩) (by assumption) ?_
          rotate_left 1
          · (intro w' hSw; (try dsimp only at hSw); go_simp; try with_reducible rfl)
          try simp only [Act.put, qqA, qqB, qqC]
          refine wtk (i := 2) (oi := oRvwU5) (v := ?_) rfl (Or.inl ⟨by rfl, ?_⟩) (by assumption) ?_
          rotate_left 1
          · (intro w' hSw; (try dsimp only at hSw); go_simp; try with_reducible rfl)
          try simp only [Act.put, qqA, qqB, qqC]
          refine wtk (i := 3) (oi := oRvwU6) (v := ?_) rfl (Or.inl ⟨by rfl, ?_⟩) (by assumption) ?_
          rotate_left 1
          · (intro w' hSw; (try dsimp only at hSw); go_simp; try with_reducible rfl)
          try simp only [Act.put, qqA, qqB, qqC]
          refine wtk (i := 4) (oi := oRvwU7) (v := ?_) rfl (Or.inl ⟨by rfl, ?_⟩) (by assumption) ?_
          rotate_left 1
          · (intro w' hSw; (try dsimp only at hSw); go_simp; try with_reducible rfl)
          try simp only [Act.put, qqA, qqB, qqC]
          refine wtk (i := 5) (oi := oRvwU8) (v := ?_) rfl (Or.inl ⟨by rfl, ?_⟩) (by assumption) ?_
          rotate_left 1
          · (intro w' hSw; (try dsimp only at hSw); go_simp; try with_reducible rfl)
          try simp only [Act.put, qqA, qqB, qqC]
          refine wtk (i := 6) (oi := oRvwU9) (v := ?_) rfl (Or.inl ⟨by rfl, ?_⟩) (by assumption) ?_
          rotate_left 1
          · (intro w' hSw; (try dsimp only at hSw); go_simp; try with_reducible rfl)
          try simp only [Act.put, qqA, qqB, qqC]
          refine wtk (i := 7) (oi := oRvwU10) (v := ?_) rfl (Or.inl ⟨by rfl, ?_⟩) (by assumption) ?_
          rotate_left 1
          · (intro w' hSw; (try dsimp only at hSw); go_simp; try with_reducible rfl)
          try simp only [Act.put, qqA, qqB, qqC]
          refine wtk (i := 8) (oi := oRvwU11) (v := ?_) rfl (Or.inl ⟨by rfl, ?_⟩) (by assumption) ?_
          rotate_left 1
          · (intro w' hSw; (try dsimp only at hSw); go_simp; try with_reducible rfl)
          try simp only [Act.put, qqA, qqB, qqC]
          refine wtk (i := 9) (oi := oRvwU12) (v := ?_) rfl (Or.inl ⟨by rfl, ?_⟩) (by assumption) ?_
          rotate_left 1
          · (intro w' hSw; (try dsimp only at hSw); go_simp; try with_reducible rfl)
          try simp only [Act.put, qqA, qqB, qqC]
          refine wtk (i := 10) (oi := oRvwU13) (v := ?_) rfl (Or.inl ⟨by rfl, ?_⟩) (by assumption) ?_
          rotate_left 1
          · (intro w' hSw; (try dsimp only at hSw); go_simp; try with_reducible rfl)
          try simp only [Act.put, qqA, qqB, qqC]
          refine wtk (i := 11) (oi := oRvwU14) (v := ?_) rfl (Or.inl ⟨by rfl, ?_⟩) (by assumption) ?_
          rotate_left 1
          · (intro w' hSw; (try dsimp only at hSw); go_simp; try with_reducible rfl)
          try simp only [Act.put, qqA, qqB, qqC]
          refine wtk (i := 12) (oi := oRvwU15) (v := ?_) rfl (Or.inl ⟨by rfl, ?_⟩) (by assumption) ?_
          rotate_left 1
          · (intro w' hSw; (try dsimp only at hSw); go_simp; try with_reducible rfl)
          try simp only [Act.put, qqA, qqB, qqC]
          refine wtk (i := 13) (oi := oRvwU16) (v := ?_) rfl (Or.inl ⟨by rfl, ?_⟩) (by assumption) ?_
          rotate_left 1
          · (intro w' hSw; (try dsimp only at hSw); go_simp; try with_reducible rfl)
          try simp only [Act.put, qqA, qqB, qqC]
          refine wpAnyH_ready (rs := [1, 14]) (by kernel_rfl) (by simp) ?_
          refine AllReadyH.cons (o := oRvwU17) rfl (fun K hK => ?_) (AllReadyH.cons (o := oRvwU18) rfl (fun K hK => ?_) AllReadyH.nil)
          · skip
            have kp := (unhide P10).S
            go_simp
            refine hK.out _ _ ?_ (fun hHeldL => ?_)
            · exact ((unhide B10).cell (p := ⟨g1, j, none⟩) (unhide HG)).trans (unhide HCK)
            clear hK K kp
            try simp only [Act.put, qqA, qqB, qqC]
            refine wpAnyH_ready (rs := [14]) (by kernel_rfl) (by simp) ?_
            refine AllReadyH.cons (o := oRvwU18) rfl (fun K hK => ?_) AllReadyH.nil
            obtain ⟨G, hG⟩ : ∃ G, G = w10.heap.size := ⟨_, rfl⟩
            have hbb : Below w10.heap.size w10 (w10.alloc (.cells #[.int .i64 yv, .string X2] 51)) := Go.Joins.below_alloc1 w10 (.cells #[.int .i64 yv, .string X2] 51)
            have RB := hide (BF.new w10 #[.int .i64 yv, .string X2] 51)
            have B11 := hide ((unhide B10).trans (hbb.mono (unhide B10).size))
            have P11 := hide ((unhide P10).below hbb)
            have E11 := hide (((heldZ_of (unhide E10)).below hbb (Nat.le_refl _)).own)
            have ZB : Hid (P < G ∧ w3.heap.size ≤ G) := by show _ ∧ _; rw [hG]; exact ⟨(unhide P10).lt, (unhide B10).size⟩
            rw [← hG] at RB
            go_simp
            refine hK.out _ _ ?_ (fun hHeldB => ?_)
            · exact ((unhide B11).cell (p := ⟨g1, j, none⟩) (unhide HG)).trans (unhide HCK)
            clear hK K
            try simp only [Act.put, qqA, qqB, qqC]
            rw [← hG]
            clear hbb hG B10 P10 E10
            generalize w10.alloc (.cells #[.int .i64 yv, .string X2] 51) = w11 at RB P11 B11 E11 hHeldB ⊢
            refine wpAnyH_ready (rs := [15]) (by kernel_rfl) (by simp) ?_
            refine AllReadyH.cons (o := oRvwU19) rfl (fun K hK => ?_) AllReadyH.nil
            refine step_append_lies w11 rfl (.tmp 76) (.tmp 89) 23 rfl w3.heap.size 51 i0 (.agg #[.int .i64 0, .string ⟨#[]⟩]) 2 24 Tryd.underlying23 hi hz0 hz1 hz2 rfl (by decide) (.slice aV k cV) k (cE ((rs.take k).map rowOf)) rfl (unhide E11) ⟨G, 0, none⟩ 1 1 [.int .i64 yv, .string X2] rfl rfl (by intro j u hj; have e := (unhide RB).S j; rw [show (⟨G, 0, none⟩ : Addr).add j = ⟨G, j, none⟩ from (by unfold Addr.add; split <;> simp_all)]; rw [e]; simpa using hj) (by intro u hu; simp at hu; rcases hu with rfl | rfl <;> rfl) (by decide) (by have := unhide H60; unfold maxLen; omega) (by have := unhide H60; omega) (unhide B11).size _ rfl ?_
            intro g7 c7 wa ho7 hg7 hat7 hlt7
            have Pa := hide ((unhide P11).grown hg7 (fun h => (unhide HF _ h).2 rfl))
            have Ba := hide ((unhide B11).grown hg7 (unhide B11).size (fun j hj => by have := (unhide HF j hj).1; omega))
            have Fa : Hid (w3.heap.size ≤ g7 ∧ g7 ≠ P) := by
              show _ ∧ _
              rcases hat7 with h | h
              · exact unhide HF _ h
              · have := unhide ZB; have := (unhide P11).lt; have := (unhide B11).size; omega
            have Ea : Hid (wa.ownsRow w3.heap.size 51 2 (.slice (some ⟨g7, 0, none⟩) (k + 1) c7) (k + 1) (cE ((rs.take (k + 1)).map rowOf))) := by show World.ownsRow _ _ _ _ _ _ _; rw [unhide HSN]; exact ho7
            clear ho7 hg7 hat7 hlt7 P11 B11 E11 RB ZB
            refine hK.out _ _ ?_ (fun hHeld15 => ?_)
            · exact ((unhide Ba).cell (p := ⟨g1, j, none⟩) (unhide HG)).trans (unhide HCK)
            clear hK K
            try simp only [Act.put, qqA, qqB, qqC]
            refine wtk (i := 16) (oi := oRvwU20) (v := ?_) rfl (Or.inl ⟨by rfl, ?_⟩) (by assumption) ?_
            rotate_left 1
            · (intro w' hSw; (try dsimp only at hSw); go_simp; try with_reducible rfl)
            try simp only [Act.put, qqA, qqB, qqC]
            refine wpAnyH_ready (rs := [17]) (by kernel_rfl) (by simp) ?_
            refine AllReadyH.cons (o := oRvwU21) rfl (fun K hK => ?_) AllReadyH.nil
            have kp := (unhide Pa).S
            have kpf := (unhide Pa).F
            obtain ⟨wz, hwz⟩ : ∃ wz, wz = wa.setCell ⟨P, 5, none⟩ (.slice (some ⟨g7, 0, none⟩) (k + 1) c7) := ⟨_, rfl⟩
            have Pz : Hid (BF P #[.int .i64 x0, .int .i64 x1, .bool (x2 == 1), .int .i64 x3, .int .i64 x4, .slice (some ⟨g7, 0, none⟩) (k + 1) c7] wz) := by rw [hwz]; exact (unhide Pa).set 5 (by simp) _
            have Bz : Hid (Below w3.heap.size w3 wz) := by rw [hwz]; exact (unhide Ba).setCell (p := ⟨P, 5, none⟩) (unhide LP) _
            have Ez : Hid (wz.ownsRow w3.heap.size 51 2 (.slice (some ⟨g7, 0, none⟩) (k + 1) c7) (k + 1) (cE ((rs.take (k + 1)).map rowOf))) := by rw [hwz]; exact own_keepBR (unhide Ea) (Below.heap_setCell _ _ _ _ (unhide Fa).2)
            have Fz : Hid (∀ j, (Value.slice (some ⟨g7, 0, none⟩) (k + 1) c7).ownBlock = some j → w3.heap.size ≤ j ∧ j ≠ P) := fun j hj => by have e : g7 = j := Option.some.inj hj; subst e; exact unhide Fa
            go_simp
            rw [← hwz]
            refine hK.out _ _ ?_ (fun hHeld17 => ?_)
            · exact ((unhide Bz).cell (p := ⟨g1, j, none⟩) (unhide HG)).trans (unhide HCK)
            clear hK K
            try simp only [Act.put, qqA, qqB, qqC]
            refine wpAnyH_done (by kernel_rfl) ?_ _
            clear kp kpf hwz Pa Ba Ea Fa
            go_wp2_with fail
            go_roundw
            case rel => exact ⟨k + 1, j + 1, _, _, by omega, HJ2, by go_num, Bz, Pz, Ez, Fz, HPO2⟩
            case measure => simp [intOf]; omega
          · skip
            obtain ⟨G, hG⟩ : ∃ G, G = w10.heap.size := ⟨_, rfl⟩
            have hbb : Below w10.heap.size w10 (w10.alloc (.cells #[.int .i64 yv, .string X2] 51)) := Go.Joins.below_alloc1 w10 (.cells #[.int .i64 yv, .string X2] 51)
            have RB := hide (BF.new w10 #[.int .i64 yv, .string X2] 51)
            have B11 := hide ((unhide B10).trans (hbb.mono (unhide B10).size))
            have P11 := hide ((unhide P10).below hbb)
            have E11 := hide (((heldZ_of (unhide E10)).below hbb (Nat.le_refl _)).own)
            have ZB : Hid (P < G ∧ w3.heap.size ≤ G) := by show _ ∧ _; rw [hG]; exact ⟨(unhide P10).lt, (unhide B10).size⟩
            rw [← hG] at RB
            go_simp
            refine hK.out _ _ ?_ (fun hHeldB => ?_)
            · exact ((unhide B11).cell (p := ⟨g1, j, none⟩) (unhide HG)).trans (unhide HCK)
            clear hK K
            try simp only [Act.put, qqA, qqB, qqC]
            rw [← hG]
            clear hbb hG B10 P10 E10
            generalize w10.alloc (.cells #[.int .i64 yv, .string X2] 51) = w11 at RB P11 B11 E11 hHeldB ⊢
            refine wpAnyH_ready (rs := [1]) (by kernel_rfl) (by simp) ?_
            refine AllReadyH.cons (o := oRvwU17) rfl (fun K hK => ?_) AllReadyH.nil
            have kp := (unhide P11).S
            go_simp
            refine hK.out _ _ ?_ (fun hHeldL => ?_)
            · exact ((unhide B11).cell (p := ⟨g1, j, none⟩) (unhide HG)).trans (unhide HCK)
            clear hK K kp
            try simp only [Act.put, qqA, qqB, qqC]
            refine wpAnyH_ready (rs := [15]) (by kernel_rfl) (by simp) ?_
            refine AllReadyH.cons (o := oRvwU19) rfl (fun K hK => ?_) AllReadyH.nil
            refine step_append_lies w11 rfl (.tmp 76) (.tmp 89) 23 rfl w3.heap.size 51 i0 (.agg #[.int .i64 0, .string ⟨#[]⟩]) 2 24 Tryd.underlying23 hi hz0 hz1 hz2 rfl (by decide) (.slice aV k cV) k (cE ((rs.take k).map rowOf)) rfl (unhide E11) ⟨G, 0, none⟩ 1 1 [.int .i64 yv, .string X2] rfl rfl (by intro j u hj; have e := (unhide RB).S j; rw [show (⟨G, 0, none⟩ : Addr).add j = ⟨G, j, none⟩ from (by unfold Addr.add; split <;> simp_all)]; rw [e]; simpa using hj) (by intro u hu; simp at hu; rcases hu with rfl | rfl <;> rfl) (by decide) (by have := unhide H60; unfold maxLen; omega) (by have := unhide H60; omega) (unhide B11).size _ rfl ?_
            intro g7 c7 wa ho7 hg7 hat7 hlt7
            have Pa := hide ((unhide P11).grown hg7 (fun h => (unhide HF _ h).2 rfl))
            have Ba := hide ((unhide B11).grown hg7 (unhide B11).size (fun j hj => by have := (unhide HF j hj).1; omega))
            have Fa : Hid (w3.heap.size ≤ g7 ∧ g7 ≠ P) := by
              show _ ∧ _
              rcases hat7 with h | h
              · exact unhide HF _ h
              · have := unhide ZB; have := (unhide P11).lt; have := (unhide B11).size; omega
            have Ea : Hid (wa.ownsRow w3.heap.size 51 2 (.slice (some ⟨g7, 0, none⟩) (k + 1) c7) (k + 1) (cE ((rs.take (k + 1)).map rowOf))) := by show World.ownsRow _ _ _ _ _ _ _; rw [unhide HSN]; exact ho7
            clear ho7 hg7 hat7 hlt7 P11 B11 E11 RB ZB
            refine hK.out _ _ ?_ (fun hHeld15 => ?_)
            · exact ((unhide Ba).cell (p := ⟨g1, j, none⟩) (unhide HG)).trans (unhide HCK)
            clear hK K
            try simp only [Act.put, qqA, qqB, qqC]
            refine wtk (i := 16) (oi := oRvwU20) (v := ?_) rfl (Or.inl ⟨by rfl, ?_⟩) (by assumption) ?_
            rotate_left 1
            · (intro w' hSw; (try dsimp only at hSw); go_simp; try with_reducible rfl)
            try simp only [Act.put, qqA, qqB, qqC]
            refine wpAnyH_ready (rs := [17]) (by kernel_rfl) (by simp) ?_
            refine AllReadyH.cons (o := oRvwU21) rfl (fun K hK => ?_) AllReadyH.nil
            have kp := (unhide Pa).S
            have kpf := (unhide Pa).F
            obtain ⟨wz, hwz⟩ : ∃ wz, wz = wa.setCell ⟨P, 5, none⟩ (.slice (some ⟨g7, 0, none⟩) (k + 1) c7) := ⟨_, rfl⟩
            have Pz : Hid (BF P #[.int .i64 x0, .int .i64 x1, .bool (x2 == 1), .int .i64 x3, .int .i64 x4, .slice (some ⟨g7, 0, none⟩) (k + 1) c7] wz) := by rw [hwz]; exact (unhide Pa).set 5 (by simp) _
            have Bz : Hid (Below w3.heap.size w3 wz) := by rw [hwz]; exact (unhide Ba).setCell (p := ⟨P, 5, none⟩) (unhide LP) _
            have Ez : Hid (wz.ownsRow w3.heap.size 51 2 (.slice (some ⟨g7, 0, none⟩) (k + 1) c7) (k + 1) (cE ((rs.take (k + 1)).map rowOf))) := by rw [hwz]; exact own_keepBR (unhide Ea) (Below.heap_setCell _ _ _ _ (unhide Fa).2)
            have Fz : Hid (∀ j, (Value.slice (some ⟨g7, 0, none⟩) (k + 1) c7).ownBlock = some j → w3.heap.size ≤ j ∧ j ≠ P) := fun j hj => by have e : g7 = j := Option.some.inj hj; subst e; exact unhide Fa
            go_simp
            rw [← hwz]
            refine hK.out _ _ ?_ (fun hHeld17 => ?_)
            · exact ((unhide Bz).cell (p := ⟨g1, j, none⟩) (unhide HG)).trans (unhide HCK)
            clear hK K
            try simp only [Act.put, qqA, qqB, qqC]
            refine wpAnyH_done (by kernel_rfl) ?_ _
            clear kp kpf hwz Pa Ba Ea Fa
            go_wp2_with fail
            go_roundw
            case rel => exact ⟨k + 1, j + 1, _, _, by omega, HJ2, by go_num, Bz, Pz, Ez, Fz, HPO2⟩
            case measure => simp [intOf]; omega
      · obtain rfl : k = r := by omega
        have hlt' : ¬ (j : Int) < (k : Int) + 1 := by have := unhide HJ; omega
        have HPR : Hid (PosB rs) := by have h := unhide HPO; rw [List.take_of_length_le (by rw [unhide HRL]; exact Nat.le_refl _)] at h; exact h
        clear hlt hk
        go_wp2_with fail
        (try simp only [Exit.inBlock, Exit.then])
        refine wp_region_held_drew (S := (fun w' => ∀ o, w'.cell? ⟨P, o, none⟩ = (#[.int .i64 x0, .int .i64 x1, .bool (x2 == 1), .int .i64 x3, .int .i64 x4, .slice aV k cV] : Array Value)[o]?)) (by kernel_rfl) (unhide HP).S (fun hHeld => ?_)
        have B10 := hide ((unhide HB).drew)
        have P10 := hide ((unhide HP).drew)
        have E10 : Hid (wr.drew.ownsRow w3.heap.size 51 2 (.slice aV k cV) k (cE (rs.map rowOf))) := by have h := unhide HE; rw [List.take_of_length_le (by rw [unhide HRL]; exact Nat.le_refl _)] at h; exact h
        clear HB HP HE
        generalize wr.drew = w10 at B10 P10 E10 hHeld ⊢
        refine wtk (i := 0) (oi := oRvwU22) (v := ?_) rfl (Or.inl ⟨by rfl, ?_⟩) (by assumption) ?_
        rotate_left 1
        · (intro w' hSw; (try dsimp only at hSw); go_simp; try with_reducible rfl)
        try simp only [Act.put, qqA, qqB, qqC]
        refine wtk (i := 1) (oi := oRvwU23) (v := ?_) rfl (Or.inl ⟨by rfl, ?_⟩) (by assumption) ?_
        rotate_left 1
        · (intro w' hSw; (try dsimp only at hSw); go_simp; try with_reducible rfl)
        try simp only [Act.put, qqA, qqB, qqC]
        refine wpAnyH_ready (rs := [2]) (by kernel_rfl) (by simp) ?_
        refine AllReadyH.cons (o := oRvwU24) rfl (fun K hK => ?_) AllReadyH.nil
        go_simp
        refine (svwok x0 x1 (x2 == 1) x3 x4 aV cV k (rs.map rowOf) HLN (by have := unhide H60; omega) HLS R HRR _ (rowZ_at (unhide E10))).mono ?_
        rintro e w11 ⟨rfl, hb11⟩
        have B11 := hide ((unhide B10).trans (hb11.mono (unhide B10).size))
        have P11 := hide ((unhide P10).below hb11)
        have E11 := hide (((heldZ_of (unhide E10)).below hb11 (Nat.le_refl _)).own)
        clear hb11 B10 P10 E10
        go_wp2_with fail
        refine hK.out _ _ ?_ (fun hHeld2 => ?_)
        · exact (unhide P11).S
        clear hK K
        try simp only [Act.put, qqA, qqB, qqC]
        refine wpAnyH_ready (rs := [3]) (by kernel_rfl) (by simp) ?_
        refine AllReadyH.cons (o := oRvwU25) rfl (fun K hK => ?_) AllReadyH.nil
        have Y11 := hide ((unhide Y3).below (unhide B11))
        have fy := (unhide Y11).F
        have sy := (unhide Y11).S
        obtain ⟨w12, hw12⟩ : ∃ w12, w12 = ((((((w11.setCell ⟨w.heap.size, 0, none⟩ (.int .i64 x0)).setCell ⟨w.heap.size, 1, none⟩ (.int .i64 x1)).setCell ⟨w.heap.size, 2, none⟩ (.bool (x2 == 1))).setCell ⟨w.heap.size, 3, none⟩ (.int .i64 x3)).setCell ⟨w.heap.size, 4, none⟩ (.int .i64 x4)).setCell ⟨w.heap.size, 5, none⟩ (.slice aV k cV)) := ⟨_, rfl⟩
        have Y12 : Hid (BF w.heap.size #[.int .i64 x0, .int .i64 x1, .bool (x2 == 1), .int .i64 x3, .int .i64 x4, .slice aV k cV] w12) := by rw [hw12]; exact (((((((unhide Y11).set 0 (by simp) (.int .i64 x0)).set 1 (by simp) (.int .i64 x1)).set 2 (by simp) (.bool (x2 == 1))).set 3 (by simp) (.int .i64 x3)).set 4 (by simp) (.int .i64 x4)).set 5 (by simp) (.slice aV k cV))
        have B12 : Hid (Below w.heap.size w w12) := by
          rw [hw12]
          show Below _ _ _
          iterate 6 refine Below.setCell ?_ (by exact Nat.le_refl _) _
          exact (unhide B3).trans ((unhide B11).mono (unhide B3).size)
        have P12 : Hid (BF P #[.int .i64 x0, .int .i64 x1, .bool (x2 == 1), .int .i64 x3, .int .i64 x4, .slice aV k cV] w12) := by
          rw [hw12]
          have hne : w.heap.size ≠ P := by have := (unhide Y3).lt; have := unhide LP; omega
          exact ((((((unhide P11).far _ _ hne).far _ _ hne).far _ _ hne).far _ _ hne).far _ _ hne).far _ _ hne
        have E12 : Hid (w12.ownsRow w.heap.size 51 2 (.slice aV k cV) k (cE (rs.map rowOf))) := by
          rw [hw12]
          refine Go.Joins.ownsRow_le (base := w3.heap.size) ?_ (by have := (unhide Y3).lt; omega)
          iterate 6 refine ownsRow_setCell_below ?_ (by exact (unhide Y3).lt) _
          exact unhide E11
        go_simp
        rw [← hw12]
        refine hK.out _ _ ?_ (fun hHeld3 => ?_)
        · exact (unhide P12).S
        clear hK K
        try simp only [Act.put, qqA, qqB, qqC]
        clear fy sy hw12 B11 P11 E11 Y11
        refine wtk (i := 4) (oi := oRvwU26) (v := ?_) rfl (Or.inl ⟨by rfl, ?_⟩) (by assumption) ?_
        rotate_left 1
        · (intro w' hSw; (try dsimp only at hSw); go_simp; try with_reducible rfl)
        try simp only [Act.put, qqA, qqB, qqC]
        refine wpAnyH_done (by kernel_rfl) ?_ _
        have st := (unhide Y12).S
        go_wp2_with fail
        refine bodyPost_ret (v := .tuple #[.agg #[.int .i64 x0, .int .i64 x1, .bool (x2 == 1), .int .i64 x3, .int .i64 x4, .slice aV k cV], .bool R]) ?_ rfl (Or.inl ⟨aV, cV, rfl, unhide HPR, unhide E12, unhide B12⟩)
        rw [results_cell_tmp rfl]
        go_simp
  · skip
    obtain ⟨P, hP⟩ : ∃ P, P = w4.heap.size := ⟨_, rfl⟩
    have hb5 : Below w4.heap.size w4 (w4.alloc (.cells #[.int .i64 0, .int .i64 0, .bool false, .int .i64 0, .int .i64 0, .slice none 0 0] 25)) := Go.Joins.below_alloc1 w4 (.cells #[.int .i64 0, .int .i64 0, .bool false, .int .i64 0, .int .i64 0, .slice none 0 0] 25)
    have V5 := hide (BF.new w4 #[.int .i64 0, .int .i64 0, .bool false, .int .i64 0, .int .i64 0, .slice none 0 0] 25)
    have B5 := hide ((unhide B4).trans (hb5.mono (unhide B4).size))
    have LP : Hid (w3.heap.size ≤ P) := by have := (unhide B4).size; show _ ≤ _; omega
    rw [← hP] at V5
    go_simp
    refine hK.out _ _ ?_ (fun hHeld18 => ?_)
    · exact ⟨((unhide B5).cell (p := ⟨gn, 0, none⟩) (unhide HGN)).trans ((unhide K3).1), ((unhide B5).cell (p := ⟨gn, 1, none⟩) (unhide HGN)).trans ((unhide K3).2.1), ((unhide B5).cell (p := ⟨gn, 2, none⟩) (unhide HGN)).trans ((unhide K3).2.2.1), ((unhide B5).cell (p := ⟨gn, 3, none⟩) (unhide HGN)).trans ((unhide K3).2.2.2.1), ((unhide B5).cell (p := ⟨gn, 4, none⟩) (unhide HGN)).trans ((unhide K3).2.2.2.2)⟩
    clear hK K
    try simp only [Act.put, qqA, qqB, qqC]
    rw [← hP]
    clear hb5 hP B4
    generalize w4.alloc (.cells #[.int .i64 0, .int .i64 0, .bool false, .int .i64 0, .int .i64 0, .slice none 0 0] 25) = w5 at B5 V5 hHeld18 ⊢
    refine wpAnyH_ready (rs := [16]) (by kernel_rfl) (by simp) ?_
    refine AllReadyH.cons (o := oRvwU0) rfl (fun K hK => ?_) AllReadyH.nil
    obtain ⟨Q, hQ⟩ : ∃ Q, Q = w5.heap.size := ⟨_, rfl⟩
    have hb6 : Below w5.heap.size w5 (w5.alloc (.cells #[] 51)) := Go.Joins.below_alloc1 w5 (.cells #[] 51)
    have B6 := hide ((unhide B5).trans (hb6.mono (unhide B5).size))
    have V6 := hide ((unhide V5).below hb6)
    have E6 : Hid ((w5.alloc (.cells #[] 51)).ownsRow w3.heap.size 51 2 (.slice (some ⟨Q, 0, none⟩) 0 0) 0 []) := by rw [hQ]; exact World.ownsRow_lit (e := 51) (base := w3.heap.size) (size := 2) w5 #[] 0 (unhide B5).size (by decide) rfl
    have HQP : Hid (Q ≠ P) := by have := (unhide V5).lt; show _ ≠ _; omega
    have HQ3 : Hid (w3.heap.size ≤ Q) := (World.ownsRow.lt (unhide E6) Q rfl).1
    go_simp
    refine hK.out _ _ ?_ (fun hHeld16 => ?_)
    · exact ⟨((unhide B6).cell (p := ⟨gn, 0, none⟩) (unhide HGN)).trans ((unhide K3).1), ((unhide B6).cell (p := ⟨gn, 1, none⟩) (unhide HGN)).trans ((unhide K3).2.1), ((unhide B6).cell (p := ⟨gn, 2, none⟩) (unhide HGN)).trans ((unhide K3).2.2.1), ((unhide B6).cell (p := ⟨gn, 3, none⟩) (unhide HGN)).trans ((unhide K3).2.2.2.1), ((unhide B6).cell (p := ⟨gn, 4, none⟩) (unhide HGN)).trans ((unhide K3).2.2.2.2)⟩
    clear hK K
    try simp only [Act.put, qqA, qqB, qqC]
    rw [← hQ]
    clear hb6 hQ B5 V5
    generalize w5.alloc (.cells #[] 51) = w6 at B6 V6 E6 hHeld16 ⊢
    refine wtk (i := 17) (oi := oRvwU2) (v := ?_) rfl (Or.inl ⟨by rfl, ?_⟩) (by assumption) ?_
    rotate_left 1
    · (intro w' hSw; (try dsimp only at hSw); go_simp; try with_reducible rfl)
    try simp only [Act.put, qqA, qqB, qqC]
    refine wpAnyH_ready (rs := [19]) (by kernel_rfl) (by simp) ?_
    refine AllReadyH.cons (o := oRvwU3) rfl (fun K hK => ?_) AllReadyH.nil
    have fv := (unhide V6).F
    have sv := (unhide V6).S
    obtain ⟨w7, hw7⟩ : ∃ w7, w7 = ((((((w6.setCell ⟨P, 0, none⟩ (.int .i64 x0)).setCell ⟨P, 1, none⟩ (.int .i64 x1)).setCell ⟨P, 2, none⟩ (.bool (x2 == 1))).setCell ⟨P, 3, none⟩ (.int .i64 x3)).setCell ⟨P, 4, none⟩ (.int .i64 x4)).setCell ⟨P, 5, none⟩ (.slice (some ⟨Q, 0, none⟩) 0 0)) := ⟨_, rfl⟩
    have P7 : Hid (BF P #[.int .i64 x0, .int .i64 x1, .bool (x2 == 1), .int .i64 x3, .int .i64 x4, .slice (some ⟨Q, 0, none⟩) 0 0] w7) := by rw [hw7]; exact (((((((unhide V6).set 0 (by simp) (.int .i64 x0)).set 1 (by simp) (.int .i64 x1)).set 2 (by simp) (.bool (x2 == 1))).set 3 (by simp) (.int .i64 x3)).set 4 (by simp) (.int .i64 x4)).set 5 (by simp) (.slice (some ⟨Q, 0, none⟩) 0 0))
    have B7 : Hid (Below w3.heap.size w3 w7) := by
      rw [hw7]
      show Below _ _ _
      iterate 6 refine Below.setCell ?_ (by exact unhide LP) _
      exact unhide B6
    have E7 : Hid (w7.ownsRow w3.heap.size 51 2 (.slice (some ⟨Q, 0, none⟩) 0 0) 0 (cE (([] : List ByteArray).map rowOf))) := by
      rw [hw7]
      refine own_keepBR (unhide E6) ?_
      iterate 6 rw [Below.heap_setCell _ _ _ _ (unhide HQP)]
    have F7 : Hid (∀ j, (Value.slice (some ⟨Q, 0, none⟩) 0 0).ownBlock = some j → w3.heap.size ≤ j ∧ j ≠ P) := fun j hj => by have e : Q = j := Option.some.inj hj; subst e; exact ⟨unhide HQ3, unhide HQP⟩
    go_simp
    rw [← hw7]
    refine hK.out _ _ ?_ (fun hHeld19 => ?_)
    · exact ⟨((unhide B7).cell (p := ⟨gn, 0, none⟩) (unhide HGN)).trans ((unhide K3).1), ((unhide B7).cell (p := ⟨gn, 1, none⟩) (unhide HGN)).trans ((unhide K3).2.1), ((unhide B7).cell (p := ⟨gn, 2, none⟩) (unhide HGN)).trans ((unhide K3).2.2.1), ((unhide B7).cell (p := ⟨gn, 3, none⟩) (unhide HGN)).trans ((unhide K3).2.2.2.1), ((unhide B7).cell (p := ⟨gn, 4, none⟩) (unhide HGN)).trans ((unhide K3).2.2.2.2)⟩
    clear hK K
    try simp only [Act.put, qqA, qqB, qqC]
    clear fv sv hw7 V6 B6 E6
    refine wpAnyH_done (by kernel_rfl) ?_ _
    go_wp2_with fail
    go_loopw [9] (fun i wr => ∃ (k j : Nat) (aV : Option Addr) (cV : Nat), k ≤ r ∧ Hid (j = k + 1) ∧ i = .int .i64 (j : Int) ∧ Hid (Below w3.heap.size w3 wr) ∧ Hid (BF P #[.int .i64 x0, .int .i64 x1, .bool (x2 == 1), .int .i64 x3, .int .i64 x4, .slice aV k cV] wr) ∧ Hid (wr.ownsRow w3.heap.size 51 2 (.slice aV k cV) k (cE ((rs.take k).map rowOf))) ∧ Hid (∀ j, (Value.slice aV k cV).ownBlock = some j → w3.heap.size ≤ j ∧ j ≠ P) ∧ Hid (PosB (rs.take k))) (fun i _ => r + 1 - (intOf i).toNat)
    case atStart => exact ⟨0, 1, _, _, by omega, (show Hid ((1 : Nat) = 0 + 1) from rfl), rfl, B7, P7, E7, F7, (fun s hs => (by simp at hs))⟩
    case round =>
      clear B7 P7 E7 F7
      obtain ⟨k, j, aV, cV, hk, HJ, rfl, HB, HP, HE, HF, HPO⟩ := hrel
      by_cases hlt : k < r
      · have hlm : k < rs.length := by rw [unhide HRL]; exact hlt
        have hlt' : (j : Int) < (r : Int) + 1 := by have := unhide HJ; omega
        have HJ2 : Hid (j + 1 = (k + 1) + 1) := by show _ = _; have := unhide HJ; omega
        have hj60 : (j : Int) ≤ 100 := by have := unhide HJ; have := unhide H60; omega
        obtain ⟨s1, hs1⟩ : ∃ s1, s1 = rs[k] := ⟨_, rfl⟩
        have HCK : Hid (w3.cell? ⟨g1, j, none⟩ = some (.string s1)) := by rw [hs1, unhide HJ, Nat.add_comm k 1]; exact unhide HC k hlm
        have hcell : wr.cell? ⟨g1, j, none⟩ = some (.string s1) := ((unhide HB).cell (p := ⟨g1, j, none⟩) (unhide HG)).trans (unhide HCK)
        have hsz : s1.size ≤ 1048576 := by rw [hs1]; exact unhide HRZ k hlm
        by_cases h0 : s1.size = 0
        · have h0' : (s1.toList == ([] : List UInt8)) = true := by
            have e : s1.toList = [] := by rw [ByteArray.toList_eq]; exact List.length_eq_zero_iff.1 ((text_len s1).trans h0)
            rw [e]; rfl
          have h0'' : s1.toList.isEmpty = true := by rw [List.isEmpty_iff]; exact eq_of_beq h0'
          have HEX : Hid (∃ s ∈ rs, s.size = 0) := ⟨s1, by rw [hs1]; exact List.getElem_mem hlm, h0⟩
          clear hs1 h0
          have YR := hide ((unhide Y3).below (unhide HB))
          have BR := hide ((unhide B3).trans ((unhide HB).mono (unhide B3).size))
          have kz := (unhide YR).S
          have kf := (unhide YR).F
          go_wp2_with fail
          (try simp only [Exit.inBlock, Exit.then])
          refine bodyPost_ret (v := .tuple #[.agg #[.int .i64 0, .int .i64 0, .bool false, .int .i64 0, .int .i64 0, .slice none 0 0], .bool false]) ?_ rfl (Or.inr ⟨rfl, unhide HEX, ?_⟩)
          · rw [results_cell_tmp rfl]
            go_simp
          · iterate 6 refine Below.setCell ?_ (by exact Nat.le_refl _) _
            exact unhide BR
        · have h0' : (s1.toList == ([] : List UInt8)) = false := by
            rw [beq_eq_false_iff_ne]
            intro e
            rw [ByteArray.toList_eq] at e
            have := text_len s1
            rw [e] at this
            simp at this; omega
          have h0'' : s1.toList.isEmpty = false := by rw [← Bool.not_eq_true, List.isEmpty_iff]; exact fun e => by rw [e] at h0'; cases h0'
          have h1' : (1 : Int) ≤ (s1.size : Int) := by omega
          have h1'' : (0 : Int) < (s1.size : Int) := by omega
          obtain ⟨X2, hX2⟩ : ∃ X, s1.extract 1 s1.size = X := ⟨_, rfl⟩
          obtain ⟨y8, hy8⟩ : ∃ y8, y8 = s1.data.toList.headD 0 := ⟨_, rfl⟩
          obtain ⟨yv, hyv⟩ : ∃ yv : Int, (y8.toNat : Int) = yv := ⟨_, rfl⟩
          have h1n : 0 < s1.size := by omega
          have hb0 : s1[0]'h1n = y8 := by rw [hy8]; exact head_byte h1n
          have hy0 : 0 ≤ yv := by omega
          have hy255 : yv ≤ 255 := by have := y8.toNat_lt; omega
          have hwr : IntKind.i64.wrap yv = yv := wrapi yv (by omega) (by omega)
          have HSN : Hid ((cE ((rs.take (k + 1)).map rowOf)) = (cE ((rs.take k).map rowOf)) ++ [.int .i64 yv, .string X2]) := by
            show _ = _
            rw [List.take_add_one, List.getElem?_eq_getElem hlm, Option.toList_some, List.map_append, cE_app, ← hs1]
            show _ ++ cE [rowOf s1] = _
            unfold rowOf
            rw [← hy8, hX2, ← hyv]; rfl
          have HPO2 : Hid (PosB (rs.take (k + 1))) := by
            intro s2 hs2
            rw [List.take_add_one, List.getElem?_eq_getElem hlm, Option.toList_some, List.mem_append, List.mem_singleton] at hs2
            rcases hs2 with h | h
            · exact unhide HPO s2 h
            · rw [h, ← hs1]; omega
          clear hs1 h0 hy8
          go_upto_region 13 with fail
          refine wp_region_held_drew (S := (fun w' => w'.cell? ⟨g1, j, none⟩ = some (.string s1))) (by kernel_rfl) hcell (fun hHeld => ?_)
          have B10 := hide ((unhide HB).drew)
          have P10 := hide ((unhide HP).drew)
          have E10 : Hid (wr.drew.ownsRow w3.heap.size 51 2 (.slice aV k cV) k (cE ((rs.take k).map rowOf))) := unhide HE
          clear HB HP HE hcell
          generalize wr.drew = w10 at B10 P10 E10 hHeld ⊢
          refine wtk (i := 0) (oi := oRvwU4) (v := ?_) rfl (Or.inl ⟨by rfl, ?_⟩) (by assumption) ?_
          rotate_left 1
          · (intro w' hSw; (try dsimp only at hSw); go_simp; try with_reducible rfl)
          try simp only [Act.put, qqA, qqB, qqC]
          refine wtk (i := 2) (oi := oRvwU5) (v := ?_) rfl (Or.inl ⟨by rfl, ?_⟩) (by assumption) ?_
          rotate_left 1
          · (intro w' hSw; (try dsimp only at hSw); go_simp; try with_reducible rfl)
          try simp only [Act.put, qqA, qqB, qqC]
          refine wtk (i := 3) (oi := oRvwU6) (v := ?_) rfl (Or.inl ⟨by rfl, ?_⟩) (by assumption) ?_
          rotate_left 1
          · (intro w' hSw; (try dsimp only at hSw); go_simp; try with_reducible rfl)
          try simp only [Act.put, qqA, qqB, qqC]
          refine wtk (i := 4) (oi := oRvwU7) (v := ?_) rfl (Or.inl ⟨by rfl, ?_⟩) (by assumption) ?_
          rotate_left 1
          · (intro w' hSw; (try dsimp only at hSw); go_simp; try with_reducible rfl)
          try simp only [Act.put, qqA, qqB, qqC]
          refine wtk (i := 5) (oi := oRvwU8) (v := ?_) rfl (Or.inl ⟨by rfl, ?_⟩) (by assumption) ?_
          rotate_left 1
          · (intro w' hSw; (try dsimp only at hSw); go_simp; try with_reducible rfl)
          try simp only [Act.put, qqA, qqB, qqC]
          refine wtk (i := 6) (oi := oRvwU9) (v := ?_) rfl (Or.inl ⟨by rfl, ?_⟩) (by assumption) ?_
          rotate_left 1
          · (intro w' hSw; (try dsimp only at hSw); go_simp; try with_reducible rfl)
          try simp only [Act.put, qqA, qqB, qqC]
          refine wtk (i := 7) (oi := oRvwU10) (v := ?_) rfl (Or.inl ⟨by rfl, ?_⟩) (by assumption) ?_
          rotate_left 1
          · (intro w' hSw; (try dsimp only at hSw); go_simp; try with_reducible rfl)
          try simp only [Act.put, qqA, qqB, qqC]
          refine wtk (i := 8) (oi := oRvwU11) (v := ?_) rfl (Or.inl ⟨by rfl, ?_⟩) (by assumption) ?_
          rotate_left 1
          · (intro w' hSw; (try dsimp only at hSw); go_simp; try with_reducible rfl)
          try simp only [Act.put, qqA, qqB, qqC]
          refine wtk (i := 9) (oi := oRvwU12) (v := ?_) rfl (Or.inl ⟨by rfl, ?_⟩) (by assumption) ?_
          rotate_left 1
          · (intro w' hSw; (try dsimp only at hSw); go_simp; try with_reducible rfl)
          try simp only [Act.put, qqA, qqB, qqC]
          refine wtk (i := 10) (oi := oRvwU13) (v := ?_) rfl (Or.inl ⟨by rfl, ?_⟩) (by assumption) ?_
          rotate_left 1
          · (intro w' hSw; (try dsimp only at hSw); go_simp; try with_reducible rfl)
          try simp only [Act.put, qqA, qqB, qqC]
          refine wtk (i := 11) (oi := oRvwU14) (v := ?_) rfl (Or.inl ⟨by rfl, ?_⟩) (by assumption) ?_
          rotate_left 1
          · (intro w' hSw; (try dsimp only at hSw); go_simp; try with_reducible rfl)
          try simp only [Act.put, qqA, qqB, qqC]
          refine wtk (i := 12) (oi := oRvwU15) (v := ?_) rfl (Or.inl ⟨by rfl, ?_⟩) (by assumption) ?_
          rotate_left 1
          · (intro w' hSw; (try dsimp only at hSw); go_simp; try with_reducible rfl)
          try simp only [Act.put, qqA, qqB, qqC]
          refine wtk (i := 13) (oi := oRvwU16) (v := ?_) rfl (Or.inl ⟨by rfl, ?_⟩) (by assumption) ?_
          rotate_left 1
          · (intro w' hSw; (try dsimp only at hSw); go_simp; try with_reducible rfl)
          try simp only [Act.put, qqA, qqB, qqC]
          refine wpAnyH_ready (rs := [1, 14]) (by kernel_rfl) (by simp) ?_
          refine AllReadyH.cons (o := oRvwU17) rfl (fun K hK => ?_) (AllReadyH.cons (o := oRvwU18) rfl (fun K hK => ?_) AllReadyH.nil)
          · skip
            have kp := (unhide P10).S
            go_simp
            refine hK.out _ _ ?_ (fun hHeldL => ?_)
            · exact ((unhide B10).cell (p := ⟨g1, j, none⟩) (unhide HG)).trans (unhide HCK)
            clear hK K kp
            try simp only [Act.put, qqA, qqB, qqC]
            refine wpAnyH_ready (rs := [14]) (by kernel_rfl) (by simp) ?_
            refine AllReadyH.cons (o := oRvwU18) rfl (fun K hK => ?_) AllReadyH.nil
            obtain ⟨G, hG⟩ : ∃ G, G = w10.heap.size := ⟨_, rfl⟩
            have hbb : Below w10.heap.size w10 (w10.alloc (.cells #[.int .i64 yv, .string X2] 51)) := Go.Joins.below_alloc1 w10 (.cells #[.int .i64 yv, .string X2] 51)
            have RB := hide (BF.new w10 #[.int .i64 yv, .string X2] 51)
            have B11 := hide ((unhide B10).trans (hbb.mono (unhide B10).size))
            have P11 := hide ((unhide P10).below hbb)
            have E11 := hide (((heldZ_of (unhide E10)).below hbb (Nat.le_refl _)).own)
            have ZB : Hid (P < G ∧ w3.heap.size ≤ G) := by show _ ∧ _; rw [hG]; exact ⟨(unhide P10).lt, (unhide B10).size⟩
            rw [← hG] at RB
            go_simp
            refine hK.out _ _ ?_ (fun hHeldB => ?_)
            · exact ((unhide B11).cell (p := ⟨g1, j, none⟩) (unhide HG)).trans (unhide HCK)
            clear hK K
            try simp only [Act.put, qqA, qqB, qqC]
            rw [← hG]
            clear hbb hG B10 P10 E10
            generalize w10.alloc (.cells #[.int .i64 yv, .string X2] 51) = w11 at RB P11 B11 E11 hHeldB ⊢
            refine wpAnyH_ready (rs := [15]) (by kernel_rfl) (by simp) ?_
            refine AllReadyH.cons (o := oRvwU19) rfl (fun K hK => ?_) AllReadyH.nil
            refine step_append_lies w11 rfl (.tmp 76) (.tmp 89) 23 rfl w3.heap.size 51 i0 (.agg #[.int .i64 0, .string ⟨#[]⟩]) 2 24 Tryd.underlying23 hi hz0 hz1 hz2 rfl (by decide) (.slice aV k cV) k (cE ((rs.take k).map rowOf)) rfl (unhide E11) ⟨G, 0, none⟩ 1 1 [.int .i64 yv, .string X2] rfl rfl (by intro j u hj; have e := (unhide RB).S j; rw [show (⟨G, 0, none⟩ : Addr).add j = ⟨G, j, none⟩ from (by unfold Addr.add; split <;> simp_all)]; rw [e]; simpa using hj) (by intro u hu; simp at hu; rcases hu with rfl | rfl <;> rfl) (by decide) (by have := unhide H60; unfold maxLen; omega) (by have := unhide H60; omega) (unhide B11).size _ rfl ?_
            intro g7 c7 wa ho7 hg7 hat7 hlt7
            have Pa := hide ((unhide P11).grown hg7 (fun h => (unhide HF _ h).2 rfl))
            have Ba := hide ((unhide B11).grown hg7 (unhide B11).size (fun j hj => by have := (unhide HF j hj).1; omega))
            have Fa : Hid (w3.heap.size ≤ g7 ∧ g7 ≠ P) := by
              show _ ∧ _
              rcases hat7 with h | h
              · exact unhide HF _ h
              · have := unhide ZB; have := (unhide P11).lt; have := (unhide B11).size; omega
            have Ea : Hid (wa.ownsRow w3.heap.size 51 2 (.slice (some ⟨g7, 0, none⟩) (k + 1) c7) (k + 1) (cE ((rs.take (k + 1)).map rowOf))) := by show World.ownsRow _ _ _ _ _ _ _; rw [unhide HSN]; exact ho7
            clear ho7 hg7 hat7 hlt7 P11 B11 E11 RB ZB
            refine hK.out _ _ ?_ (fun hHeld15 => ?_)
            · exact ((unhide Ba).cell (p := ⟨g1, j, none⟩) (unhide HG)).trans (unhide HCK)
            clear hK K
            try simp only [Act.put, qqA, qqB, qqC]
            refine wtk (i := 16) (oi := oRvwU20) (v := ?_) rfl (Or.inl ⟨by rfl, ?_⟩) (by assumption) ?_
            rotate_left 1
            · (intro w' hSw; (try dsimp only at hSw); go_simp; try with_reducible rfl)
            try simp only [Act.put, qqA, qqB, qqC]
            refine wpAnyH_ready (rs := [17]) (by kernel_rfl) (by simp) ?_
            refine AllReadyH.cons (o := oRvwU21) rfl (fun K hK => ?_) AllReadyH.nil
            have kp := (unhide Pa).S
            have kpf := (unhide Pa).F
            obtain ⟨wz, hwz⟩ : ∃ wz, wz = wa.setCell ⟨P, 5, none⟩ (.slice (some ⟨g7, 0, none⟩) (k + 1) c7) := ⟨_, rfl⟩
            have Pz : Hid (BF P #[.int .i64 x0, .int .i64 x1, .bool (x2 == 1), .int .i64 x3, .int .i64 x4, .slice (some ⟨g7, 0, none⟩) (k + 1) c7] wz) := by rw [hwz]; exact (unhide Pa).set 5 (by simp) _
            have Bz : Hid (Below w3.heap.size w3 wz) := by rw [hwz]; exact (unhide Ba).setCell (p := ⟨P, 5, none⟩) (unhide LP) _
            have Ez : Hid (wz.ownsRow w3.heap.size 51 2 (.slice (some ⟨g7, 0, none⟩) (k + 1) c7) (k + 1) (cE ((rs.take (k + 1)).map rowOf))) := by rw [hwz]; exact own_keepBR (unhide Ea) (Below.heap_setCell _ _ _ _ (unhide Fa).2)
            have Fz : Hid (∀ j, (Value.slice (some ⟨g7, 0, none⟩) (k + 1) c7).ownBlock = some j → w3.heap.size ≤ j ∧ j ≠ P) := fun j hj => by have e : g7 = j := Option.some.inj hj; subst e; exact unhide Fa
            go_simp
            rw [← hwz]
            refine hK.out _ _ ?_ (fun hHeld17 => ?_)
            · exact ((unhide Bz).cell (p := ⟨g1, j, none⟩) (unhide HG)).trans (unhide HCK)
            clear hK K
            try simp only [Act.put, qqA, qqB, qqC]
            refine wpAnyH_done (by kernel_rfl) ?_ _
            clear kp kpf hwz Pa Ba Ea Fa
            go_wp2_with fail
            go_roundw
            case rel => exact ⟨k + 1, j + 1, _, _, by omega, HJ2, by go_num, Bz, Pz, Ez, Fz, HPO2⟩
            case measure => simp [intOf]; omega
          · skip
            obtain ⟨G, hG⟩ : ∃ G, G = w10.heap.size := ⟨_, rfl⟩
            have hbb : Below w10.heap.size w10 (w10.alloc (.cells #[.int .i64 yv, .string X2] 51)) := Go.Joins.below_alloc1 w10 (.cells #[.int .i64 yv, .string X2] 51)
            have RB := hide (BF.new w10 #[.int .i64 yv, .string X2] 51)
            have B11 := hide ((unhide B10).trans (hbb.mono (unhide B10).size))
            have P11 := hide ((unhide P10).below hbb)
            have E11 := hide (((heldZ_of (unhide E10)).below hbb (Nat.le_refl _)).own)
            have ZB : Hid (P < G ∧ w3.heap.size ≤ G) := by show _ ∧ _; rw [hG]; exact ⟨(unhide P10).lt, (unhide B10).size⟩
            rw [← hG] at RB
            go_simp
            refine hK.out _ _ ?_ (fun hHeldB => ?_)
            · exact ((unhide B11).cell (p := ⟨g1, j, none⟩) (unhide HG)).trans (unhide HCK)
            clear hK K
            try simp only [Act.put, qqA, qqB, qqC]
            rw [← hG]
            clear hbb hG B10 P10 E10
            generalize w10.alloc (.cells #[.int .i64 yv, .string X2] 51) = w11 at RB P11 B11 E11 hHeldB ⊢
            refine wpAnyH_ready (rs := [1]) (by kernel_rfl) (by simp) ?_
            refine AllReadyH.cons (o := oRvwU17) rfl (fun K hK => ?_) AllReadyH.nil
            have kp := (unhide P11).S
            go_simp
            refine hK.out _ _ ?_ (fun hHeldL => ?_)
            · exact ((unhide B11).cell (p := ⟨g1, j, none⟩) (unhide HG)).trans (unhide HCK)
            clear hK K kp
            try simp only [Act.put, qqA, qqB, qqC]
            refine wpAnyH_ready (rs := [15]) (by kernel_rfl) (by simp) ?_
            refine AllReadyH.cons (o := oRvwU19) rfl (fun K hK => ?_) AllReadyH.nil
            refine step_append_lies w11 rfl (.tmp 76) (.tmp 89) 23 rfl w3.heap.size 51 i0 (.agg #[.int .i64 0, .string ⟨#[]⟩]) 2 24 Tryd.underlying23 hi hz0 hz1 hz2 rfl (by decide) (.slice aV k cV) k (cE ((rs.take k).map rowOf)) rfl (unhide E11) ⟨G, 0, none⟩ 1 1 [.int .i64 yv, .string X2] rfl rfl (by intro j u hj; have e := (unhide RB).S j; rw [show (⟨G, 0, none⟩ : Addr).add j = ⟨G, j, none⟩ from (by unfold Addr.add; split <;> simp_all)]; rw [e]; simpa using hj) (by intro u hu; simp at hu; rcases hu with rfl | rfl <;> rfl) (by decide) (by have := unhide H60; unfold maxLen; omega) (by have := unhide H60; omega) (unhide B11).size _ rfl ?_
            intro g7 c7 wa ho7 hg7 hat7 hlt7
            have Pa := hide ((unhide P11).grown hg7 (fun h => (unhide HF _ h).2 rfl))
            have Ba := hide ((unhide B11).grown hg7 (unhide B11).size (fun j hj => by have := (unhide HF j hj).1; omega))
            have Fa : Hid (w3.heap.size ≤ g7 ∧ g7 ≠ P) := by
              show _ ∧ _
              rcases hat7 with h | h
              · exact unhide HF _ h
              · have := unhide ZB; have := (unhide P11).lt; have := (unhide B11).size; omega
            have Ea : Hid (wa.ownsRow w3.heap.size 51 2 (.slice (some ⟨g7, 0, none⟩) (k + 1) c7) (k + 1) (cE ((rs.take (k + 1)).map rowOf))) := by show World.ownsRow _ _ _ _ _ _ _; rw [unhide HSN]; exact ho7
            clear ho7 hg7 hat7 hlt7 P11 B11 E11 RB ZB
            refine hK.out _ _ ?_ (fun hHeld15 => ?_)
            · exact ((unhide Ba).cell (p := ⟨g1, j, none⟩) (unhide HG)).trans (unhide HCK)
            clear hK K
            try simp only [Act.put, qqA, qqB, qqC]
            refine wtk (i := 16) (oi := oRvwU20) (v := ?_) rfl (Or.inl ⟨by rfl, ?_⟩) (by assumption) ?_
            rotate_left 1
            · (intro w' hSw; (try dsimp only at hSw); go_simp; try with_reducible rfl)
            try simp only [Act.put, qqA, qqB, qqC]
            refine wpAnyH_ready (rs := [17]) (by kernel_rfl) (by simp) ?_
            refine AllReadyH.cons (o := oRvwU21) rfl (fun K hK => ?_) AllReadyH.nil
            have kp := (unhide Pa).S
            have kpf := (unhide Pa).F
            obtain ⟨wz, hwz⟩ : ∃ wz, wz = wa.setCell ⟨P, 5, none⟩ (.slice (some ⟨g7, 0, none⟩) (k + 1) c7) := ⟨_, rfl⟩
            have Pz : Hid (BF P #[.int .i64 x0, .int .i64 x1, .bool (x2 == 1), .int .i64 x3, .int .i64 x4, .slice (some ⟨g7, 0, none⟩) (k + 1) c7] wz) := by rw [hwz]; exact (unhide Pa).set 5 (by simp) _
            have Bz : Hid (Below w3.heap.size w3 wz) := by rw [hwz]; exact (unhide Ba).setCell (p := ⟨P, 5, none⟩) (unhide LP) _
            have Ez : Hid (wz.ownsRow w3.heap.size 51 2 (.slice (some ⟨g7, 0, none⟩) (k + 1) c7) (k + 1) (cE ((rs.take (k + 1)).map rowOf))) := by rw [hwz]; exact own_keepBR (unhide Ea) (Below.heap_setCell _ _ _ _ (unhide Fa).2)
            have Fz : Hid (∀ j, (Value.slice (some ⟨g7, 0, none⟩) (k + 1) c7).ownBlock = some j → w3.heap.size ≤ j ∧ j ≠ P) := fun j hj => by have e : g7 = j := Option.some.inj hj; subst e; exact unhide Fa
            go_simp
            rw [← hwz]
            refine hK.out _ _ ?_ (fun hHeld17 => ?_)
            · exact ((unhide Bz).cell (p := ⟨g1, j, none⟩) (unhide HG)).trans (unhide HCK)
            clear hK K
            try simp only [Act.put, qqA, qqB, qqC]
            refine wpAnyH_done (by kernel_rfl) ?_ _
            clear kp kpf hwz Pa Ba Ea Fa
            go_wp2_with fail
            go_roundw
            case rel => exact ⟨k + 1, j + 1, _, _, by omega, HJ2, by go_num, Bz, Pz, Ez, Fz, HPO2⟩
            case measure => simp [intOf]; omega
      · obtain rfl : k = r := by omega
        have hlt' : ¬ (j : Int) < (k : Int) + 1 := by have := unhide HJ; omega
        have HPR : Hid (PosB rs) := by have h := unhide HPO; rw [List.take_of_length_le (by rw [unhide HRL]; exact Nat.le_refl _)] at h; exact h
        clear hlt hk
        go_wp2_with fail
        (try simp only [Exit.inBlock, Exit.then])
        refine wp_region_held_drew (S := (fun w' => ∀ o, w'.cell? ⟨P, o, none⟩ = (#[.int .i64 x0, .int .i64 x1, .bool (x2 == 1), .int .i64 x3, .int .i64 x4, .slice aV k cV] : Array Value)[o]?)) (by kernel_rfl) (unhide HP).S (fun hHeld => ?_)
        have B10 := hide ((unhide HB).drew)
        have P10 := hide ((unhide HP).drew)
        have E10 : Hid (wr.drew.ownsRow w3.heap.size 51 2 (.slice aV k cV) k (cE (rs.map rowOf))) := by have h := unhide HE; rw [List.take_of_length_le (by rw [unhide HRL]; exact Nat.le_refl _)] at h; exact h
        clear HB HP HE
        generalize wr.drew = w10 at B10 P10 E10 hHeld ⊢
        refine wtk (i := 0) (oi := oRvwU22) (v := ?_) rfl (Or.inl ⟨by rfl, ?_⟩) (by assumption) ?_
        rotate_left 1
        · (intro w' hSw; (try dsimp only at hSw); go_simp; try with_reducible rfl)
        try simp only [Act.put, qqA, qqB, qqC]
        refine wtk (i := 1) (oi := oRvwU23) (v := ?_) rfl (Or.inl ⟨by rfl, ?_⟩) (by assumption) ?_
        rotate_left 1
        · (intro w' hSw; (try dsimp only at hSw); go_simp; try with_reducible rfl)
        try simp only [Act.put, qqA, qqB, qqC]
        refine wpAnyH_ready (rs := [2]) (by kernel_rfl) (by simp) ?_
        refine AllReadyH.cons (o := oRvwU24) rfl (fun K hK => ?_) AllReadyH.nil
        go_simp
        refine (svwok x0 x1 (x2 == 1) x3 x4 aV cV k (rs.map rowOf) HLN (by have := unhide H60; omega) HLS R HRR _ (rowZ_at (unhide E10))).mono ?_
        rintro e w11 ⟨rfl, hb11⟩
        have B11 := hide ((unhide B10).trans (hb11.mono (unhide B10).size))
        have P11 := hide ((unhide P10).below hb11)
        have E11 := hide (((heldZ_of (unhide E10)).below hb11 (Nat.le_refl _)).own)
        clear hb11 B10 P10 E10
        go_wp2_with fail
        refine hK.out _ _ ?_ (fun hHeld2 => ?_)
        · exact (unhide P11).S
        clear hK K
        try simp only [Act.put, qqA, qqB, qqC]
        refine wpAnyH_ready (rs := [3]) (by kernel_rfl) (by simp) ?_
        refine AllReadyH.cons (o := oRvwU25) rfl (fun K hK => ?_) AllReadyH.nil
        have Y11 := hide ((unhide Y3).below (unhide B11))
        have fy := (unhide Y11).F
        have sy := (unhide Y11).S
        obtain ⟨w12, hw12⟩ : ∃ w12, w12 = ((((((w11.setCell ⟨w.heap.size, 0, none⟩ (.int .i64 x0)).setCell ⟨w.heap.size, 1, none⟩ (.int .i64 x1)).setCell ⟨w.heap.size, 2, none⟩ (.bool (x2 == 1))).setCell ⟨w.heap.size, 3, none⟩ (.int .i64 x3)).setCell ⟨w.heap.size, 4, none⟩ (.int .i64 x4)).setCell ⟨w.heap.size, 5, none⟩ (.slice aV k cV)) := ⟨_, rfl⟩
        have Y12 : Hid (BF w.heap.size #[.int .i64 x0, .int .i64 x1, .bool (x2 == 1), .int .i64 x3, .int .i64 x4, .slice aV k cV] w12) := by rw [hw12]; exact (((((((unhide Y11).set 0 (by simp) (.int .i64 x0)).set 1 (by simp) (.int .i64 x1)).set 2 (by simp) (.bool (x2 == 1))).set 3 (by simp) (.int .i64 x3)).set 4 (by simp) (.int .i64 x4)).set 5 (by simp) (.slice aV k cV))
        have B12 : Hid (Below w.heap.size w w12) := by
          rw [hw12]
          show Below _ _ _
          iterate 6 refine Below.setCell ?_ (by exact Nat.le_refl _) _
          exact (unhide B3).trans ((unhide B11).mono (unhide B3).size)
        have P12 : Hid (BF P #[.int .i64 x0, .int .i64 x1, .bool (x2 == 1), .int .i64 x3, .int .i64 x4, .slice aV k cV] w12) := by
          rw [hw12]
          have hne : w.heap.size ≠ P := by have := (unhide Y3).lt; have := unhide LP; omega
          exact ((((((unhide P11).far _ _ hne).far _ _ hne).far _ _ hne).far _ _ hne).far _ _ hne).far _ _ hne
        have E12 : Hid (w12.ownsRow w.heap.size 51 2 (.slice aV k cV) k (cE (rs.map rowOf))) := by
          rw [hw12]
          refine Go.Joins.ownsRow_le (base := w3.heap.size) ?_ (by have := (unhide Y3).lt; omega)
          iterate 6 refine ownsRow_setCell_below ?_ (by exact (unhide Y3).lt) _
          exact unhide E11
        go_simp
        rw [← hw12]
        refine hK.out _ _ ?_ (fun hHeld3 => ?_)
        · exact (unhide P12).S
        clear hK K
        try simp only [Act.put, qqA, qqB, qqC]
        clear fy sy hw12 B11 P11 E11 Y11
        refine wtk (i := 4) (oi := oRvwU26) (v := ?_) rfl (Or.inl ⟨by rfl, ?_⟩) (by assumption) ?_
        rotate_left 1
        · (intro w' hSw; (try dsimp only at hSw); go_simp; try with_reducible rfl)
        try simp only [Act.put, qqA, qqB, qqC]
        refine wpAnyH_done (by kernel_rfl) ?_ _
        have st := (unhide Y12).S
        go_wp2_with fail
        refine bodyPost_ret (v := .tuple #[.agg #[.int .i64 x0, .int .i64 x1, .bool (x2 == 1), .int .i64 x3, .int .i64 x4, .slice aV k cV], .bool R]) ?_ rfl (Or.inl ⟨aV, cV, rfl, unhide HPR, unhide E12, unhide B12⟩)
        rw [results_cell_tmp rfl]
        go_simp
end Go.Proofs.YtblhediekdeffaaDoor
