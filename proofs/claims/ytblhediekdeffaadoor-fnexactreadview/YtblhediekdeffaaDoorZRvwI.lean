/- viewOf: what the program answers. -/
import Derived.Test.YtblhediekdeffaaDoorZG29
import Derived.Test.YtblhediekdeffaaDoorZG32
import Derived.Test.YtblhediekdeffaaDoorZG8
import Derived.Test.YtblhediekdeffaaDoorZG9
import Derived.Test.YtblhediekdeffaaDoorZG13
import Derived.Deep.Cut
import Derived.Deep.RegionHeld3
import Derived.Deep.MidRow
import Derived.Laws.ResultCell
import Derived.Laws.OwnMore
namespace Go.Proofs.YtblhediekdeffaaDoor
open Go.ChangeShapes Go.WideShapes Go.ChangeAt Go.RowKit
set_option linter.unusedVariables false
abbrev oRvwI0 : Oper := { dst := some 52, op := .load 23 (.tmp 51), type := 23, pos := "l11_view.go:243", after := #[{ on := 0, ground := .data }], guard := none }
abbrev oRvwI1 : Oper := { dst := some 55, op := .convert 9 22 (.tmp 54), type := 22, pos := "l11_view.go:243", after := #[{ on := 3, ground := .data }], guard := none }
abbrev oRvwI2 : Oper := { dst := some 56, op := .call { callee := .value (.func 27), args := #[.tmp 55], argTypes := #[22] }, type := 3, pos := "l11_view.go:243", after := #[{ on := 4, ground := .data }], guard := none }
abbrev oRvwI3 : Oper := { dst := some 59, op := .build 51 #[(0, .tmp 56), (1, .tmp 58)], type := 51, pos := "l11_view.go:243", after := #[{ on := 5, ground := .data }, { on := 7, ground := .data }], guard := none }
abbrev oRvwI4 : Oper := { dst := some 60, op := .buildSlice 23 1 #[(0, .tmp 59)], type := 23, pos := "l11_view.go:243", after := #[{ on := 8, ground := .data }], guard := none }
abbrev oRvwI5 : Oper := { dst := some 61, op := .call { callee := .builtin Go.Builtin.append, args := #[.tmp 52, .tmp 60], argTypes := #[23, 23] }, type := 23, pos := "l11_view.go:243", after := #[{ on := 1, ground := .data }, { on := 9, ground := .data }, { on := 5, ground := .chain }], guard := none }
abbrev oRvwI6 : Oper := { dst := some 62, op := .fieldAddr 25 (.tmp 6) 5, type := 0, pos := "l11_view.go:243", after := #[{ on := 0, ground := .phase }, { on := 1, ground := .phase }, { on := 2, ground := .phase }, { on := 3, ground := .phase }, { on := 4, ground := .phase }, { on := 5, ground := .phase }, { on := 6, ground := .phase }, { on := 7, ground := .phase }, { on := 8, ground := .phase }, { on := 9, ground := .phase }, { on := 10, ground := .phase }], guard := none }
abbrev oRvwI7 : Oper := { dst := none, op := .store 23 (.tmp 62) (.tmp 61), type := 0, pos := "l11_view.go:243", after := #[{ on := 11, ground := .data }, { on := 10, ground := .data }, { on := 10, ground := .chain }, { on := 0, ground := .phase }, { on := 1, ground := .phase }, { on := 2, ground := .phase }, { on := 3, ground := .phase }, { on := 4, ground := .phase }, { on := 5, ground := .phase }, { on := 6, ground := .phase }, { on := 7, ground := .phase }, { on := 8, ground := .phase }, { on := 9, ground := .phase }, { on := 10, ground := .phase }], guard := none }
set_option maxHeartbeats 4000000 in
set_option maxRecDepth 100000 in
theorem ivof_none (a : Option Addr) (cap : Nat) (w : World) : Calls Tryd.prog 14 #[.slice a 0 cap] w fun e w' => e = .returned (.tuple #[.agg #[.int .i64 0, .int .i64 0, .bool false, .int .i64 0, .int .i64 0, .slice none 0 0], .bool false]) ∧ Below w.heap.size w w' := by
  have B0 := hide (Go.Joins.below_alloc1 w (.cells #[.int .i64 0, .int .i64 0, .bool false, .int .i64 0, .int .i64 0, .slice none 0 0] 25))
  have Y0 := hide (BF.new w #[.int .i64 0, .int .i64 0, .bool false, .int .i64 0, .int .i64 0, .slice none 0 0] 25)
  have sz := (unhide Y0).S
  go_enter Tryd.func14, Tryd.ntmps14
  go_wp2_with fail
  (try simp only [Exit.inBlock, Exit.then])
  refine bodyPost_ret (v := .tuple #[.agg #[.int .i64 0, .int .i64 0, .bool false, .int .i64 0, .int .i64 0, .slice none 0 0], .bool false]) ?_ rfl ⟨rfl, unhide B0⟩
  rw [results_cell_tmp rfl]
  go_simp
set_option maxHeartbeats 4000000 in
set_option maxRecDepth 100000 in
theorem ivof_no (g cap n : Nat) (hn : 1 ≤ n) (hn6 : n ≤ 60) (f0 : ByteArray) (hs : f0.size ≤ 20000) (h : ¬ f0.size = 15) (w : World) (hc : w.cell? ⟨g, 0, none⟩ = some (.string f0)) (hg : g < w.heap.size) : Calls Tryd.prog 14 #[.slice (some ⟨g, 0, none⟩) n cap] w fun e w' => e = .returned (.tuple #[.agg #[.int .i64 0, .int .i64 0, .bool false, .int .i64 0, .int .i64 0, .slice none 0 0], .bool false]) ∧ Below w.heap.size w w' := by
  have B0 := hide (Go.Joins.below_alloc1 w (.cells #[.int .i64 0, .int .i64 0, .bool false, .int .i64 0, .int .i64 0, .slice none 0 0] 25))
  have Y0 := hide (BF.new w #[.int .i64 0, .int .i64 0, .bool false, .int .i64 0, .int .i64 0, .slice none 0 0] 25)
  have c0 : (w.alloc (.cells #[.int .i64 0, .int .i64 0, .bool false, .int .i64 0, .int .i64 0, .slice none 0 0] 25)).cell? ⟨g, 0, none⟩ = some (.string f0) := ((unhide B0).cell (p := ⟨g, 0, none⟩) hg).trans hc
  have T1 := hide (fun w => inumofN 5 15 rfl (by decide) (by decide) f0 hs false (decide_eq_false h).symm _ rfl w)
  have hn1 : ¬ (n : Int) < 1 := by omega
  have hn2 : (0 : Int) < (n : Int) := by omega
  clear hc h
  go_enter Tryd.func14, Tryd.ntmps14
  go_wp2_with fail
  refine (unhide T1 _).mono ?_
  rintro e w3 ⟨v3, rfl, ho3, hb3⟩
  obtain ⟨a3, c3, rfl, -⟩ := own_rowV ho3
  have B3 := hide ((unhide B0).trans (hb3.mono (unhide B0).size))
  have Y3 := hide ((unhide Y0).below hb3)
  clear hb3 B0 Y0 c0 T1 ho3
  have YZ : Hid (BF w.heap.size #[.int .i64 0, .int .i64 0, .bool false, .int .i64 0, .int .i64 0, .slice none 0 0] ((((((w3.setCell ⟨w.heap.size, 0, none⟩ (.int .i64 0)).setCell ⟨w.heap.size, 1, none⟩ (.int .i64 0)).setCell ⟨w.heap.size, 2, none⟩ (.bool false)).setCell ⟨w.heap.size, 3, none⟩ (.int .i64 0)).setCell ⟨w.heap.size, 4, none⟩ (.int .i64 0)).setCell ⟨w.heap.size, 5, none⟩ (.slice none 0 0))) := ((((((unhide Y3).set 0 (by simp) (.int .i64 0)).set 1 (by simp) (.int .i64 0)).set 2 (by simp) (.bool false)).set 3 (by simp) (.int .i64 0)).set 4 (by simp) (.int .i64 0)).set 5 (by simp) (.slice none 0 0)
  have BZ : Hid (Below w.heap.size w ((((((w3.setCell ⟨w.heap.size, 0, none⟩ (.int .i64 0)).setCell ⟨w.heap.size, 1, none⟩ (.int .i64 0)).setCell ⟨w.heap.size, 2, none⟩ (.bool false)).setCell ⟨w.heap.size, 3, none⟩ (.int .i64 0)).setCell ⟨w.heap.size, 4, none⟩ (.int .i64 0)).setCell ⟨w.heap.size, 5, none⟩ (.slice none 0 0))) := by
    show Below _ _ _
    iterate 6 refine Below.setCell ?_ (by exact Nat.le_refl _) _
    exact unhide B3
  have fz := (unhide Y3).F
  have sz := (unhide Y3).S
  have st := (unhide YZ).S
  go_wp2_with fail
  (try simp only [Exit.inBlock, Exit.then])
  refine bodyPost_ret (v := .tuple #[.agg #[.int .i64 0, .int .i64 0, .bool false, .int .i64 0, .int .i64 0, .slice none 0 0], .bool false]) ?_ rfl ⟨rfl, unhide BZ⟩
  rw [results_cell_tmp rfl]
  go_simp
theorem inum1 (a : Option Addr) (cap : Nat) (y8 : UInt8) (yv : Int) (HY : Hid (((ofBE [y8] : Nat) : Int) = yv)) (w : World) (hr : Row8 w a [y8]) : Calls Tryd.prog 27 #[.slice a 1 cap] w fun e w' => e = .returned (.int .i64 yv) ∧ w' = w := by
  have T := inumber a cap [y8] (by simp) w hr
  rw [unhide HY] at T
  exact T
def PosB (l : List ByteArray) : Prop := ∀ s ∈ l, 0 < s.size
theorem ofBE_one (b : UInt8) : ofBE [b] = b.toNat := by simp [ofBE]
theorem first_byte {s : ByteArray} (h : 0 < s.size) : s.extract 0 1 = ⟨[s.data.toList.headD 0].toArray⟩ := by
  apply ByteArray.ext
  apply Array.toList_inj.1
  have hl : s.data.toList.length = s.size := text_len s
  cases hs : s.data.toList with
  | nil => rw [hs] at hl; simp at hl; omega
  | cons x r => simp [hs]
/-- How viewOf ends where the first field holds five numbers. -/
def VfPost (w : World) (x0 x1 x2 x3 x4 : Int) (rs : List ByteArray) (e : Ending) (w' : World) : Prop :=
  (∃ (a : Option Addr) (c : Nat), e = .returned (.tuple #[.agg #[.int .i64 x0, .int .i64 x1, .bool (x2 == 1), .int .i64 x3, .int .i64 x4, .slice a rs.length c], .bool true]) ∧ (∀ s ∈ rs, 0 < s.size) ∧ w'.ownsRow w.heap.size 51 2 (.slice a rs.length c) rs.length (cE (rs.map rowOf)) ∧ Below w.heap.size w w') ∨
  (e = .returned (.tuple #[.agg #[.int .i64 0, .int .i64 0, .bool false, .int .i64 0, .int .i64 0, .slice none 0 0], .bool false]) ∧ (∃ s ∈ rs, s.size = 0) ∧ Below w.heap.size w w')
set_option maxHeartbeats 16000000 in
set_option maxRecDepth 100000 in
theorem ivof_yes (g cap r : Nat) (hr60 : r + 1 ≤ 60) (f0 : ByteArray) (h15 : f0.size = 15) (rs : List ByteArray) (HRL : Hid (rs.length = r)) (HRZ : Hid (∀ k (h : k < rs.length), rs[k].size ≤ 1048576)) (x0 x1 x2 x3 x4 : Int) (hx : numsR f0.data.toList 5 = [x0, x1, x2, x3, x4]) (hcap : r + 1 ≤ cap) (w : World) (hc : ∀ i u, (cS (f0 :: rs))[i]? = some u → w.cell? ⟨g, i, none⟩ = some u) (hg : g < w.heap.size) :
    Calls Tryd.prog 14 #[.slice (some ⟨g, 0, none⟩) (r + 1) cap] w (VfPost w x0 x1 x2 x3 x4 rs) := by
  have B0 := hide (Go.Joins.below_alloc1 w (.cells #[.int .i64 0, .int .i64 0, .bool false, .int .i64 0, .int .i64 0, .slice none 0 0] 25))
  have Y0 := hide (BF.new w #[.int .i64 0, .int .i64 0, .bool false, .int .i64 0, .int .i64 0, .slice none 0 0] 25)
  have c0 : (w.alloc (.cells #[.int .i64 0, .int .i64 0, .bool false, .int .i64 0, .int .i64 0, .slice none 0 0] 25)).cell? ⟨g, 0, none⟩ = some (.string f0) := ((unhide B0).cell (p := ⟨g, 0, none⟩) hg).trans (hc 0 _ rfl)
  have hlen : f0.data.toList.length = 15 := by rw [text_len]; exact h15
  have hrn : [x0, x1, x2, x3, x4] = rnL f0.data.toList := by rw [(rn_ok (l := f0.data.toList) (by omega) (by omega) (by omega)).1, hlen]; exact hx.symm
  have T1 := hide (fun w => inumofN 5 15 rfl (by decide) (by decide) f0 (by omega) true (decide_eq_true h15).symm _ hrn w)
  have HC := hide hc
  have HG := hide hg
  have hn1 : ¬ ((r + 1 : Nat) : Int) < 1 := by omega
  have hn2 : (0 : Int) < ((r + 1 : Nat) : Int) := by omega
  clear hc hlen hrn hx h15
  go_enter Tryd.func14, Tryd.ntmps14
  go_wp2_with fail
  refine (unhide T1 _).mono ?_
  rintro e w3 ⟨v3, rfl, ho3, hb3⟩
  obtain ⟨a3, c3, rfl, -⟩ := own_rowV ho3
  obtain ⟨gn, rfl⟩ := own_at1 ho3 (by simp)
  have B3 := hide ((unhide B0).trans (hb3.mono (unhide B0).size))
  have Y3 := hide ((unhide Y0).below hb3)
  have K3 : Hid (w3.cell? ⟨gn, 0, none⟩ = some (.int .i64 x0) ∧ w3.cell? ⟨gn, 1, none⟩ = some (.int .i64 x1) ∧ w3.cell? ⟨gn, 2, none⟩ = some (.int .i64 x2) ∧ w3.cell? ⟨gn, 3, none⟩ = some (.int .i64 x3) ∧ w3.cell? ⟨gn, 4, none⟩ = some (.int .i64 x4)) := ⟨own_cell ho3 0 _ rfl, own_cell ho3 1 _ rfl, own_cell ho3 2 _ rfl, own_cell ho3 3 _ rfl, own_cell ho3 4 _ rfl⟩
  have HGN : Hid (gn < w3.heap.size) := (ho3.lt gn rfl).2
  clear hb3 B0 Y0 c0 T1 ho3
  go_upto_region 6 with fail
  refine wp_region_held_drew (S := (fun w' => w'.cell? ⟨gn, 0, none⟩ = some (.int .i64 x0) ∧ w'.cell? ⟨gn, 1, none⟩ = some (.int .i64 x1) ∧ w'.cell? ⟨gn, 2, none⟩ = some (.int .i64 x2) ∧ w'.cell? ⟨gn, 3, none⟩ = some (.int .i64 x3) ∧ w'.cell? ⟨gn, 4, none⟩ = some (.int .i64 x4))) (by kernel_rfl) (unhide K3) (fun hHeld => ?_)
  have B4 := hide ((unhide B3).drew)
  have Y4 := hide ((unhide Y3).drew)
  have K4 : Hid (w3.drew.cell? ⟨gn, 0, none⟩ = some (.int .i64 x0) ∧ w3.drew.cell? ⟨gn, 1, none⟩ = some (.int .i64 x1) ∧ w3.drew.cell? ⟨gn, 2, none⟩ = some (.int .i64 x2) ∧ w3.drew.cell? ⟨gn, 3, none⟩ = some (.int .i64 x3) ∧ w3.drew.cell? ⟨gn, 4, none⟩ = some (.int .i64 x4)) := unhide K3
  have HGN4 : Hid (gn < w3.drew.heap.size) := unhide HGN
  clear B3 Y3 K3 HGN
  generalize w3.drew = w4 at B4 Y4 K4 HGN4 hHeld ⊢
  refine wtk (i := 0) (oi := { dst := some 23, op := .move (.tmp 4), type := 46, pos := "l11_view.go:238", after := #[], guard := none }) (v := ?_) rfl (Or.inl ⟨by rfl, ?_⟩) (by assumption) ?_
  rotate_left 1
  · (intro w' hSw; (try dsimp only at hSw); go_simp; try with_reducible rfl)
  try simp only [Act.put, qqA, qqB, qqC]
  refine wtk (i := 1) (oi := { dst := some 24, op := .indexAddr 46 (.tmp 23) (.const (.int .i64 0)), type := 0, pos := "l11_view.go:238", after := #[{ on := 0, ground := .data }], guard := none }) (v := ?_) rfl (Or.inl ⟨by rfl, ?_⟩) (by assumption) ?_
  rotate_left 1
  · (intro w' hSw; (try dsimp only at hSw); go_simp; try with_reducible rfl)
  try simp only [Act.put, qqA, qqB, qqC]
  refine wtk (i := 2) (oi := { dst := some 25, op := .load 3 (.tmp 24), type := 3, pos := "l11_view.go:238", after := #[{ on := 1, ground := .data }], guard := none }) (v := ?_) rfl (Or.inl ⟨by rfl, ?_⟩) (by assumption) ?_
  rotate_left 1
  · (intro w' hSw; (try dsimp only at hSw); go_simp; try with_reducible rfl)
  try simp only [Act.put, qqA, qqB, qqC]
  refine wtk (i := 3) (oi := { dst := some 26, op := .move (.tmp 4), type := 46, pos := "l11_view.go:238", after := #[], guard := none }) (v := ?_) rfl (Or.inl ⟨by rfl, ?_⟩) (by assumption) ?_
  rotate_left 1
  · (intro w' hSw; (try dsimp only at hSw); go_simp; try with_reducible rfl)
  try simp only [Act.put, qqA, qqB, qqC]
  refine wtk (i := 4) (oi := { dst := some 27, op := .indexAddr 46 (.tmp 26) (.const (.int .i64 1)), type := 0, pos := "l11_view.go:238", after := #[{ on := 3, ground := .data }], guard := none }) (v := ?_) rfl (Or.inl ⟨by rfl, ?_⟩) (by assumption) ?_
  rotate_left 1
  · (intro w' hSw; (try dsimp only at hSw); go_simp; try with_reducible rfl)
  try simp only [Act.put, qqA, qqB, qqC]
  refine wtk (i := 5) (oi := { dst := some 28, op := .load 3 (.tmp 27), type := 3, pos := "l11_view.go:238", after := #[{ on := 4, ground := .data }], guard := none }) (v := ?_) rfl (Or.inl ⟨by rfl, ?_⟩) (by assumption) ?_
  rotate_left 1
  · (intro w' hSw; (try dsimp only at hSw); go_simp; try with_reducible rfl)
  try simp only [Act.put, qqA, qqB, qqC]
  refine wtk (i := 6) (oi := { dst := some 29, op := .move (.tmp 4), type := 46, pos := "l11_view.go:238", after := #[], guard := none }) (v := ?_) rfl (Or.inl ⟨by rfl, ?_⟩) (by assumption) ?_
  rotate_left 1
  · (intro w' hSw; (try dsimp only at hSw); go_simp; try with_reducible rfl)
  try simp only [Act.put, qqA, qqB, qqC]
  refine wtk (i := 7) (oi := { dst := some 30, op := .indexAddr 46 (.tmp 29) (.const (.int .i64 2)), type := 0, pos := "l11_view.go:238", after := #[{ on := 6, ground := .data }], guard := none }) (v := ?_) rfl (Or.inl ⟨by rfl, ?_⟩) (by assumption) ?_
  rotate_left 1
  · (intro w' hSw; (try dsimp only at hSw); go_simp; try with_reducible rfl)
  try simp only [Act.put, qqA, qqB, qqC]
  refine wtk (i := 8) (oi := { dst := some 31, op := .load 3 (.tmp 30), type := 3, pos := "l11_view.go:238", after := #[{ on := 7, ground := .data }], guard := none }) (v := ?_) rfl (Or.inl ⟨by rfl, ?_⟩) (by assumption) ?_
  rotate_left 1
  · (intro w' hSw; (try dsimp only at hSw); go_simp; try with_reducible rfl)
  try simp only [Act.put, qqA, qqB, qqC]
  refine wtk (i := 9) (oi := { dst := some 32, op := .binOp .eql 3 (.tmp 31) (.const (.int .i64 1)) 3, type := 4, pos := "l11_view.go:238", after := #[{ on := 8, ground := .data }], guard := none }) (v := ?_) rfl (Or.inl ⟨by rfl, ?_⟩) (by assumption) ?_
  rotate_left 1
  · (intro w' hSw; (try dsimp only at hSw); go_simp; try with_reducible rfl)
  try simp only [Act.put, qqA, qqB, qqC]
  refine wtk (i := 10) (oi := { dst := some 33, op := .move (.tmp 4), type := 46, pos := "l11_view.go:238", after := #[], guard := none }) (v := ?_) rfl (Or.inl ⟨by rfl, ?_⟩) (by assumption) ?_
  rotate_left 1
  · (intro w' hSw; (try dsimp only at hSw); go_simp; try with_reducible rfl)
  try simp only [Act.put, qqA, qqB, qqC]
  refine wtk (i := 11) (oi := { dst := some 34, op := .indexAddr 46 (.tmp 33) (.const (.int .i64 3)), type := 0, pos := "l11_view.go:238", after := #[{ on := 10, ground := .data }], guard := none }) (v := ?_) rfl (Or.inl ⟨by rfl, ?_⟩) (by assumption) ?_
  rotate_left 1
  · (intro w' hSw; (try dsimp only at hSw); go_simp; try with_reducible rfl)
  try simp only [Act.put, qqA, qqB, qqC]
  refine wtk (i := 12) (oi := { dst := some 35, op := .load 3 (.tmp 34), type := 3, pos := "l11_view.go:238", after := #[{ on := 11, ground := .data }], guard := none }) (v := ?_) rfl (Or.inl ⟨by rfl, ?_⟩) (by assumption) ?_
  rotate_left 1
  · (intro w' hSw; (try dsimp only at hSw); go_simp; try with_reducible rfl)
  try simp only [Act.put, qqA, qqB, qqC]
  refine wtk (i := 13) (oi := { dst := some 36, op := .move (.tmp 4), type := 46, pos := "l11_view.go:238", after := #[], guard := none }) (v := ?_) rfl (Or.inl ⟨by rfl, ?_⟩) (by assumption) ?_
  rotate_left 1
  · (intro w' hSw; (try dsimp only at hSw); go_simp; try with_reducible rfl)
  try simp only [Act.put, qqA, qqB, qqC]
  refine wtk (i := 14) (oi := { dst := some 37, op := .indexAddr 46 (.tmp 36) (.const (.int .i64 4)), type := 0, pos := "l11_view.go:238", after := #[{ on := 13, ground := .data }], guard := none }) (v := ?_) rfl (Or.inl ⟨by rfl, ?_⟩) (by assumption) ?_
  rotate_left 1
  · (intro w' hSw; (try dsimp only at hSw); go_simp; try with_reducible rfl)
  try simp only [Act.put, qqA, qqB, qqC]
  refine wtk (i := 15) (oi := { dst := some 38, op := .load 3 (.tmp 37), type := 3, pos := "l11_view.go:238", after := #[{ on := 14, ground := .data }], guard := none }) (v := ?_) rfl (Or.inl ⟨by rfl, ?_⟩) (by assumption) ?_
  rotate_left 1
  · (intro w' hSw; (try dsimp only at hSw); go_simp; try with_reducible rfl)
  try simp only [Act.put, qqA, qqB, qqC]
  refine wtk (i := 16) (oi := { dst := some 39, op := .build 25 #[(0, .tmp 25), (1, .tmp 28), (2, .tmp 32), (3, .tmp 35), (4, .tmp 38)], type := 25, pos := "l11_view.go:238", after := #[{ on := 2, ground := .data }, { on := 5, ground := .data }, { on := 9, ground := .data }, { on := 12, ground := .data }, { on := 15, ground := .data }], guard := none }) (v := ?_) rfl (Or.inl ⟨by rfl, ?_⟩) (by assumption) ?_
  rotate_left 1
  · (intro w' hSw; (try dsimp only at hSw); go_simp; try with_reducible rfl)
  try simp only [Act.put, qqA, qqB, qqC]
  refine wpAnyH_ready (rs := [17]) (by kernel_rfl) (by simp) ?_
  refine AllReadyH.cons (o := { dst := some 6, op := .alloc 25, type := 0, pos := "l11_view.go:238", after := #[], guard := none }) rfl (fun K hK => ?_) AllReadyH.nil
  obtain ⟨P, hP⟩ : ∃ P, P = w4.heap.size := ⟨_, rfl⟩
  have hb5 : Below w4.heap.size w4 (w4.alloc (.cells #[.int .i64 0, .int .i64 0, .bool false, .int .i64 0, .int .i64 0, .slice none 0 0] 25)) := Go.Joins.below_alloc1 w4 (.cells #[.int .i64 0, .int .i64 0, .bool false, .int .i64 0, .int .i64 0, .slice none 0 0] 25)
  have V5 := hide (BF.new w4 #[.int .i64 0, .int .i64 0, .bool false, .int .i64 0, .int .i64 0, .slice none 0 0] 25)
  have B5 := hide ((unhide B4).trans (hb5.mono (unhide B4).size))
  have Y5 := hide ((unhide Y4).below hb5)
  have K5 : Hid ((w4.alloc (.cells #[.int .i64 0, .int .i64 0, .bool false, .int .i64 0, .int .i64 0, .slice none 0 0] 25)).cell? ⟨gn, 0, none⟩ = some (.int .i64 x0) ∧ (w4.alloc (.cells #[.int .i64 0, .int .i64 0, .bool false, .int .i64 0, .int .i64 0, .slice none 0 0] 25)).cell? ⟨gn, 1, none⟩ = some (.int .i64 x1) ∧ (w4.alloc (.cells #[.int .i64 0, .int .i64 0, .bool false, .int .i64 0, .int .i64 0, .slice none 0 0] 25)).cell? ⟨gn, 2, none⟩ = some (.int .i64 x2) ∧ (w4.alloc (.cells #[.int .i64 0, .int .i64 0, .bool false, .int .i64 0, .int .i64 0, .slice none 0 0] 25)).cell? ⟨gn, 3, none⟩ = some (.int .i64 x3) ∧ (w4.alloc (.cells #[.int .i64 0, .int .i64 0, .bool false, .int .i64 0, .int .i64 0, .slice none 0 0] 25)).cell? ⟨gn, 4, none⟩ = some (.int .i64 x4)) := by
    obtain ⟨q0, q1, q2, q3, q4⟩ := unhide K4
    exact ⟨(hb5.cell (p := ⟨gn, 0, none⟩) (unhide HGN4)).trans q0, (hb5.cell (p := ⟨gn, 1, none⟩) (unhide HGN4)).trans q1, (hb5.cell (p := ⟨gn, 2, none⟩) (unhide HGN4)).trans q2, (hb5.cell (p := ⟨gn, 3, none⟩) (unhide HGN4)).trans q3, (hb5.cell (p := ⟨gn, 4, none⟩) (unhide HGN4)).trans q4⟩
  have HPN : Hid (¬ gn = P) := by have := unhide HGN4; show ¬ _; omega
  have LP : Hid (w.heap.size + 1 ≤ P) := by have := (unhide Y4).lt; show _ ≤ _; omega
  rw [← hP] at V5
  go_simp
  refine hK.out _ _ ?_ (fun hHeld17 => ?_)
  · exact unhide K5
  clear hK K
  try simp only [Act.put, qqA, qqB, qqC]
  rw [← hP]
  clear hb5 hP B4 Y4 K4
  generalize w4.alloc (.cells #[.int .i64 0, .int .i64 0, .bool false, .int .i64 0, .int .i64 0, .slice none 0 0] 25) = w5 at B5 Y5 V5 K5 hHeld17 ⊢
  refine wpAnyH_ready (rs := [18]) (by kernel_rfl) (by simp) ?_
  refine AllReadyH.cons (o := { dst := none, op := .store 25 (.tmp 6) (.tmp 39), type := 0, pos := "l11_view.go:238", after := #[{ on := 17, ground := .data }, { on := 16, ground := .data }, { on := 0, ground := .phase }, { on := 1, ground := .phase }, { on := 2, ground := .phase }, { on := 3, ground := .phase }, { on := 4, ground := .phase }, { on := 5, ground := .phase }, { on := 6, ground := .phase }, { on := 7, ground := .phase }, { on := 8, ground := .phase }, { on := 9, ground := .phase }, { on := 10, ground := .phase }, { on := 11, ground := .phase }, { on := 12, ground := .phase }, { on := 13, ground := .phase }, { on := 14, ground := .phase }, { on := 15, ground := .phase }, { on := 16, ground := .phase }, { on := 17, ground := .phase }], guard := none }) rfl (fun K hK => ?_) AllReadyH.nil
  have fv := (unhide V5).F
  have sv := (unhide V5).S
  obtain ⟨w6, hw6⟩ : ∃ w6, w6 = (((((((w5.setCell ⟨P, 0, none⟩ (.int .i64 x0)).setCell ⟨P, 1, none⟩ (.int .i64 x1)).setCell ⟨P, 2, none⟩ (.bool (x2 == 1))).setCell ⟨P, 3, none⟩ (.int .i64 x3)).setCell ⟨P, 4, none⟩ (.int .i64 x4)).setCell ⟨P, 5, none⟩ (.slice none 0 0))) := ⟨_, rfl⟩
  have V6 : Hid (BF P #[.int .i64 x0, .int .i64 x1, .bool (x2 == 1), .int .i64 x3, .int .i64 x4, .slice none 0 0] w6) := by rw [hw6]; exact ((((((unhide V5).set 0 (by simp) (.int .i64 x0)).set 1 (by simp) (.int .i64 x1)).set 2 (by simp) (.bool (x2 == 1))).set 3 (by simp) (.int .i64 x3)).set 4 (by simp) (.int .i64 x4)).set 5 (by simp) (.slice none 0 0)
  have B6 : Hid (Below w.heap.size w w6) := by
    rw [hw6]
    show Below _ _ _
    iterate 6 refine Below.setCell ?_ (by show _ ≤ P; have := unhide LP; omega) _
    exact unhide B5
  have Y6 : Hid (BF w.heap.size #[.int .i64 0, .int .i64 0, .bool false, .int .i64 0, .int .i64 0, .slice none 0 0] w6) := by
    rw [hw6]
    show BF _ _ _
    iterate 6 refine BF.far ?_ _ _ (by show P ≠ _; have := unhide LP; omega)
    exact unhide Y5
  have K6 : Hid (w6.cell? ⟨gn, 0, none⟩ = some (.int .i64 x0) ∧ w6.cell? ⟨gn, 1, none⟩ = some (.int .i64 x1) ∧ w6.cell? ⟨gn, 2, none⟩ = some (.int .i64 x2) ∧ w6.cell? ⟨gn, 3, none⟩ = some (.int .i64 x3) ∧ w6.cell? ⟨gn, 4, none⟩ = some (.int .i64 x4)) := by
    have e : ∀ (w : World) (o j : Nat) (v : Value), (w.setCell ⟨P, o, none⟩ v).cell? ⟨gn, j, none⟩ = w.cell? ⟨gn, j, none⟩ := fun w o j v => World.cell?_of_block (by have hk' : P ≠ gn := fun e => unhide HPN e.symm; simp [World.setCell, Array.getElem?_modify, hk'])
    show _ ∧ _
    rw [hw6]
    simp only [e]
    exact unhide K5
  go_simp
  rw [← hw6]
  refine hK.out _ _ ?_ (fun hHeld18 => ?_)
  · exact unhide K6
  clear hK K
  try simp only [Act.put, qqA, qqB, qqC]
  refine wpAnyH_done (by kernel_rfl) ?_ _
  clear fv sv hw6 V5 B5 Y5 K5 K6
  have hr1 : ((r + 1 : Nat) : Int) - 1 = (r : Int) := by omega
  have hr2 : r + 1 - 1 = r := by omega
  obtain ⟨i0, hi, hz0, hz1, hz2⟩ := info_parts Tryd.infL51
  by_cases hc1 : cap = 1
  · have HR0 : Hid (r = 0) := by show _ = _; omega
    go_wp2_with fail
    go_loopw [43] (fun i wr => ∃ (k : Nat) (aV : Option Addr) (cV : Nat), k ≤ r ∧ i = .int .i64 (k : Int) ∧ Hid (Below w.heap.size w wr) ∧ Hid (BF P #[.int .i64 x0, .int .i64 x1, .bool (x2 == 1), .int .i64 x3, .int .i64 x4, .slice aV k cV] wr) ∧ Hid (wr.ownsRow (w.heap.size + 1) 51 2 (.slice aV k cV) k (cE ((rs.take k).map rowOf))) ∧ Hid (∀ j, (Value.slice aV k cV).ownBlock = some j → w.heap.size + 1 ≤ j ∧ j ≠ P) ∧ Hid (BF w.heap.size #[.int .i64 0, .int .i64 0, .bool false, .int .i64 0, .int .i64 0, .slice none 0 0] wr) ∧ Hid (PosB (rs.take k))) (fun i _ => r - (intOf i).toNat)
    case atStart => exact ⟨0, none, 0, by omega, rfl, B6, V6, World.ownsRow_nil _ _ _ _, (fun j hj => (by cases hj)), Y6, (fun s hs => (by simp at hs))⟩
    case round =>
      clear B6 V6 Y6
      obtain ⟨k, aV, cV, hk, rfl, HB, HP, HE, HF, HZ, HPO⟩ := hrel
      by_cases hlt : k < r
      · exact absurd hlt (by have := unhide HR0; omega)
      · obtain rfl : k = r := by omega
        have YR : Hid (BF w.heap.size #[.int .i64 x0, .int .i64 x1, .bool (x2 == 1), .int .i64 x3, .int .i64 x4, .slice aV k cV] ((((((wr.setCell ⟨w.heap.size, 0, none⟩ (.int .i64 x0)).setCell ⟨w.heap.size, 1, none⟩ (.int .i64 x1)).setCell ⟨w.heap.size, 2, none⟩ (.bool (x2 == 1))).setCell ⟨w.heap.size, 3, none⟩ (.int .i64 x3)).setCell ⟨w.heap.size, 4, none⟩ (.int .i64 x4)).setCell ⟨w.heap.size, 5, none⟩ (.slice aV k cV))) := ((((((unhide HZ).set 0 (by simp) (.int .i64 x0)).set 1 (by simp) (.int .i64 x1)).set 2 (by simp) (.bool (x2 == 1))).set 3 (by simp) (.int .i64 x3)).set 4 (by simp) (.int .i64 x4)).set 5 (by simp) (.slice aV k cV)
        have BR : Hid (Below w.heap.size w ((((((wr.setCell ⟨w.heap.size, 0, none⟩ (.int .i64 x0)).setCell ⟨w.heap.size, 1, none⟩ (.int .i64 x1)).setCell ⟨w.heap.size, 2, none⟩ (.bool (x2 == 1))).setCell ⟨w.heap.size, 3, none⟩ (.int .i64 x3)).setCell ⟨w.heap.size, 4, none⟩ (.int .i64 x4)).setCell ⟨w.heap.size, 5, none⟩ (.slice aV k cV))) := by
          show Below _ _ _
          iterate 6 refine Below.setCell ?_ (by exact Nat.le_refl _) _
          exact unhide HB
        have ER : Hid ((((((((wr.setCell ⟨w.heap.size, 0, none⟩ (.int .i64 x0)).setCell ⟨w.heap.size, 1, none⟩ (.int .i64 x1)).setCell ⟨w.heap.size, 2, none⟩ (.bool (x2 == 1))).setCell ⟨w.heap.size, 3, none⟩ (.int .i64 x3)).setCell ⟨w.heap.size, 4, none⟩ (.int .i64 x4)).setCell ⟨w.heap.size, 5, none⟩ (.slice aV k cV))).ownsRow w.heap.size 51 2 (.slice aV rs.length cV) rs.length (cE (rs.map rowOf))) := by
          show World.ownsRow _ _ _ _ _ _ _
          rw [unhide HRL]
          refine Go.Joins.ownsRow_le (base := w.heap.size + 1) ?_ (by omega)
          repeat refine ownsRow_setCell_below ?_ (by exact Nat.lt_succ_self _) _
          have h := unhide HE
          rw [List.take_of_length_le (by rw [unhide HRL]; exact Nat.le_refl _)] at h
          exact h
        have HPR : Hid (PosB rs) := by have h := unhide HPO; rw [List.take_of_length_le (by rw [unhide HRL]; exact Nat.le_refl _)] at h; exact h
        have fz := (unhide HZ).F
        have sz := (unhide HZ).S
        have sp := (unhide HP).S
        have st := (unhide YR).S
        clear hlt
        go_wp2_with fail
        (try simp only [Exit.inBlock, Exit.then])
        refine bodyPost_ret (v := .tuple #[.agg #[.int .i64 x0, .int .i64 x1, .bool (x2 == 1), .int .i64 x3, .int .i64 x4, .slice aV k cV], .bool true]) ?_ rfl (Or.inl ⟨aV, cV, by rw [unhide HRL], unhide HPR, unhide ER, unhide BR⟩)
        rw [results_cell_tmp rfl]
        go_simp
  · skip
    go_wp2_with fail
    go_loopw [43] (fun i wr => ∃ (k : Nat) (aV : Option Addr) (cV : Nat), k ≤ r ∧ i = .int .i64 (k : Int) ∧ Hid (Below w.heap.size w wr) ∧ Hid (BF P #[.int .i64 x0, .int .i64 x1, .bool (x2 == 1), .int .i64 x3, .int .i64 x4, .slice aV k cV] wr) ∧ Hid (wr.ownsRow (w.heap.size + 1) 51 2 (.slice aV k cV) k (cE ((rs.take k).map rowOf))) ∧ Hid (∀ j, (Value.slice aV k cV).ownBlock = some j → w.heap.size + 1 ≤ j ∧ j ≠ P) ∧ Hid (BF w.heap.size #[.int .i64 0, .int .i64 0, .bool false, .int .i64 0, .int .i64 0, .slice none 0 0] wr) ∧ Hid (PosB (rs.take k))) (fun i _ => r - (intOf i).toNat)
    case atStart => exact ⟨0, none, 0, by omega, rfl, B6, V6, World.ownsRow_nil _ _ _ _, (fun j hj => (by cases hj)), Y6, (fun s hs => (by simp at hs))⟩
    case round =>
      clear B6 V6 Y6
      obtain ⟨k, aV, cV, hk, rfl, HB, HP, HE, HF, HZ, HPO⟩ := hrel
      by_cases hlt : k < r
      · have hlm : k < rs.length := by rw [unhide HRL]; exact hlt
        have hlt' : (k : Int) < (r : Int) := by omega
        obtain ⟨s, hs⟩ : ∃ s, s = rs[k] := ⟨_, rfl⟩
        have hc1 : wr.cell? ⟨g, 1 + k, none⟩ = some (.string s) := ((unhide HB).cell (p := ⟨g, 1 + k, none⟩) (unhide HG)).trans (unhide HC (1 + k) _ (by rw [Nat.add_comm 1 k]; unfold cS; rw [List.map_cons, List.getElem?_cons_succ, List.getElem?_map, List.getElem?_eq_getElem hlm, ← hs]; rfl))
        have hsz : s.size ≤ 1048576 := by rw [hs]; exact unhide HRZ k hlm
        by_cases h0 : s.size = 0
        · have h0' : (s.size : Int) < 1 := by omega
          have HEX : Hid (∃ s ∈ rs, s.size = 0) := ⟨s, by rw [hs]; exact List.getElem_mem hlm, h0⟩
          clear hs h0
          have YZ : Hid (BF w.heap.size #[.int .i64 0, .int .i64 0, .bool false, .int .i64 0, .int .i64 0, .slice none 0 0] ((((((wr.setCell ⟨w.heap.size, 0, none⟩ (.int .i64 0)).setCell ⟨w.heap.size, 1, none⟩ (.int .i64 0)).setCell ⟨w.heap.size, 2, none⟩ (.bool false)).setCell ⟨w.heap.size, 3, none⟩ (.int .i64 0)).setCell ⟨w.heap.size, 4, none⟩ (.int .i64 0)).setCell ⟨w.heap.size, 5, none⟩ (.slice none 0 0))) := ((((((unhide HZ).set 0 (by simp) (.int .i64 0)).set 1 (by simp) (.int .i64 0)).set 2 (by simp) (.bool false)).set 3 (by simp) (.int .i64 0)).set 4 (by simp) (.int .i64 0)).set 5 (by simp) (.slice none 0 0)
          have BZ : Hid (Below w.heap.size w ((((((wr.setCell ⟨w.heap.size, 0, none⟩ (.int .i64 0)).setCell ⟨w.heap.size, 1, none⟩ (.int .i64 0)).setCell ⟨w.heap.size, 2, none⟩ (.bool false)).setCell ⟨w.heap.size, 3, none⟩ (.int .i64 0)).setCell ⟨w.heap.size, 4, none⟩ (.int .i64 0)).setCell ⟨w.heap.size, 5, none⟩ (.slice none 0 0))) := by
            show Below _ _ _
            iterate 6 refine Below.setCell ?_ (by exact Nat.le_refl _) _
            exact unhide HB
          have fz := (unhide HZ).F
          have sz := (unhide HZ).S
          have st := (unhide YZ).S
          go_wp2_with fail
          (try simp only [Exit.inBlock, Exit.then])
          refine bodyPost_ret (v := .tuple #[.agg #[.int .i64 0, .int .i64 0, .bool false, .int .i64 0, .int .i64 0, .slice none 0 0], .bool false]) ?_ rfl (Or.inr ⟨rfl, unhide HEX, unhide BZ⟩)
          rw [results_cell_tmp rfl]
          go_simp
        · have h0' : ¬ (s.size : Int) < 1 := by omega
          have h1' : (1 : Int) ≤ (s.size : Int) := by omega
          obtain ⟨X1, hX1⟩ : ∃ X, s.extract 0 1 = X := ⟨_, rfl⟩
          obtain ⟨X2, hX2⟩ : ∃ X, s.extract 1 s.size = X := ⟨_, rfl⟩
          obtain ⟨y8, hy8⟩ : ∃ y8, y8 = s.data.toList.headD 0 := ⟨_, rfl⟩
          have HX1 : Hid (X1 = ⟨[y8].toArray⟩) := by show _ = _; rw [← hX1, hy8]; exact first_byte (by omega)
          obtain ⟨yv, hyv⟩ : ∃ yv : Int, yv = ((ofBE [y8] : Nat) : Int) := ⟨_, rfl⟩
          have HYV : Hid (((ofBE [y8] : Nat) : Int) = yv) := hyv.symm
          have HSN : Hid ((cE ((rs.take (k + 1)).map rowOf)) = (cE ((rs.take k).map rowOf)) ++ [.int .i64 yv, .string X2]) := by
            show _ = _
            rw [List.take_add_one, List.getElem?_eq_getElem hlm, Option.toList_some, List.map_append, cE_app, ← hs]
            show _ ++ cE [rowOf s] = _
            unfold rowOf
            rw [← hy8, hX2, hyv, ofBE_one]; rfl
          have HPO2 : Hid (PosB (rs.take (k + 1))) := by
            intro s2 hs2
            rw [List.take_add_one, List.getElem?_eq_getElem hlm, Option.toList_some, List.mem_append, List.mem_singleton] at hs2
            rcases hs2 with h | h
            · exact unhide HPO s2 h
            · rw [h, ← hs]; omega
          clear hy8 hyv h0 hs
          go_upto_region 12 with fail
          refine wp_region_held_drew (S := (fun _ => True)) (by kernel_rfl) trivial (fun hHeld => ?_)
          have B10 := hide ((unhide HB).drew)
          have P10 := hide ((unhide HP).drew)
          have E10 : Hid (wr.drew.ownsRow (w.heap.size + 1) 51 2 (.slice aV k cV) k (cE ((rs.take k).map rowOf))) := unhide HE
          have Y10 := hide ((unhide HZ).drew)
          clear HB HP HE HZ
          generalize wr.drew = w10 at B10 P10 E10 Y10 hHeld ⊢
          refine wtk (i := 0) (oi := { dst := some 51, op := .fieldAddr 25 (.tmp 6) 5, type := 0, pos := "l11_view.go:243", after := #[], guard := none }) (v := ?_) rfl (Or.inl ⟨by rfl, ?_⟩) (by assumption) ?_
          rotate_left 1
          · (intro w' hSw; (try dsimp only at hSw); go_simp; try with_reducible rfl)
          try simp only [Act.put, qqA, qqB, qqC]
          refine wtk (i := 2) (oi := { dst := some 53, op := .move (.tmp 8), type := 9, pos := "l11_view.go:243", after := #[], guard := none }) (v := ?_) rfl (Or.inl ⟨by rfl, ?_⟩) (by assumption) ?_
          rotate_left 1
          · (intro w' hSw; (try dsimp only at hSw); go_simp; try with_reducible rfl)
          try simp only [Act.put, qqA, qqB, qqC]
          refine wtk (i := 3) (oi := { dst := some 54, op := .slice 9 (.tmp 53) none (some (.const (.int .i64 1))) none, type := 9, pos := "l11_view.go:243", after := #[{ on := 2, ground := .data }], guard := none }) (v := ?_) rfl (Or.inl ⟨by rfl, ?_⟩) (by assumption) ?_
          rotate_left 1
          · (intro w' hSw; (try dsimp only at hSw); go_simp; try with_reducible rfl)
          try simp only [Act.put, qqA, qqB, qqC]
          refine wtk (i := 6) (oi := { dst := some 57, op := .move (.tmp 8), type := 9, pos := "l11_view.go:243", after := #[], guard := none }) (v := ?_) rfl (Or.inl ⟨by rfl, ?_⟩) (by assumption) ?_
          rotate_left 1
          · (intro w' hSw; (try dsimp only at hSw); go_simp; try with_reducible rfl)
          try simp only [Act.put, qqA, qqB, qqC]
          refine wtk (i := 7) (oi := { dst := some 58, op := .slice 9 (.tmp 57) (some (.const (.int .i64 1))) none none, type := 9, pos := "l11_view.go:243", after := #[{ on := 6, ground := .data }], guard := none }) (v := ?_) rfl (Or.inl ⟨by rfl, ?_⟩) (by assumption) ?_
          rotate_left 1
          · (intro w' hSw; (try dsimp only at hSw); go_simp; try with_reducible rfl)
          try simp only [Act.put, qqA, qqB, qqC]
          refine wpAnyH_ready (rs := [1, 4]) (by kernel_rfl) (by simp) ?_
          refine AllReadyH.cons (o := oRvwI0) rfl (fun K hK => ?_) (AllReadyH.cons (o := oRvwI1) rfl (fun K hK => ?_) AllReadyH.nil)
          · skip
            have kp := (unhide P10).S
            go_simp
            refine hK.out _ _ ?_ (fun hHeldL => ?_)
            · trivial
            clear hK K kp
            try simp only [Act.put, qqA, qqB, qqC]
            refine wpAnyH_ready (rs := [4]) (by kernel_rfl) (by simp) ?_
            refine AllReadyH.cons (o := oRvwI1) rfl (fun K hK => ?_) AllReadyH.nil
            obtain ⟨w11, capc, hcv, hrc, -, hbc⟩ := to_inC w10 [y8]
            rw [← unhide HX1, show [y8].length = 1 from rfl] at hcv
            have RC := hide (rowV_8 hrc)
            have B11 := hide ((unhide B10).trans (hbc.mono (unhide B10).size))
            have P11 := hide ((unhide P10).below hbc)
            have Y11 := hide ((unhide Y10).below hbc)
            have E11 := hide (((heldZ_of (unhide E10)).below hbc (Nat.le_refl _)).own)
            go_simp
            refine hK.out _ _ ?_ (fun hHeldC => ?_)
            · trivial
            clear hK K
            try simp only [Act.put, qqA, qqB, qqC]
            clear hcv hrc hbc B10 P10 Y10 E10
            refine wpAnyH_ready (rs := [5]) (by kernel_rfl) (by simp) ?_
            refine AllReadyH.cons (o := oRvwI2) rfl (fun K hK => ?_) AllReadyH.nil
            go_simp
            refine (inum1 _ _ y8 yv HYV _ (unhide RC)).mono ?_
            rintro e wn ⟨rfl, hw⟩
            subst wn
            go_wp2_with fail
            refine hK.out _ _ ?_ (fun hHeldN => ?_)
            · trivial
            clear hK K RC
            try simp only [Act.put, qqA, qqB, qqC]
            refine wtk (i := 8) (oi := oRvwI3) (v := ?_) rfl (Or.inl ⟨by rfl, ?_⟩) (by assumption) ?_
            rotate_left 1
            · (intro w' hSw; (try dsimp only at hSw); go_simp; try with_reducible rfl)
            try simp only [Act.put, qqA, qqB, qqC]
            refine wpAnyH_ready (rs := [9]) (by kernel_rfl) (by simp) ?_
            refine AllReadyH.cons (o := oRvwI4) rfl (fun K hK => ?_) AllReadyH.nil
            obtain ⟨G, hG⟩ : ∃ G, G = w11.heap.size := ⟨_, rfl⟩
            have hbb : Below w11.heap.size w11 (w11.alloc (.cells #[.int .i64 yv, .string X2] 51)) := Go.Joins.below_alloc1 w11 (.cells #[.int .i64 yv, .string X2] 51)
            have RB := hide (BF.new w11 #[.int .i64 yv, .string X2] 51)
            have B12 := hide ((unhide B11).trans (hbb.mono (unhide B11).size))
            have P12 := hide ((unhide P11).below hbb)
            have Y12 := hide ((unhide Y11).below hbb)
            have E12 := hide (((heldZ_of (unhide E11)).below hbb (Nat.le_refl _)).own)
            have ZB : Hid (P < (w11.alloc (.cells #[.int .i64 yv, .string X2] 51)).heap.size) := (unhide P12).lt
            rw [← hG] at RB
            go_simp
            refine hK.out _ _ ?_ (fun hHeldB => ?_)
            · trivial
            clear hK K
            try simp only [Act.put, qqA, qqB, qqC]
            rw [← hG]
            clear hbb hG B11 P11 Y11 E11
            generalize w11.alloc (.cells #[.int .i64 yv, .string X2] 51) = w12 at RB P12 B12 E12 Y12 ZB hHeldB ⊢
            refine wpAnyH_ready (rs := [10]) (by kernel_rfl) (by simp) ?_
            refine AllReadyH.cons (o := oRvwI5) rfl (fun K hK => ?_) AllReadyH.nil
            refine step_append_lies w12 rfl (.tmp 52) (.tmp 60) 23 rfl (w.heap.size + 1) 51 i0 (.agg #[.int .i64 0, .string ⟨#[]⟩]) 2 24 Tryd.underlying23 hi hz0 hz1 hz2 rfl (by decide) (.slice aV k cV) k (cE ((rs.take k).map rowOf)) rfl (unhide E12) ⟨G, 0, none⟩ 1 1 [.int .i64 yv, .string X2] rfl rfl (by intro j u hj; have e := (unhide RB).S j; rw [show (⟨G, 0, none⟩ : Addr).add j = ⟨G, j, none⟩ from (by unfold Addr.add; split <;> simp_all)]; rw [e]; simpa using hj) (by intro u hu; simp at hu; rcases hu with rfl | rfl <;> rfl) (by decide) (by unfold maxLen; omega) (by omega) (by have := unhide ZB; have := unhide LP; omega) _ rfl ?_
            intro g7 c7 wa ho7 hg7 hat7 hlt7
            have Pa := hide ((unhide P12).grown hg7 (fun h => (unhide HF _ h).2 rfl))
            have Ba := hide ((unhide B12).grown hg7 (unhide B12).size (fun j hj => by have := (unhide HF j hj).1; omega))
            have Ya := hide ((unhide Y12).grown hg7 (fun h => by have := (unhide HF _ h).1; omega))
            have Fa : Hid (w.heap.size + 1 ≤ g7 ∧ g7 ≠ P) := by
              show _ ∧ _
              rcases hat7 with h | h
              · exact unhide HF _ h
              · have := unhide ZB; have := unhide LP; omega
            have Ea : Hid (wa.ownsRow (w.heap.size + 1) 51 2 (.slice (some ⟨g7, 0, none⟩) (k + 1) c7) (k + 1) (cE ((rs.take (k + 1)).map rowOf))) := by show World.ownsRow _ _ _ _ _ _ _; rw [unhide HSN]; exact ho7
            clear ho7 hg7 hat7 hlt7 P12 B12 E12 Y12 RB ZB
            refine hK.out _ _ ?_ (fun hHeld10 => ?_)
            · trivial
            clear hK K
            try simp only [Act.put, qqA, qqB, qqC]
            refine wtk (i := 11) (oi := oRvwI6) (v := ?_) rfl (Or.inl ⟨by rfl, ?_⟩) (by assumption) ?_
            rotate_left 1
            · (intro w' hSw; (try dsimp only at hSw); go_simp; try with_reducible rfl)
            try simp only [Act.put, qqA, qqB, qqC]
            refine wpAnyH_ready (rs := [12]) (by kernel_rfl) (by simp) ?_
            refine AllReadyH.cons (o := oRvwI7) rfl (fun K hK => ?_) AllReadyH.nil
            have kp := (unhide Pa).S
            have kpf := (unhide Pa).F
            obtain ⟨wz, hwz⟩ : ∃ wz, wz = wa.setCell ⟨P, 5, none⟩ (.slice (some ⟨g7, 0, none⟩) (k + 1) c7) := ⟨_, rfl⟩
            have Pz : Hid (BF P #[.int .i64 x0, .int .i64 x1, .bool (x2 == 1), .int .i64 x3, .int .i64 x4, .slice (some ⟨g7, 0, none⟩) (k + 1) c7] wz) := by rw [hwz]; exact (unhide Pa).set 5 (by simp) _
            have Bz : Hid (Below w.heap.size w wz) := by rw [hwz]; exact (unhide Ba).setCell (p := ⟨P, 5, none⟩) (by show w.heap.size ≤ P; have := unhide LP; omega) _
            have Ez : Hid (wz.ownsRow (w.heap.size + 1) 51 2 (.slice (some ⟨g7, 0, none⟩) (k + 1) c7) (k + 1) (cE ((rs.take (k + 1)).map rowOf))) := by rw [hwz]; exact own_keepBR (unhide Ea) (Below.heap_setCell _ _ _ _ (unhide Fa).2)
            have Yz : Hid (BF w.heap.size #[.int .i64 0, .int .i64 0, .bool false, .int .i64 0, .int .i64 0, .slice none 0 0] wz) := by rw [hwz]; exact (unhide Ya).far _ _ (by show P ≠ _; have := unhide LP; omega)
            have Fz : Hid (∀ j, (Value.slice (some ⟨g7, 0, none⟩) (k + 1) c7).ownBlock = some j → w.heap.size + 1 ≤ j ∧ j ≠ P) := fun j hj => by have e : g7 = j := Option.some.inj hj; subst e; exact unhide Fa
            go_simp
            rw [← hwz]
            refine hK.out _ _ ?_ (fun hHeld12 => ?_)
            · trivial
            clear hK K
            try simp only [Act.put, qqA, qqB, qqC]
            refine wpAnyH_done (by kernel_rfl) ?_ _
            clear kp kpf hwz Pa Ba Ea Ya Fa
            go_wp2_with fail
            go_roundw
            case rel => exact ⟨k + 1, _, _, by omega, by go_num, Bz, Pz, Ez, Fz, Yz, HPO2⟩
            case measure => simp [intOf]; omega
          · skip
            obtain ⟨w11, capc, hcv, hrc, -, hbc⟩ := to_inC w10 [y8]
            rw [← unhide HX1, show [y8].length = 1 from rfl] at hcv
            have RC := hide (rowV_8 hrc)
            have B11 := hide ((unhide B10).trans (hbc.mono (unhide B10).size))
            have P11 := hide ((unhide P10).below hbc)
            have Y11 := hide ((unhide Y10).below hbc)
            have E11 := hide (((heldZ_of (unhide E10)).below hbc (Nat.le_refl _)).own)
            go_simp
            refine hK.out _ _ ?_ (fun hHeldC => ?_)
            · trivial
            clear hK K
            try simp only [Act.put, qqA, qqB, qqC]
            clear hcv hrc hbc B10 P10 Y10 E10
            refine wpAnyH_ready (rs := [1, 5]) (by kernel_rfl) (by simp) ?_
            refine AllReadyH.cons (o := oRvwI0) rfl (fun K hK => ?_) (AllReadyH.cons (o := oRvwI2) rfl (fun K hK => ?_) AllReadyH.nil)
            · skip
              have kp := (unhide P11).S
              go_simp
              refine hK.out _ _ ?_ (fun hHeldL => ?_)
              · trivial
              clear hK K kp
              try simp only [Act.put, qqA, qqB, qqC]
              refine wpAnyH_ready (rs := [5]) (by kernel_rfl) (by simp) ?_
              refine AllReadyH.cons (o := oRvwI2) rfl (fun K hK => ?_) AllReadyH.nil
              go_simp
              refine (inum1 _ _ y8 yv HYV _ (unhide RC)).mono ?_
              rintro e wn ⟨rfl, hw⟩
              subst wn
              go_wp2_with fail
              refine hK.out _ _ ?_ (fun hHeldN => ?_)
              · trivial
              clear hK K RC
              try simp only [Act.put, qqA, qqB, qqC]
              refine wtk (i := 8) (oi := oRvwI3) (v := ?_) rfl (Or.inl ⟨by rfl, ?_⟩) (by assumption) ?_
              rotate_left 1
              · (intro w' hSw; (try dsimp only at hSw); go_simp; try with_reducible rfl)
              try simp only [Act.put, qqA, qqB, qqC]
              refine wpAnyH_ready (rs := [9]) (by kernel_rfl) (by simp) ?_
              refine AllReadyH.cons (o := oRvwI4) rfl (fun K hK => ?_) AllReadyH.nil
              obtain ⟨G, hG⟩ : ∃ G, G = w11.heap.size := ⟨_, rfl⟩
              have hbb : Below w11.heap.size w11 (w11.alloc (.cells #[.int .i64 yv, .string X2] 51)) := Go.Joins.below_alloc1 w11 (.cells #[.int .i64 yv, .string X2] 51)
              have RB := hide (BF.new w11 #[.int .i64 yv, .string X2] 51)
              have B12 := hide ((unhide B11).trans (hbb.mono (unhide B11).size))
              have P12 := hide ((unhide P11).below hbb)
              have Y12 := hide ((unhide Y11).below hbb)
              have E12 := hide (((heldZ_of (unhide E11)).below hbb (Nat.le_refl _)).own)
              have ZB : Hid (P < (w11.alloc (.cells #[.int .i64 yv, .string X2] 51)).heap.size) := (unhide P12).lt
              rw [← hG] at RB
              go_simp
              refine hK.out _ _ ?_ (fun hHeldB => ?_)
              · trivial
              clear hK K
              try simp only [Act.put, qqA, qqB, qqC]
              rw [← hG]
              clear hbb hG B11 P11 Y11 E11
              generalize w11.alloc (.cells #[.int .i64 yv, .string X2] 51) = w12 at RB P12 B12 E12 Y12 ZB hHeldB ⊢
              refine wpAnyH_ready (rs := [10]) (by kernel_rfl) (by simp) ?_
              refine AllReadyH.cons (o := oRvwI5) rfl (fun K hK => ?_) AllReadyH.nil
              refine step_append_lies w12 rfl (.tmp 52) (.tmp 60) 23 rfl (w.heap.size + 1) 51 i0 (.agg #[.int .i64 0, .string ⟨#[]⟩]) 2 24 Tryd.underlying23 hi hz0 hz1 hz2 rfl (by decide) (.slice aV k cV) k (cE ((rs.take k).map rowOf)) rfl (unhide E12) ⟨G, 0, none⟩ 1 1 [.int .i64 yv, .string X2] rfl rfl (by intro j u hj; have e := (unhide RB).S j; rw [show (⟨G, 0, none⟩ : Addr).add j = ⟨G, j, none⟩ from (by unfold Addr.add; split <;> simp_all)]; rw [e]; simpa using hj) (by intro u hu; simp at hu; rcases hu with rfl | rfl <;> rfl) (by decide) (by unfold maxLen; omega) (by omega) (by have := unhide ZB; have := unhide LP; omega) _ rfl ?_
              intro g7 c7 wa ho7 hg7 hat7 hlt7
              have Pa := hide ((unhide P12).grown hg7 (fun h => (unhide HF _ h).2 rfl))
              have Ba := hide ((unhide B12).grown hg7 (unhide B12).size (fun j hj => by have := (unhide HF j hj).1; omega))
              have Ya := hide ((unhide Y12).grown hg7 (fun h => by have := (unhide HF _ h).1; omega))
              have Fa : Hid (w.heap.size + 1 ≤ g7 ∧ g7 ≠ P) := by
                show _ ∧ _
                rcases hat7 with h | h
                · exact unhide HF _ h
                · have := unhide ZB; have := unhide LP; omega
              have Ea : Hid (wa.ownsRow (w.heap.size + 1) 51 2 (.slice (some ⟨g7, 0, none⟩) (k + 1) c7) (k + 1) (cE ((rs.take (k + 1)).map rowOf))) := by show World.ownsRow _ _ _ _ _ _ _; rw [unhide HSN]; exact ho7
              clear ho7 hg7 hat7 hlt7 P12 B12 E12 Y12 RB ZB
              refine hK.out _ _ ?_ (fun hHeld10 => ?_)
              · trivial
              clear hK K
              try simp only [Act.put, qqA, qqB, qqC]
              refine wtk (i := 11) (oi := oRvwI6) (v := ?_) rfl (Or.inl ⟨by rfl, ?_⟩) (by assumption) ?_
              rotate_left 1
              · (intro w' hSw; (try dsimp only at hSw); go_simp; try with_reducible rfl)
              try simp only [Act.put, qqA, qqB, qqC]
              refine wpAnyH_ready (rs := [12]) (by kernel_rfl) (by simp) ?_
              refine AllReadyH.cons (o := oRvwI7) rfl (fun K hK => ?_) AllReadyH.nil
              have kp := (unhide Pa).S
              have kpf := (unhide Pa).F
              obtain ⟨wz, hwz⟩ : ∃ wz, wz = wa.setCell ⟨P, 5, none⟩ (.slice (some ⟨g7, 0, none⟩) (k + 1) c7) := ⟨_, rfl⟩
              have Pz : Hid (BF P #[.int .i64 x0, .int .i64 x1, .bool (x2 == 1), .int .i64 x3, .int .i64 x4, .slice (some ⟨g7, 0, none⟩) (k + 1) c7] wz) := by rw [hwz]; exact (unhide Pa).set 5 (by simp) _
              have Bz : Hid (Below w.heap.size w wz) := by rw [hwz]; exact (unhide Ba).setCell (p := ⟨P, 5, none⟩) (by show w.heap.size ≤ P; have := unhide LP; omega) _
              have Ez : Hid (wz.ownsRow (w.heap.size + 1) 51 2 (.slice (some ⟨g7, 0, none⟩) (k + 1) c7) (k + 1) (cE ((rs.take (k + 1)).map rowOf))) := by rw [hwz]; exact own_keepBR (unhide Ea) (Below.heap_setCell _ _ _ _ (unhide Fa).2)
              have Yz : Hid (BF w.heap.size #[.int .i64 0, .int .i64 0, .bool false, .int .i64 0, .int .i64 0, .slice none 0 0] wz) := by rw [hwz]; exact (unhide Ya).far _ _ (by show P ≠ _; have := unhide LP; omega)
              have Fz : Hid (∀ j, (Value.slice (some ⟨g7, 0, none⟩) (k + 1) c7).ownBlock = some j → w.heap.size + 1 ≤ j ∧ j ≠ P) := fun j hj => by have e : g7 = j := Option.some.inj hj; subst e; exact unhide Fa
              go_simp
              rw [← hwz]
              refine hK.out _ _ ?_ (fun hHeld12 => ?_)
              · trivial
              clear hK K
              try simp only [Act.put, qqA, qqB, qqC]
              refine wpAnyH_done (by kernel_rfl) ?_ _
              clear kp kpf hwz Pa Ba Ea Ya Fa
              go_wp2_with fail
              go_roundw
              case rel => exact ⟨k + 1, _, _, by omega, by go_num, Bz, Pz, Ez, Fz, Yz, HPO2⟩
              case measure => simp [intOf]; omega
            · skip
              go_simp
              refine (inum1 _ _ y8 yv HYV _ (unhide RC)).mono ?_
              rintro e wn ⟨rfl, hw⟩
              subst wn
              go_wp2_with fail
              refine hK.out _ _ ?_ (fun hHeldN => ?_)
              · trivial
              clear hK K RC
              try simp only [Act.put, qqA, qqB, qqC]
              refine wtk (i := 8) (oi := oRvwI3) (v := ?_) rfl (Or.inl ⟨by rfl, ?_⟩) (by assumption) ?_
              rotate_left 1
              · (intro w' hSw; (try dsimp only at hSw); go_simp; try with_reducible rfl)
              try simp only [Act.put, qqA, qqB, qqC]
              refine wpAnyH_ready (rs := [1, 9]) (by kernel_rfl) (by simp) ?_
              refine AllReadyH.cons (o := oRvwI0) rfl (fun K hK => ?_) (AllReadyH.cons (o := oRvwI4) rfl (fun K hK => ?_) AllReadyH.nil)
              · skip
                have kp := (unhide P11).S
                go_simp
                refine hK.out _ _ ?_ (fun hHeldL => ?_)
                · trivial
                clear hK K kp
                try simp only [Act.put, qqA, qqB, qqC]
                refine wpAnyH_ready (rs := [9]) (by kernel_rfl) (by simp) ?_
                refine AllReadyH.cons (o := oRvwI4) rfl (fun K hK => ?_) AllReadyH.nil
                obtain ⟨G, hG⟩ : ∃ G, G = w11.heap.size := ⟨_, rfl⟩
                have hbb : Below w11.heap.size w11 (w11.alloc (.cells #[.int .i64 yv, .string X2] 51)) := Go.Joins.below_alloc1 w11 (.cells #[.int .i64 yv, .string X2] 51)
                have RB := hide (BF.new w11 #[.int .i64 yv, .string X2] 51)
                have B12 := hide ((unhide B11).trans (hbb.mono (unhide B11).size))
                have P12 := hide ((unhide P11).below hbb)
                have Y12 := hide ((unhide Y11).below hbb)
                have E12 := hide (((heldZ_of (unhide E11)).below hbb (Nat.le_refl _)).own)
                have ZB : Hid (P < (w11.alloc (.cells #[.int .i64 yv, .string X2] 51)).heap.size) := (unhide P12).lt
                rw [← hG] at RB
                go_simp
                refine hK.out _ _ ?_ (fun hHeldB => ?_)
                · trivial
                clear hK K
                try simp only [Act.put, qqA, qqB, qqC]
                rw [← hG]
                clear hbb hG B11 P11 Y11 E11
                generalize w11.alloc (.cells #[.int .i64 yv, .string X2] 51) = w12 at RB P12 B12 E12 Y12 ZB hHeldB ⊢
                refine wpAnyH_ready (rs := [10]) (by kernel_rfl) (by simp) ?_
                refine AllReadyH.cons (o := oRvwI5) rfl (fun K hK => ?_) AllReadyH.nil
                refine step_append_lies w12 rfl (.tmp 52) (.tmp 60) 23 rfl (w.heap.size + 1) 51 i0 (.agg #[.int .i64 0, .string ⟨#[]⟩]) 2 24 Tryd.underlying23 hi hz0 hz1 hz2 rfl (by decide) (.slice aV k cV) k (cE ((rs.take k).map rowOf)) rfl (unhide E12) ⟨G, 0, none⟩ 1 1 [.int .i64 yv, .string X2] rfl rfl (by intro j u hj; have e := (unhide RB).S j; rw [show (⟨G, 0, none⟩ : Addr).add j = ⟨G, j, none⟩ from (by unfold Addr.add; split <;> simp_all)]; rw [e]; simpa using hj) (by intro u hu; simp at hu; rcases hu with rfl | rfl <;> rfl) (by decide) (by unfold maxLen; omega) (by omega) (by have := unhide ZB; have := unhide LP; omega) _ rfl ?_
                intro g7 c7 wa ho7 hg7 hat7 hlt7
                have Pa := hide ((unhide P12).grown hg7 (fun h => (unhide HF _ h).2 rfl))
                have Ba := hide ((unhide B12).grown hg7 (unhide B12).size (fun j hj => by have := (unhide HF j hj).1; omega))
                have Ya := hide ((unhide Y12).grown hg7 (fun h => by have := (unhide HF _ h).1; omega))
                have Fa : Hid (w.heap.size + 1 ≤ g7 ∧ g7 ≠ P) := by
                  show _ ∧ _
                  rcases hat7 with h | h
                  · exact unhide HF _ h
                  · have := unhide ZB; have := unhide LP; omega
                have Ea : Hid (wa.ownsRow (w.heap.size + 1) 51 2 (.slice (some ⟨g7, 0, none⟩) (k + 1) c7) (k + 1) (cE ((rs.take (k + 1)).map rowOf))) := by show World.ownsRow _ _ _ _ _ _ _; rw [unhide HSN]; exact ho7
                clear ho7 hg7 hat7 hlt7 P12 B12 E12 Y12 RB ZB
                refine hK.out _ _ ?_ (fun hHeld10 => ?_)
                · trivial
                clear hK K
                try simp only [Act.put, qqA, qqB, qqC]
                refine wtk (i := 11) (oi := oRvwI6) (v := ?_) rfl (Or.inl ⟨by rfl, ?_⟩) (by assumption) ?_
                rotate_left 1
                · (intro w' hSw; (try dsimp only at hSw); go_simp; try with_reducible rfl)
                try simp only [Act.put, qqA, qqB, qqC]
                refine wpAnyH_ready (rs := [12]) (by kernel_rfl) (by simp) ?_
                refine AllReadyH.cons (o := oRvwI7) rfl (fun K hK => ?_) AllReadyH.nil
                have kp := (unhide Pa).S
                have kpf := (unhide Pa).F
                obtain ⟨wz, hwz⟩ : ∃ wz, wz = wa.setCell ⟨P, 5, none⟩ (.slice (some ⟨g7, 0, none⟩) (k + 1) c7) := ⟨_, rfl⟩
                have Pz : Hid (BF P #[.int .i64 x0, .int .i64 x1, .bool (x2 == 1), .int .i64 x3, .int .i64 x4, .slice (some ⟨g7, 0, none⟩) (k + 1) c7] wz) := by rw [hwz]; exact (unhide Pa).set 5 (by simp) _
                have Bz : Hid (Below w.heap.size w wz) := by rw [hwz]; exact (unhide Ba).setCell (p := ⟨P, 5, none⟩) (by show w.heap.size ≤ P; have := unhide LP; omega) _
                have Ez : Hid (wz.ownsRow (w.heap.size + 1) 51 2 (.slice (some ⟨g7, 0, none⟩) (k + 1) c7) (k + 1) (cE ((rs.take (k + 1)).map rowOf))) := by rw [hwz]; exact own_keepBR (unhide Ea) (Below.heap_setCell _ _ _ _ (unhide Fa).2)
                have Yz : Hid (BF w.heap.size #[.int .i64 0, .int .i64 0, .bool false, .int .i64 0, .int .i64 0, .slice none 0 0] wz) := by rw [hwz]; exact (unhide Ya).far _ _ (by show P ≠ _; have := unhide LP; omega)
                have Fz : Hid (∀ j, (Value.slice (some ⟨g7, 0, none⟩) (k + 1) c7).ownBlock = some j → w.heap.size + 1 ≤ j ∧ j ≠ P) := fun j hj => by have e : g7 = j := Option.some.inj hj; subst e; exact unhide Fa
                go_simp
                rw [← hwz]
                refine hK.out _ _ ?_ (fun hHeld12 => ?_)
                · trivial
                clear hK K
                try simp only [Act.put, qqA, qqB, qqC]
                refine wpAnyH_done (by kernel_rfl) ?_ _
                clear kp kpf hwz Pa Ba Ea Ya Fa
                go_wp2_with fail
                go_roundw
                case rel => exact ⟨k + 1, _, _, by omega, by go_num, Bz, Pz, Ez, Fz, Yz, HPO2⟩
                case measure => simp [intOf]; omega
              · skip
                obtain ⟨G, hG⟩ : ∃ G, G = w11.heap.size := ⟨_, rfl⟩
                have hbb : Below w11.heap.size w11 (w11.alloc (.cells #[.int .i64 yv, .string X2] 51)) := Go.Joins.below_alloc1 w11 (.cells #[.int .i64 yv, .string X2] 51)
                have RB := hide (BF.new w11 #[.int .i64 yv, .string X2] 51)
                have B12 := hide ((unhide B11).trans (hbb.mono (unhide B11).size))
                have P12 := hide ((unhide P11).below hbb)
                have Y12 := hide ((unhide Y11).below hbb)
                have E12 := hide (((heldZ_of (unhide E11)).below hbb (Nat.le_refl _)).own)
                have ZB : Hid (P < (w11.alloc (.cells #[.int .i64 yv, .string X2] 51)).heap.size) := (unhide P12).lt
                rw [← hG] at RB
                go_simp
                refine hK.out _ _ ?_ (fun hHeldB => ?_)
                · trivial
                clear hK K
                try simp only [Act.put, qqA, qqB, qqC]
                rw [← hG]
                clear hbb hG B11 P11 Y11 E11
                generalize w11.alloc (.cells #[.int .i64 yv, .string X2] 51) = w12 at RB P12 B12 E12 Y12 ZB hHeldB ⊢
                refine wpAnyH_ready (rs := [1]) (by kernel_rfl) (by simp) ?_
                refine AllReadyH.cons (o := oRvwI0) rfl (fun K hK => ?_) AllReadyH.nil
                have kp := (unhide P12).S
                go_simp
                refine hK.out _ _ ?_ (fun hHeldL => ?_)
                · trivial
                clear hK K kp
                try simp only [Act.put, qqA, qqB, qqC]
                refine wpAnyH_ready (rs := [10]) (by kernel_rfl) (by simp) ?_
                refine AllReadyH.cons (o := oRvwI5) rfl (fun K hK => ?_) AllReadyH.nil
                refine step_append_lies w12 rfl (.tmp 52) (.tmp 60) 23 rfl (w.heap.size + 1) 51 i0 (.agg #[.int .i64 0, .string ⟨#[]⟩]) 2 24 Tryd.underlying23 hi hz0 hz1 hz2 rfl (by decide) (.slice aV k cV) k (cE ((rs.take k).map rowOf)) rfl (unhide E12) ⟨G, 0, none⟩ 1 1 [.int .i64 yv, .string X2] rfl rfl (by intro j u hj; have e := (unhide RB).S j; rw [show (⟨G, 0, none⟩ : Addr).add j = ⟨G, j, none⟩ from (by unfold Addr.add; split <;> simp_all)]; rw [e]; simpa using hj) (by intro u hu; simp at hu; rcases hu with rfl | rfl <;> rfl) (by decide) (by unfold maxLen; omega) (by omega) (by have := unhide ZB; have := unhide LP; omega) _ rfl ?_
                intro g7 c7 wa ho7 hg7 hat7 hlt7
                have Pa := hide ((unhide P12).grown hg7 (fun h => (unhide HF _ h).2 rfl))
                have Ba := hide ((unhide B12).grown hg7 (unhide B12).size (fun j hj => by have := (unhide HF j hj).1; omega))
                have Ya := hide ((unhide Y12).grown hg7 (fun h => by have := (unhide HF _ h).1; omega))
                have Fa : Hid (w.heap.size + 1 ≤ g7 ∧ g7 ≠ P) := by
                  show _ ∧ _
                  rcases hat7 with h | h
                  · exact unhide HF _ h
                  · have := unhide ZB; have := unhide LP; omega
                have Ea : Hid (wa.ownsRow (w.heap.size + 1) 51 2 (.slice (some ⟨g7, 0, none⟩) (k + 1) c7) (k + 1) (cE ((rs.take (k + 1)).map rowOf))) := by show World.ownsRow _ _ _ _ _ _ _; rw [unhide HSN]; exact ho7
                clear ho7 hg7 hat7 hlt7 P12 B12 E12 Y12 RB ZB
                refine hK.out _ _ ?_ (fun hHeld10 => ?_)
                · trivial
                clear hK K
                try simp only [Act.put, qqA, qqB, qqC]
                refine wtk (i := 11) (oi := oRvwI6) (v := ?_) rfl (Or.inl ⟨by rfl, ?_⟩) (by assumption) ?_
                rotate_left 1
                · (intro w' hSw; (try dsimp only at hSw); go_simp; try with_reducible rfl)
                try simp only [Act.put, qqA, qqB, qqC]
                refine wpAnyH_ready (rs := [12]) (by kernel_rfl) (by simp) ?_
                refine AllReadyH.cons (o := oRvwI7) rfl (fun K hK => ?_) AllReadyH.nil
                have kp := (unhide Pa).S
                have kpf := (unhide Pa).F
                obtain ⟨wz, hwz⟩ : ∃ wz, wz = wa.setCell ⟨P, 5, none⟩ (.slice (some ⟨g7, 0, none⟩) (k + 1) c7) := ⟨_, rfl⟩
                have Pz : Hid (BF P #[.int .i64 x0, .int .i64 x1, .bool (x2 == 1), .int .i64 x3, .int .i64 x4, .slice (some ⟨g7, 0, none⟩) (k + 1) c7] wz) := by rw [hwz]; exact (unhide Pa).set 5 (by simp) _
                have Bz : Hid (Below w.heap.size w wz) := by rw [hwz]; exact (unhide Ba).setCell (p := ⟨P, 5, none⟩) (by show w.heap.size ≤ P; have := unhide LP; omega) _
                have Ez : Hid (wz.ownsRow (w.heap.size + 1) 51 2 (.slice (some ⟨g7, 0, none⟩) (k + 1) c7) (k + 1) (cE ((rs.take (k + 1)).map rowOf))) := by rw [hwz]; exact own_keepBR (unhide Ea) (Below.heap_setCell _ _ _ _ (unhide Fa).2)
                have Yz : Hid (BF w.heap.size #[.int .i64 0, .int .i64 0, .bool false, .int .i64 0, .int .i64 0, .slice none 0 0] wz) := by rw [hwz]; exact (unhide Ya).far _ _ (by show P ≠ _; have := unhide LP; omega)
                have Fz : Hid (∀ j, (Value.slice (some ⟨g7, 0, none⟩) (k + 1) c7).ownBlock = some j → w.heap.size + 1 ≤ j ∧ j ≠ P) := fun j hj => by have e : g7 = j := Option.some.inj hj; subst e; exact unhide Fa
                go_simp
                rw [← hwz]
                refine hK.out _ _ ?_ (fun hHeld12 => ?_)
                · trivial
                clear hK K
                try simp only [Act.put, qqA, qqB, qqC]
                refine wpAnyH_done (by kernel_rfl) ?_ _
                clear kp kpf hwz Pa Ba Ea Ya Fa
                go_wp2_with fail
                go_roundw
                case rel => exact ⟨k + 1, _, _, by omega, by go_num, Bz, Pz, Ez, Fz, Yz, HPO2⟩
                case measure => simp [intOf]; omega
      · obtain rfl : k = r := by omega
        have YR : Hid (BF w.heap.size #[.int .i64 x0, .int .i64 x1, .bool (x2 == 1), .int .i64 x3, .int .i64 x4, .slice aV k cV] ((((((wr.setCell ⟨w.heap.size, 0, none⟩ (.int .i64 x0)).setCell ⟨w.heap.size, 1, none⟩ (.int .i64 x1)).setCell ⟨w.heap.size, 2, none⟩ (.bool (x2 == 1))).setCell ⟨w.heap.size, 3, none⟩ (.int .i64 x3)).setCell ⟨w.heap.size, 4, none⟩ (.int .i64 x4)).setCell ⟨w.heap.size, 5, none⟩ (.slice aV k cV))) := ((((((unhide HZ).set 0 (by simp) (.int .i64 x0)).set 1 (by simp) (.int .i64 x1)).set 2 (by simp) (.bool (x2 == 1))).set 3 (by simp) (.int .i64 x3)).set 4 (by simp) (.int .i64 x4)).set 5 (by simp) (.slice aV k cV)
        have BR : Hid (Below w.heap.size w ((((((wr.setCell ⟨w.heap.size, 0, none⟩ (.int .i64 x0)).setCell ⟨w.heap.size, 1, none⟩ (.int .i64 x1)).setCell ⟨w.heap.size, 2, none⟩ (.bool (x2 == 1))).setCell ⟨w.heap.size, 3, none⟩ (.int .i64 x3)).setCell ⟨w.heap.size, 4, none⟩ (.int .i64 x4)).setCell ⟨w.heap.size, 5, none⟩ (.slice aV k cV))) := by
          show Below _ _ _
          iterate 6 refine Below.setCell ?_ (by exact Nat.le_refl _) _
          exact unhide HB
        have ER : Hid ((((((((wr.setCell ⟨w.heap.size, 0, none⟩ (.int .i64 x0)).setCell ⟨w.heap.size, 1, none⟩ (.int .i64 x1)).setCell ⟨w.heap.size, 2, none⟩ (.bool (x2 == 1))).setCell ⟨w.heap.size, 3, none⟩ (.int .i64 x3)).setCell ⟨w.heap.size, 4, none⟩ (.int .i64 x4)).setCell ⟨w.heap.size, 5, none⟩ (.slice aV k cV))).ownsRow w.heap.size 51 2 (.slice aV rs.length cV) rs.length (cE (rs.map rowOf))) := by
          show World.ownsRow _ _ _ _ _ _ _
          rw [unhide HRL]
          refine Go.Joins.ownsRow_le (base := w.heap.size + 1) ?_ (by omega)
          repeat refine ownsRow_setCell_below ?_ (by exact Nat.lt_succ_self _) _
          have h := unhide HE
          rw [List.take_of_length_le (by rw [unhide HRL]; exact Nat.le_refl _)] at h
          exact h
        have HPR : Hid (PosB rs) := by have h := unhide HPO; rw [List.take_of_length_le (by rw [unhide HRL]; exact Nat.le_refl _)] at h; exact h
        have fz := (unhide HZ).F
        have sz := (unhide HZ).S
        have sp := (unhide HP).S
        have st := (unhide YR).S
        clear hlt
        go_wp2_with fail
        (try simp only [Exit.inBlock, Exit.then])
        refine bodyPost_ret (v := .tuple #[.agg #[.int .i64 x0, .int .i64 x1, .bool (x2 == 1), .int .i64 x3, .int .i64 x4, .slice aV k cV], .bool true]) ?_ rfl (Or.inl ⟨aV, cV, by rw [unhide HRL], unhide HPR, unhide ER, unhide BR⟩)
        rw [results_cell_tmp rfl]
        go_simp
end Go.Proofs.YtblhediekdeffaaDoor
