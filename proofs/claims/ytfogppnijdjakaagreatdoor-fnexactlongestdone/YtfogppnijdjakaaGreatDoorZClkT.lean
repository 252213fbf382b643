/- spec.ClusterOK. -/
import Derived.Test.YtfogppnijdjakaaGreatDoorZG30
import Derived.Test.YtfogppnijdjakaaGreatDoorZG31
import Derived.Test.YtfogppnijdjakaaGreatDoorZNdS
import Derived.Test.YtfogppnijdjakaaGreatDoorZG34
import Derived.Test.YtfogppnijdjakaaGreatDoorZRvS
import Derived.Test.YtfogppnijdjakaaGreatDoorZMsgS
import Derived.Deep.Cut
namespace Go.Proofs.YtfogppnijdjakaaGreatDoor
open Go.ChangeShapes Go.WideShapes Go.ChangeAt Go.RowKit
set_option linter.unusedVariables false
abbrev oClkT0 : Oper := { dst := some 41, op := .fieldAddr 35 (.tmp 1) 0, type := 0, pos := "l09_cluster.go:34", after := #[], guard := none }
abbrev oClkT1 : Oper := { dst := some 42, op := .load 31 (.tmp 41), type := 31, pos := "l09_cluster.go:34", after := #[{ on := 0, ground := .data }], guard := none }
abbrev oClkT2 : Oper := { dst := some 43, op := .move (.tmp 4), type := 3, pos := "l09_cluster.go:34", after := #[], guard := none }
abbrev oClkT3 : Oper := { dst := some 44, op := .indexAddr 31 (.tmp 42) (.tmp 43), type := 0, pos := "l09_cluster.go:34", after := #[{ on := 1, ground := .data }, { on := 2, ground := .data }], guard := none }
abbrev oClkT4 : Oper := { dst := some 45, op := .fieldAddr 71 (.tmp 44) 0, type := 0, pos := "l09_cluster.go:34", after := #[{ on := 3, ground := .data }], guard := none }
abbrev oClkT5 : Oper := { dst := some 46, op := .load 3 (.tmp 45), type := 3, pos := "l09_cluster.go:34", after := #[{ on := 4, ground := .data }], guard := none }
abbrev oClkT6 : Oper := { dst := some 47, op := .move (.tmp 4), type := 3, pos := "l09_cluster.go:34", after := #[], guard := none }
abbrev oClkT7 : Oper := { dst := some 48, op := .binOp .neq 3 (.tmp 46) (.tmp 47) 3, type := 4, pos := "l09_cluster.go:34", after := #[{ on := 5, ground := .data }, { on := 6, ground := .data }], guard := none }
abbrev oClkT8 : Oper := { dst := some 49, op := .move (.tmp 48), type := 4, pos := "l09_cluster.go:34", after := #[{ on := 7, ground := .data }], guard := none }
abbrev oClkT9 : Oper := { dst := some 50, op := .fieldAddr 35 (.tmp 1) 0, type := 0, pos := "l09_cluster.go:34", after := #[{ on := 8, ground := .guard }], guard := some (8, false) }
abbrev oClkT10 : Oper := { dst := some 51, op := .load 31 (.tmp 50), type := 31, pos := "l09_cluster.go:34", after := #[{ on := 9, ground := .data }, { on := 8, ground := .guard }], guard := some (8, false) }
abbrev oClkT11 : Oper := { dst := some 52, op := .move (.tmp 4), type := 3, pos := "l09_cluster.go:34", after := #[{ on := 8, ground := .guard }], guard := some (8, false) }
abbrev oClkT12 : Oper := { dst := some 53, op := .indexAddr 31 (.tmp 51) (.tmp 52), type := 0, pos := "l09_cluster.go:34", after := #[{ on := 10, ground := .data }, { on := 11, ground := .data }, { on := 8, ground := .guard }], guard := some (8, false) }
abbrev oClkT13 : Oper := { dst := some 54, op := .fieldAddr 71 (.tmp 53) 1, type := 0, pos := "l09_cluster.go:34", after := #[{ on := 12, ground := .data }, { on := 8, ground := .guard }], guard := some (8, false) }
abbrev oClkT14 : Oper := { dst := some 55, op := .load 3 (.tmp 54), type := 3, pos := "l09_cluster.go:34", after := #[{ on := 13, ground := .data }, { on := 8, ground := .guard }], guard := some (8, false) }
abbrev oClkT15 : Oper := { dst := some 56, op := .move (.tmp 3), type := 3, pos := "l09_cluster.go:34", after := #[{ on := 8, ground := .guard }], guard := some (8, false) }
abbrev oClkT16 : Oper := { dst := some 57, op := .binOp .neq 3 (.tmp 55) (.tmp 56) 3, type := 4, pos := "l09_cluster.go:34", after := #[{ on := 14, ground := .data }, { on := 15, ground := .data }, { on := 8, ground := .guard }], guard := some (8, false) }
abbrev oClkT17 : Oper := { dst := some 58, op := .pick (.tmp 49) (.const (.bool true)) (.tmp 57), type := 4, pos := "l09_cluster.go:34", after := #[{ on := 8, ground := .data }, { on := 16, ground := .data }], guard := none }
abbrev oClkT18 : Oper := { dst := some 59, op := .move (.tmp 58), type := 4, pos := "l09_cluster.go:34", after := #[{ on := 17, ground := .data }, { on := 8, ground := .chain }], guard := none }
abbrev oClkT19 : Oper := { dst := some 60, op := .fieldAddr 35 (.tmp 1) 0, type := 0, pos := "l09_cluster.go:34", after := #[{ on := 18, ground := .guard }], guard := some (18, false) }
abbrev oClkT20 : Oper := { dst := some 61, op := .load 31 (.tmp 60), type := 31, pos := "l09_cluster.go:34", after := #[{ on := 19, ground := .data }, { on := 18, ground := .guard }], guard := some (18, false) }
abbrev oClkT21 : Oper := { dst := some 62, op := .move (.tmp 4), type := 3, pos := "l09_cluster.go:34", after := #[{ on := 18, ground := .guard }], guard := some (18, false) }
abbrev oClkT22 : Oper := { dst := some 63, op := .indexAddr 31 (.tmp 61) (.tmp 62), type := 0, pos := "l09_cluster.go:34", after := #[{ on := 20, ground := .data }, { on := 21, ground := .data }, { on := 18, ground := .guard }], guard := some (18, false) }
abbrev oClkT23 : Oper := { dst := some 64, op := .load 71 (.tmp 63), type := 71, pos := "l09_cluster.go:34", after := #[{ on := 22, ground := .data }, { on := 18, ground := .guard }], guard := some (18, false) }
abbrev oClkT24 : Oper := { dst := some 65, op := .call { callee := .value (.func 36), args := #[.tmp 64], argTypes := #[71] }, type := 4, pos := "l09_cluster.go:34", after := #[{ on := 23, ground := .data }, { on := 18, ground := .chain }, { on := 18, ground := .guard }], guard := some (18, false) }
abbrev oClkT25 : Oper := { dst := some 66, op := .unOp .not 4 (.tmp 65), type := 4, pos := "l09_cluster.go:34", after := #[{ on := 24, ground := .data }, { on := 18, ground := .guard }], guard := some (18, false) }
abbrev oClkT26 : Oper := { dst := some 67, op := .pick (.tmp 59) (.const (.bool true)) (.tmp 66), type := 4, pos := "l09_cluster.go:34", after := #[{ on := 18, ground := .data }, { on := 25, ground := .data }], guard := none }
abbrev oClkT27 : Oper := { dst := some 68, op := .move (.tmp 67), type := 4, pos := "l09_cluster.go:34", after := #[{ on := 26, ground := .data }, { on := 24, ground := .chain }], guard := none }
abbrev oClkT28 : Oper := { dst := some 69, op := .fieldAddr 35 (.tmp 1) 1, type := 0, pos := "l09_cluster.go:34", after := #[{ on := 27, ground := .guard }], guard := some (27, false) }
abbrev oClkT29 : Oper := { dst := some 70, op := .load 32 (.tmp 69), type := 32, pos := "l09_cluster.go:34", after := #[{ on := 28, ground := .data }, { on := 27, ground := .guard }], guard := some (27, false) }
abbrev oClkT30 : Oper := { dst := some 71, op := .move (.tmp 4), type := 3, pos := "l09_cluster.go:34", after := #[{ on := 27, ground := .guard }], guard := some (27, false) }
abbrev oClkT31 : Oper := { dst := some 72, op := .indexAddr 32 (.tmp 70) (.tmp 71), type := 0, pos := "l09_cluster.go:34", after := #[{ on := 29, ground := .data }, { on := 30, ground := .data }, { on := 27, ground := .guard }], guard := some (27, false) }
abbrev oClkT32 : Oper := { dst := some 73, op := .load 74 (.tmp 72), type := 74, pos := "l09_cluster.go:34", after := #[{ on := 31, ground := .data }, { on := 27, ground := .guard }], guard := some (27, false) }
abbrev oClkT33 : Oper := { dst := some 74, op := .call { callee := .value (.func 37), args := #[.tmp 73], argTypes := #[74] }, type := 4, pos := "l09_cluster.go:34", after := #[{ on := 32, ground := .data }, { on := 27, ground := .chain }, { on := 27, ground := .guard }], guard := some (27, false) }
abbrev oClkT34 : Oper := { dst := some 75, op := .unOp .not 4 (.tmp 74), type := 4, pos := "l09_cluster.go:34", after := #[{ on := 33, ground := .data }, { on := 27, ground := .guard }], guard := some (27, false) }
abbrev oClkT35 : Oper := { dst := some 76, op := .pick (.tmp 68) (.const (.bool true)) (.tmp 75), type := 4, pos := "l09_cluster.go:34", after := #[{ on := 27, ground := .data }, { on := 34, ground := .data }], guard := none }
abbrev oClkT36 : Oper := { dst := some 77, op := .move (.tmp 76), type := 4, pos := "l09_cluster.go:34", after := #[{ on := 35, ground := .data }, { on := 33, ground := .chain }], guard := none }
abbrev oClkT37 : Oper := { dst := some 78, op := .fieldAddr 35 (.tmp 1) 1, type := 0, pos := "l09_cluster.go:34", after := #[{ on := 36, ground := .guard }], guard := some (36, false) }
abbrev oClkT38 : Oper := { dst := some 79, op := .load 32 (.tmp 78), type := 32, pos := "l09_cluster.go:34", after := #[{ on := 37, ground := .data }, { on := 36, ground := .guard }], guard := some (36, false) }
abbrev oClkT39 : Oper := { dst := some 80, op := .move (.tmp 4), type := 3, pos := "l09_cluster.go:34", after := #[{ on := 36, ground := .guard }], guard := some (36, false) }
abbrev oClkT40 : Oper := { dst := some 81, op := .indexAddr 32 (.tmp 79) (.tmp 80), type := 0, pos := "l09_cluster.go:34", after := #[{ on := 38, ground := .data }, { on := 39, ground := .data }, { on := 36, ground := .guard }], guard := some (36, false) }
abbrev oClkT41 : Oper := { dst := some 82, op := .fieldAddr 74 (.tmp 81) 1, type := 0, pos := "l09_cluster.go:34", after := #[{ on := 40, ground := .data }, { on := 36, ground := .guard }], guard := some (36, false) }
abbrev oClkT42 : Oper := { dst := some 83, op := .load 3 (.tmp 82), type := 3, pos := "l09_cluster.go:34", after := #[{ on := 41, ground := .data }, { on := 36, ground := .guard }], guard := some (36, false) }
abbrev oClkT43 : Oper := { dst := some 84, op := .fieldAddr 35 (.tmp 1) 1, type := 0, pos := "l09_cluster.go:34", after := #[{ on := 36, ground := .guard }], guard := some (36, false) }
abbrev oClkT44 : Oper := { dst := some 85, op := .load 32 (.tmp 84), type := 32, pos := "l09_cluster.go:34", after := #[{ on := 43, ground := .data }, { on := 36, ground := .guard }], guard := some (36, false) }
abbrev oClkT45 : Oper := { dst := some 86, op := .move (.tmp 4), type := 3, pos := "l09_cluster.go:34", after := #[{ on := 36, ground := .guard }], guard := some (36, false) }
abbrev oClkT46 : Oper := { dst := some 87, op := .indexAddr 32 (.tmp 85) (.tmp 86), type := 0, pos := "l09_cluster.go:34", after := #[{ on := 44, ground := .data }, { on := 45, ground := .data }, { on := 36, ground := .guard }], guard := some (36, false) }
abbrev oClkT47 : Oper := { dst := some 88, op := .fieldAddr 74 (.tmp 87) 0, type := 0, pos := "l09_cluster.go:34", after := #[{ on := 46, ground := .data }, { on := 36, ground := .guard }], guard := some (36, false) }
abbrev oClkT48 : Oper := { dst := some 89, op := .load 9 (.tmp 88), type := 9, pos := "l09_cluster.go:34", after := #[{ on := 47, ground := .data }, { on := 36, ground := .guard }], guard := some (36, false) }
abbrev oClkT49 : Oper := { dst := some 90, op := .call { callee := .builtin Go.Builtin.len, args := #[.tmp 89], argTypes := #[9] }, type := 3, pos := "l09_cluster.go:34", after := #[{ on := 48, ground := .data }, { on := 36, ground := .guard }], guard := some (36, false) }
abbrev oClkT50 : Oper := { dst := some 91, op := .binOp .neq 3 (.tmp 83) (.tmp 90) 3, type := 4, pos := "l09_cluster.go:34", after := #[{ on := 42, ground := .data }, { on := 49, ground := .data }, { on := 36, ground := .guard }], guard := some (36, false) }
abbrev oClkT51 : Oper := { dst := some 92, op := .pick (.tmp 77) (.const (.bool true)) (.tmp 91), type := 4, pos := "l09_cluster.go:34", after := #[{ on := 36, ground := .data }, { on := 50, ground := .data }], guard := none }
abbrev oClkT52 : Oper := { dst := some 103, op := .move (.tmp 7), type := 3, pos := "l09_cluster.go:38", after := #[], guard := none }
abbrev oClkT53 : Oper := { dst := some 104, op := .binOp .neq 3 (.tmp 103) (.const (.int .i64 0)) 3, type := 4, pos := "l09_cluster.go:38", after := #[{ on := 0, ground := .data }], guard := none }
abbrev oClkT54 : Oper := { dst := some 105, op := .move (.tmp 104), type := 4, pos := "l09_cluster.go:38", after := #[{ on := 1, ground := .data }], guard := none }
abbrev oClkT55 : Oper := { dst := some 106, op := .fieldAddr 74 (.tmp 6) 1, type := 0, pos := "l09_cluster.go:38", after := #[{ on := 2, ground := .guard }], guard := some (2, false) }
abbrev oClkT56 : Oper := { dst := some 107, op := .load 3 (.tmp 106), type := 3, pos := "l09_cluster.go:38", after := #[{ on := 3, ground := .data }, { on := 2, ground := .guard }], guard := some (2, false) }
abbrev oClkT57 : Oper := { dst := some 108, op := .fieldAddr 35 (.tmp 1) 1, type := 0, pos := "l09_cluster.go:38", after := #[{ on := 2, ground := .guard }], guard := some (2, false) }
abbrev oClkT58 : Oper := { dst := some 109, op := .load 32 (.tmp 108), type := 32, pos := "l09_cluster.go:38", after := #[{ on := 5, ground := .data }, { on := 2, ground := .guard }], guard := some (2, false) }
abbrev oClkT59 : Oper := { dst := some 110, op := .move (.tmp 4), type := 3, pos := "l09_cluster.go:38", after := #[{ on := 2, ground := .guard }], guard := some (2, false) }
abbrev oClkT60 : Oper := { dst := some 111, op := .indexAddr 32 (.tmp 109) (.tmp 110), type := 0, pos := "l09_cluster.go:38", after := #[{ on := 6, ground := .data }, { on := 7, ground := .data }, { on := 2, ground := .guard }], guard := some (2, false) }
abbrev oClkT61 : Oper := { dst := some 112, op := .fieldAddr 74 (.tmp 111) 1, type := 0, pos := "l09_cluster.go:38", after := #[{ on := 8, ground := .data }, { on := 2, ground := .guard }], guard := some (2, false) }
abbrev oClkT62 : Oper := { dst := some 113, op := .load 3 (.tmp 112), type := 3, pos := "l09_cluster.go:38", after := #[{ on := 9, ground := .data }, { on := 2, ground := .guard }], guard := some (2, false) }
abbrev oClkT63 : Oper := { dst := some 114, op := .binOp .neq 3 (.tmp 107) (.tmp 113) 3, type := 4, pos := "l09_cluster.go:38", after := #[{ on := 4, ground := .data }, { on := 10, ground := .data }, { on := 2, ground := .guard }], guard := some (2, false) }
abbrev oClkT64 : Oper := { dst := some 115, op := .pick (.tmp 105) (.const (.bool true)) (.tmp 114), type := 4, pos := "l09_cluster.go:38", after := #[{ on := 2, ground := .data }, { on := 11, ground := .data }], guard := none }
abbrev oClkT65 : Oper := { dst := some 116, op := .move (.tmp 115), type := 4, pos := "l09_cluster.go:38", after := #[{ on := 12, ground := .data }, { on := 2, ground := .chain }], guard := none }
abbrev oClkT66 : Oper := { dst := some 117, op := .load 76 (.tmp 5), type := 76, pos := "l09_cluster.go:38", after := #[{ on := 13, ground := .guard }], guard := some (13, false) }
abbrev oClkT67 : Oper := { dst := some 118, op := .fieldAddr 35 (.tmp 1) 0, type := 0, pos := "l09_cluster.go:38", after := #[{ on := 13, ground := .guard }], guard := some (13, false) }
abbrev oClkT68 : Oper := { dst := some 119, op := .load 31 (.tmp 118), type := 31, pos := "l09_cluster.go:38", after := #[{ on := 15, ground := .data }, { on := 13, ground := .guard }], guard := some (13, false) }
abbrev oClkT69 : Oper := { dst := some 120, op := .move (.tmp 4), type := 3, pos := "l09_cluster.go:38", after := #[{ on := 13, ground := .guard }], guard := some (13, false) }
abbrev oClkT70 : Oper := { dst := some 121, op := .indexAddr 31 (.tmp 119) (.tmp 120), type := 0, pos := "l09_cluster.go:38", after := #[{ on := 16, ground := .data }, { on := 17, ground := .data }, { on := 13, ground := .guard }], guard := some (13, false) }
abbrev oClkT71 : Oper := { dst := some 122, op := .load 71 (.tmp 121), type := 71, pos := "l09_cluster.go:38", after := #[{ on := 18, ground := .data }, { on := 13, ground := .guard }], guard := some (13, false) }
abbrev oClkT72 : Oper := { dst := some 123, op := .call { callee := .value (.func 40), args := #[.tmp 122], argTypes := #[71] }, type := 76, pos := "l09_cluster.go:38", after := #[{ on := 19, ground := .data }, { on := 13, ground := .chain }, { on := 13, ground := .guard }], guard := some (13, false) }
abbrev oClkT73 : Oper := { dst := some 124, op := .call { callee := .value (.func 39), args := #[.tmp 117, .tmp 123], argTypes := #[76, 76] }, type := 4, pos := "l09_cluster.go:38", after := #[{ on := 14, ground := .data }, { on := 20, ground := .data }, { on := 20, ground := .chain }, { on := 13, ground := .guard }], guard := some (13, false) }
abbrev oClkT74 : Oper := { dst := some 125, op := .unOp .not 4 (.tmp 124), type := 4, pos := "l09_cluster.go:38", after := #[{ on := 21, ground := .data }, { on := 13, ground := .guard }], guard := some (13, false) }
abbrev oClkT75 : Oper := { dst := some 126, op := .pick (.tmp 116) (.const (.bool true)) (.tmp 125), type := 4, pos := "l09_cluster.go:38", after := #[{ on := 13, ground := .data }, { on := 22, ground := .data }], guard := none }
set_option maxHeartbeats 4000000 in
set_option maxRecDepth 100000 in
theorem sclusterok (nv sv wv dv : Value) (c : Clu) (HF : Hid (c.fits 1048576)) (R : Bool) (HR : Hid (R = cluB c.nds c.sts c.wire c.done)) (w : World) (h : CluR w nv sv wv dv c) :
  Calls Tryz.prog 17 #[.agg #[nv, sv, wv, dv]] w fun e w' => e = .returned (.bool R) ∧ Below w.heap.size w w' := by
 obtain ⟨an, kn, sa, ks, aw, kw, ad, kd, rfl, rfl, rfl, rfl, h1, h2, h3, h4, h5, h6⟩ := h.parts
 obtain ⟨⟨f1, f2, f3, f4⟩, g1, g2, g3, g4⟩ := unhide HF
 obtain ⟨N, S, W, D⟩ := c
 simp only at *
 have G1 := hide g1
 have G2 := hide g2
 have G3 := hide g3
 have G4 := hide g4
 obtain ⟨nn, hnn⟩ : ∃ n, N.length = n := ⟨_, rfl⟩
 obtain ⟨ns, hns⟩ : ∃ n, S.length = n := ⟨_, rfl⟩
 obtain ⟨nw, hnw⟩ : ∃ n, W.length = n := ⟨_, rfl⟩
 obtain ⟨nd, hnd⟩ : ∃ n, D.length = n := ⟨_, rfl⟩
 have HNN : Hid (N.length = nn) := hnn
 have HNS : Hid (S.length = ns) := hns
 have HNW : Hid (W.length = nw) := hnw
 have HND : Hid (D.length = nd) := hnd
 have HR2 : Hid (R = (inB nn 1 5 && decide (ns = nn) && nodesB nn 0 N S && (decide (nw ≤ 60) && wireB nn W) && (decide (nd ≤ 60) && doneB D))) := by show _ = _; rw [unhide HR]; unfold cluB; rw [hnn, hns, hnw, hnd]
 simp only [hnn, hns, hnw, hnd] at f1 f2 f3 f4 ⊢
 have B0 := hide (Go.Joins.below_alloc1 w (Obj.cells #[.slice an nn kn, .slice sa ns ks, .slice aw nw kw, .slice ad nd kd] 35))
 have C0 := hide (BF.new w #[.slice an nn kn, .slice sa ns ks, .slice aw nw kw, .slice ad nd kd] 35)
 have H1 := hide h1
 have H2 := hide h2
 have H3 := hide h3
 have H4 := hide h4
 have H5 := hide h5
 have H6 := hide h6
 have L1 := hide (flat_len (c := cN) (z := 13) (fun p => rfl) N)
 have L2 := hide (flat_len (c := cSt) (z := 2) (fun p => rfl) S)
 have L3 := hide (flat_len (c := cM) (z := 9) (fun p => rfl) W)
 obtain ⟨b1, hb1⟩ : ∃ b, b = inB (nn : Int) 1 5 := ⟨_, rfl⟩
 obtain ⟨r3, hb3⟩ : ∃ b, b = nodesB nn 0 N S := ⟨_, rfl⟩
 obtain ⟨r4, hb4⟩ : ∃ b, b = wireB nn W := ⟨_, rfl⟩
 obtain ⟨r5, hb5⟩ : ∃ b, b = doneB D := ⟨_, rfl⟩
 have HQ1 := hide hb1
 have HQ3 := hide hb3
 have HQ4 := hide hb4
 have HQ5 := hide hb5
 have HR3 : Hid (R = (b1 && decide (ns = nn) && r3 && (decide (nw ≤ 60) && r4) && (decide (nd ≤ 60) && r5))) := by show _ = _; rw [unhide HR2, hb1, hb3, hb4, hb5]
 clear hnn hns hnw hnd h1 h2 h3 h4 h5 h6 h g1 g2 g3 g4 hb1 hb3 hb4 hb5 HR HR2 HF
 have cc := (unhide C0).S
 go_enter Tryz.func17, Tryz.ntmps17
 go_wp2_with fail
 refine (snodes (nn : Int) _).mono ?_
 rintro e w1 ⟨rfl, rfl⟩
 rw [← unhide HQ1]
 cases b1
 ·have HD : Hid (R = false) := by show _ = _; rw [unhide HR3]; simp
  go_wp2_with fail
  go_ret
  exact ⟨by rw [unhide HD]; rfl, unhide B0⟩
 have h15 : 1 ≤ (nn : Int) ∧ (nn : Int) ≤ 5 := of_decide_eq_true (unhide HQ1).symm
 have hn5 : nn ≤ 5 := by omega
 clear h15 HQ1
 by_cases hq : ns = nn
 case neg =>
  have HD : Hid (R = false) := by show _ = _; rw [unhide HR3, decide_eq_false hq]; simp
  have g1 : ((ns : Int) != (nn : Int)) = true := by simpa using (fun h => hq (by omega))
  go_wp2_with fail
  go_ret
  exact ⟨by rw [unhide HD]; rfl, unhide B0⟩
 by_cases hw6 : nw ≤ 60
 case neg =>
  have HD : Hid (R = false) := by show _ = _; rw [unhide HR3, decide_eq_false hw6]; simp
  have g1 : ((ns : Int) != (nn : Int)) = false := by rw [hq]; simp
  have g2 : (60 : Int) < (nw : Int) := by omega
  clear hq
  go_wp2_with fail
  go_ret
  exact ⟨by rw [unhide HD]; rfl, unhide B0⟩
 by_cases hd6 : nd ≤ 60
 case neg =>
  have HD : Hid (R = false) := by show _ = _; rw [unhide HR3, decide_eq_false hd6]; simp
  have g1 : ((ns : Int) != (nn : Int)) = false := by rw [hq]; simp
  have g2 : ¬ (60 : Int) < (nw : Int) := by omega
  have g3 : (60 : Int) < (nd : Int) := by omega
  clear hq
  go_wp2_with fail
  go_ret
  exact ⟨by rw [unhide HD]; rfl, unhide B0⟩
 have HR4 : Hid (R = (r3 && r4 && r5)) := by show _ = _; rw [unhide HR3, decide_eq_true hq, decide_eq_true hw6, decide_eq_true hd6]; simp
 obtain rfl := hq
 have g1 : ((ns : Int) != (ns : Int)) = false := by simp
 have g2 : ¬ (60 : Int) < (nw : Int) := by omega
 have g3 : ¬ (60 : Int) < (nd : Int) := by omega
 go_wp2_with fail
 clear cc g1 g2 g3 HR3
 go_loopw [4] (fun i wr => ∃ k : Nat, k ≤ ns ∧ i = .int .i64 k ∧ Hid (r3 = nodesB ns k (N.drop k) (S.drop k)) ∧ Hid (Below w.heap.size w wr) ∧ Hid (BF w.heap.size #[.slice an ns kn, .slice sa ns ks, .slice aw nw kw, .slice ad nd kd] wr)) (fun i _ => ns - (intOf i).toNat)
 case atStart => exact ⟨0, by omega, rfl, HQ3, B0, C0⟩
 case round =>
  obtain ⟨k, hk, rfl, HD, HB, HC⟩ := hrel
  clear B0 C0
  by_cases hlt : k < ns
  ·have hkn : k < N.length := by rw [unhide HNN]; exact hlt
   have hks : k < S.length := by rw [unhide HNS]; exact hlt
   obtain ⟨b, off, rfl, hblt, hcn⟩ := (unhide H1).at (by rw [unhide L1, unhide HNN]; omega)
   obtain ⟨sb, so, rfl, hslt, hcs⟩ := (unhide H3).at (by rw [unhide L2, unhide HNS]; omega)
   have m1 := (row_N13 hcn k hkn).below (unhide HB) hblt
   have m2 := (row_S2 hcs k hks).below (unhide HB) hslt
   have hfit := unhide G1 _ (List.getElem_mem hkn)
   have hrd := nd_rows (fun r hr => (unhide H2 _ (List.getElem_mem hkn) r hr).below (unhide HB))
   have hdz := unhide G2 _ (List.getElem_mem hks)
   have HD2 : Hid (r3 = (oneB ns k N[k].n S[k] && nodesB ns (k + 1) (N.drop (k + 1)) (S.drop (k + 1)))) := by show _ = _; rw [unhide HD]; exact nodes_step hkn hks
   have LB := hide (Nat.lt_of_lt_of_le hblt (unhide HB).size)
   have LS := hide (Nat.lt_of_lt_of_le hslt (unhide HB).size)
   clear HD hcn hcs hslt hblt
   generalize N[k] = p at m1 hfit hrd HD2
   generalize S[k] = q at m2 hdz HD2
   obtain ⟨⟨id, nd1, tm, vt, ro, up, l, cm, el, wt, lv, lx, lg⟩, ea, ec, va, vc, xa, xc, ga, gc⟩ := p
   obtain ⟨d, s⟩ := q
   obtain ⟨f0, fv, fx, fg, fs⟩ := hfit
   obtain ⟨n0, hnn0⟩ : ∃ n0, l.length = n0 := ⟨_, rfl⟩
   have HN0 : Hid (l.length = n0) := hnn0
   obtain ⟨nv, hnnv⟩ : ∃ nv, lv.length = nv := ⟨_, rfl⟩
   have HNv : Hid (lv.length = nv) := hnnv
   obtain ⟨nx, hnnx⟩ : ∃ nx, lx.length = nx := ⟨_, rfl⟩
   have HNx : Hid (lx.length = nx) := hnnx
   obtain ⟨ng, hnng⟩ : ∃ ng, lg.length = ng := ⟨_, rfl⟩
   have HNg : Hid (lg.length = ng) := hnng
   simp only [hnn0, hnnv, hnnx, hnng] at f0 fv fx fg
   unfold N13 at m1
   unfold S2 at m2
   simp only [hnn0, hnnv, hnnx, hnng] at m1
   simp only at m2 hdz
   have FS : Hid (∀ k (h : k < l.length), l[k].2.size ≤ 1048576) := fs
   have HDS : Hid (d.size ≤ maxLen) := by show _ ≤ _; unfold maxLen; omega
   have HDZ := hide hdz
   obtain ⟨b1, hb1⟩ : ∃ b1, b1 = nodeB id nd1 tm vt ro cm el wt up l lv lx lg := ⟨_, rfl⟩
   obtain ⟨b3, hb3⟩ : ∃ b3, b3 = stoB d s := ⟨_, rfl⟩
   have HB1 := hide hb1
   have HB2 := hide hb3
   have HD3 : Hid (r3 = (decide (id = (k : Int)) && decide (nd1 = (ns : Int)) && b1 && ldB d s tm vt l && nodesB ns (k + 1) (N.drop (k + 1)) (S.drop (k + 1)))) := by show _ = _; rw [unhide HD2]; unfold oneB; simp only; rw [hb1]
   have i1 : (k : Int) < (ns : Int) := by omega
   have i0 : (0 : Int) ≤ (k : Int) := by omega
   have E0 := hide hrd.1
   have Ev := hide hrd.2.1
   have Ex := hide hrd.2.2.1
   have Eg := hide hrd.2.2.2
   have M1 := hide m1
   have M2 := hide m2
   have SK : Hid (∀ w2, Below wr.heap.size wr w2 → (fun w' => (∀ o, w'.cell? ⟨w.heap.size, o, none⟩ = (#[.slice (some ⟨b, off, none⟩) ns kn, .slice (some ⟨sb, so, none⟩) ns ks, .slice aw nw kw, .slice ad nd kd] : Array Value)[o]?) ∧ (w'.cell? ⟨b, off + k * 13, none⟩ = some (.int .i64 id) ∧ w'.cell? ⟨b, off + k * 13 + 1, none⟩ = some (.int .i64 nd1) ∧ w'.cell? ⟨b, off + k * 13 + 2, none⟩ = some (.int .i64 tm) ∧ w'.cell? ⟨b, off + k * 13 + 3, none⟩ = some (.int .i64 vt) ∧ w'.cell? ⟨b, off + k * 13 + 4, none⟩ = some (.int .i64 ro) ∧ w'.cell? ⟨b, off + k * 13 + 5, none⟩ = some (.bool up) ∧ w'.cell? ⟨b, off + k * 13 + 6, none⟩ = some (.slice ea n0 ec) ∧ w'.cell? ⟨b, off + k * 13 + 7, none⟩ = some (.int .i64 cm) ∧ w'.cell? ⟨b, off + k * 13 + 8, none⟩ = some (.int .i64 el) ∧ w'.cell? ⟨b, off + k * 13 + 9, none⟩ = some (.int .i64 wt) ∧ w'.cell? ⟨b, off + k * 13 + 10, none⟩ = some (.slice va nv vc) ∧ w'.cell? ⟨b, off + k * 13 + 11, none⟩ = some (.slice xa nx xc) ∧ w'.cell? ⟨b, off + k * 13 + 12, none⟩ = some (.slice ga ng gc)) ∧ (w'.cell? ⟨sb, so + k * 2, none⟩ = some (.string d) ∧ w'.cell? ⟨sb, so + k * 2 + 1, none⟩ = some (.int .i64 s))) w2) := fun w2 hb => by
    have q1 : ∀ j u, wr.cell? ⟨b, j, none⟩ = some u → w2.cell? ⟨b, j, none⟩ = some u := fun j u hu => (hb.cell (p := ⟨b, j, none⟩) (unhide LB)).trans hu
    have q2 : ∀ j u, wr.cell? ⟨sb, j, none⟩ = some u → w2.cell? ⟨sb, j, none⟩ = some u := fun j u hu => (hb.cell (p := ⟨sb, j, none⟩) (unhide LS)).trans hu
    obtain ⟨x0, x1, x2, x3, x4, x5, x6, x7, x8, x9, x10, x11, x12⟩ := unhide M1
    exact ⟨((unhide HC).below hb).S, ⟨q1 _ _ x0, q1 _ _ x1, q1 _ _ x2, q1 _ _ x3, q1 _ _ x4, q1 _ _ x5, q1 _ _ x6, q1 _ _ x7, q1 _ _ x8, q1 _ _ x9, q1 _ _ x10, q1 _ _ x11, q1 _ _ x12⟩, q2 _ _ (unhide M2).1, q2 _ _ (unhide M2).2⟩
   have TD : Hid (Below wr.heap.size wr wr.drew) := (Below.refl _ _).drew
   have cc := (unhide HC).S
   clear m1 m2 hrd hdz HD2 hb1 hb3 hnn0 hnnv hnnx hnng fs hkn hks H1 H2 H3 L1 L2
   go_wp2_with fail
   clear cc
   by_cases q1 : id = (k : Int)
   case neg =>
    have g1 : (id != (k : Int)) = true := by simpa using q1
    have HD4 : Hid (R = false) := by show _ = _; rw [unhide HR4, unhide HD3, decide_eq_false q1]; simp
    clear q1 HD3
    refine wp_region_held_drew (S := fun w' => (∀ o, w'.cell? ⟨w.heap.size, o, none⟩ = (#[.slice (some ⟨b, off, none⟩) ns kn, .slice (some ⟨sb, so, none⟩) ns ks, .slice aw nw kw, .slice ad nd kd] : Array Value)[o]?) ∧ (w'.cell? ⟨b, off + k * 13, none⟩ = some (.int .i64 id) ∧ w'.cell? ⟨b, off + k * 13 + 1, none⟩ = some (.int .i64 nd1) ∧ w'.cell? ⟨b, off + k * 13 + 2, none⟩ = some (.int .i64 tm) ∧ w'.cell? ⟨b, off + k * 13 + 3, none⟩ = some (.int .i64 vt) ∧ w'.cell? ⟨b, off + k * 13 + 4, none⟩ = some (.int .i64 ro) ∧ w'.cell? ⟨b, off + k * 13 + 5, none⟩ = some (.bool up) ∧ w'.cell? ⟨b, off + k * 13 + 6, none⟩ = some (.slice ea n0 ec) ∧ w'.cell? ⟨b, off + k * 13 + 7, none⟩ = some (.int .i64 cm) ∧ w'.cell? ⟨b, off + k * 13 + 8, none⟩ = some (.int .i64 el) ∧ w'.cell? ⟨b, off + k * 13 + 9, none⟩ = some (.int .i64 wt) ∧ w'.cell? ⟨b, off + k * 13 + 10, none⟩ = some (.slice va nv vc) ∧ w'.cell? ⟨b, off + k * 13 + 11, none⟩ = some (.slice xa nx xc) ∧ w'.cell? ⟨b, off + k * 13 + 12, none⟩ = some (.slice ga ng gc)) ∧ (w'.cell? ⟨sb, so + k * 2, none⟩ = some (.string d) ∧ w'.cell? ⟨sb, so + k * 2 + 1, none⟩ = some (.int .i64 s))) (by kernel_rfl) (unhide SK _ (unhide TD)) (fun hHeld => ?_)
    generalize wr.drew = wd at TD hHeld ⊢
    refine wtv 0 (oi := oClkT0) ?_
    refine wtv 1 (oi := oClkT1) ?_
    refine wtv 2 (oi := oClkT2) ?_
    refine wtv 3 (oi := oClkT3) ?_
    refine wtv 4 (oi := oClkT4) ?_
    refine wtv 5 (oi := oClkT5) ?_
    refine wtv 6 (oi := oClkT6) ?_
    refine wtv 7 (oi := oClkT7) ?_
    refine wtv 8 (oi := oClkT8) ?_
    refine wtu 9 (oi := oClkT9) ?_
    refine wtu 10 (oi := oClkT10) ?_
    refine wtu 11 (oi := oClkT11) ?_
    refine wtu 12 (oi := oClkT12) ?_
    refine wtu 13 (oi := oClkT13) ?_
    refine wtu 14 (oi := oClkT14) ?_
    refine wtu 15 (oi := oClkT15) ?_
    refine wtu 16 (oi := oClkT16) ?_
    refine wtv 17 (oi := oClkT17) ?_
    refine wtv 18 (oi := oClkT18) ?_
    refine wtu 19 (oi := oClkT19) ?_
    refine wtu 20 (oi := oClkT20) ?_
    refine wtu 21 (oi := oClkT21) ?_
    refine wtu 22 (oi := oClkT22) ?_
    refine wtu 23 (oi := oClkT23) ?_
    refine wtu 24 (oi := oClkT24) ?_
    refine wtu 25 (oi := oClkT25) ?_
    refine wtv 26 (oi := oClkT26) ?_
    refine wtv 27 (oi := oClkT27) ?_
    refine wtu 28 (oi := oClkT28) ?_
    refine wtu 29 (oi := oClkT29) ?_
    refine wtu 30 (oi := oClkT30) ?_
    refine wtu 31 (oi := oClkT31) ?_
    refine wtu 32 (oi := oClkT32) ?_
    refine wtu 33 (oi := oClkT33) ?_
    refine wtu 34 (oi := oClkT34) ?_
    refine wtv 35 (oi := oClkT35) ?_
    refine wtv 36 (oi := oClkT36) ?_
    refine wtu 37 (oi := oClkT37) ?_
    refine wtu 38 (oi := oClkT38) ?_
    refine wtu 39 (oi := oClkT39) ?_
    refine wtu 40 (oi := oClkT40) ?_
    refine wtu 41 (oi := oClkT41) ?_
    refine wtu 42 (oi := oClkT42) ?_
    refine wtu 43 (oi := oClkT43) ?_
    refine wtu 44 (oi := oClkT44) ?_
    refine wtu 45 (oi := oClkT45) ?_
    refine wtu 46 (oi := oClkT46) ?_
    refine wtu 47 (oi := oClkT47) ?_
    refine wtu 48 (oi := oClkT48) ?_
    refine wtu 49 (oi := oClkT49) ?_
    refine wtu 50 (oi := oClkT50) ?_
    refine wtv 51 (oi := oClkT51) ?_
    refine wpAnyH_done (by kernel_rfl) ?_ _
    have BR := hide ((unhide HB).trans ((unhide TD).mono (unhide HB).size))
    clear SK TD hHeld HB HC
    go_wp2_with fail
    go_ret
    exact ⟨by rw [unhide HD4]; rfl, unhide BR⟩
   by_cases q2 : nd1 = (ns : Int)
   case neg =>
    have g1 : (id != (k : Int)) = false := by simpa using q1
    have g2 : (nd1 != (ns : Int)) = true := by simpa using q2
    have HD4 : Hid (R = false) := by show _ = _; rw [unhide HR4, unhide HD3, decide_eq_false q2]; simp
    clear q1 q2 HD3
    refine wp_region_held_drew (S := fun w' => (∀ o, w'.cell? ⟨w.heap.size, o, none⟩ = (#[.slice (some ⟨b, off, none⟩) ns kn, .slice (some ⟨sb, so, none⟩) ns ks, .slice aw nw kw, .slice ad nd kd] : Array Value)[o]?) ∧ (w'.cell? ⟨b, off + k * 13, none⟩ = some (.int .i64 id) ∧ w'.cell? ⟨b, off + k * 13 + 1, none⟩ = some (.int .i64 nd1) ∧ w'.cell? ⟨b, off + k * 13 + 2, none⟩ = some (.int .i64 tm) ∧ w'.cell? ⟨b, off + k * 13 + 3, none⟩ = some (.int .i64 vt) ∧ w'.cell? ⟨b, off + k * 13 + 4, none⟩ = some (.int .i64 ro) ∧ w'.cell? ⟨b, off + k * 13 + 5, none⟩ = some (.bool up) ∧ w'.cell? ⟨b, off + k * 13 + 6, none⟩ = some (.slice ea n0 ec) ∧ w'.cell? ⟨b, off + k * 13 + 7, none⟩ = some (.int .i64 cm) ∧ w'.cell? ⟨b, off + k * 13 + 8, none⟩ = some (.int .i64 el) ∧ w'.cell? ⟨b, off + k * 13 + 9, none⟩ = some (.int .i64 wt) ∧ w'.cell? ⟨b, off + k * 13 + 10, none⟩ = some (.slice va nv vc) ∧ w'.cell? ⟨b, off + k * 13 + 11, none⟩ = some (.slice xa nx xc) ∧ w'.cell? ⟨b, off + k * 13 + 12, none⟩ = some (.slice ga ng gc)) ∧ (w'.cell? ⟨sb, so + k * 2, none⟩ = some (.string d) ∧ w'.cell? ⟨sb, so + k * 2 + 1, none⟩ = some (.int .i64 s))) (by kernel_rfl) (unhide SK _ (unhide TD)) (fun hHeld => ?_)
    generalize wr.drew = wd at TD hHeld ⊢
    refine wtv 0 (oi := oClkT0) ?_
    refine wtv 1 (oi := oClkT1) ?_
    refine wtv 2 (oi := oClkT2) ?_
    refine wtv 3 (oi := oClkT3) ?_
    refine wtv 4 (oi := oClkT4) ?_
    refine wtv 5 (oi := oClkT5) ?_
    refine wtv 6 (oi := oClkT6) ?_
    refine wtv 7 (oi := oClkT7) ?_
    refine wtv 8 (oi := oClkT8) ?_
    refine wtv 9 (oi := oClkT9) ?_
    refine wtv 10 (oi := oClkT10) ?_
    refine wtv 11 (oi := oClkT11) ?_
    refine wtv 12 (oi := oClkT12) ?_
    refine wtv 13 (oi := oClkT13) ?_
    refine wtv 14 (oi := oClkT14) ?_
    refine wtv 15 (oi := oClkT15) ?_
    refine wtv 16 (oi := oClkT16) ?_
    refine wtv 17 (oi := oClkT17) ?_
    refine wtv 18 (oi := oClkT18) ?_
    refine wtu 19 (oi := oClkT19) ?_
    refine wtu 20 (oi := oClkT20) ?_
    refine wtu 21 (oi := oClkT21) ?_
    refine wtu 22 (oi := oClkT22) ?_
    refine wtu 23 (oi := oClkT23) ?_
    refine wtu 24 (oi := oClkT24) ?_
    refine wtu 25 (oi := oClkT25) ?_
    refine wtv 26 (oi := oClkT26) ?_
    refine wtv 27 (oi := oClkT27) ?_
    refine wtu 28 (oi := oClkT28) ?_
    refine wtu 29 (oi := oClkT29) ?_
    refine wtu 30 (oi := oClkT30) ?_
    refine wtu 31 (oi := oClkT31) ?_
    refine wtu 32 (oi := oClkT32) ?_
    refine wtu 33 (oi := oClkT33) ?_
    refine wtu 34 (oi := oClkT34) ?_
    refine wtv 35 (oi := oClkT35) ?_
    refine wtv 36 (oi := oClkT36) ?_
    refine wtu 37 (oi := oClkT37) ?_
    refine wtu 38 (oi := oClkT38) ?_
    refine wtu 39 (oi := oClkT39) ?_
    refine wtu 40 (oi := oClkT40) ?_
    refine wtu 41 (oi := oClkT41) ?_
    refine wtu 42 (oi := oClkT42) ?_
    refine wtu 43 (oi := oClkT43) ?_
    refine wtu 44 (oi := oClkT44) ?_
    refine wtu 45 (oi := oClkT45) ?_
    refine wtu 46 (oi := oClkT46) ?_
    refine wtu 47 (oi := oClkT47) ?_
    refine wtu 48 (oi := oClkT48) ?_
    refine wtu 49 (oi := oClkT49) ?_
    refine wtu 50 (oi := oClkT50) ?_
    refine wtv 51 (oi := oClkT51) ?_
    refine wpAnyH_done (by kernel_rfl) ?_ _
    have BR := hide ((unhide HB).trans ((unhide TD).mono (unhide HB).size))
    clear SK TD hHeld HB HC
    go_wp2_with fail
    go_ret
    exact ⟨by rw [unhide HD4]; rfl, unhide BR⟩
   have g1 : (id != (k : Int)) = false := by simpa using q1
   have g2 : (nd1 != (ns : Int)) = false := by simpa using q2
   have HD3' : Hid (r3 = (b1 && ldB d s tm vt l && nodesB ns (k + 1) (N.drop (k + 1)) (S.drop (k + 1)))) := by show _ = _; rw [unhide HD3, decide_eq_true q1, decide_eq_true q2]; simp
   clear q1 q2 HD3
   cases b1
   ·have HD4 : Hid (R = false) := by show _ = _; rw [unhide HR4, unhide HD3']; simp
    refine wp_region_held_drew (S := fun w' => (∀ o, w'.cell? ⟨w.heap.size, o, none⟩ = (#[.slice (some ⟨b, off, none⟩) ns kn, .slice (some ⟨sb, so, none⟩) ns ks, .slice aw nw kw, .slice ad nd kd] : Array Value)[o]?) ∧ (w'.cell? ⟨b, off + k * 13, none⟩ = some (.int .i64 id) ∧ w'.cell? ⟨b, off + k * 13 + 1, none⟩ = some (.int .i64 nd1) ∧ w'.cell? ⟨b, off + k * 13 + 2, none⟩ = some (.int .i64 tm) ∧ w'.cell? ⟨b, off + k * 13 + 3, none⟩ = some (.int .i64 vt) ∧ w'.cell? ⟨b, off + k * 13 + 4, none⟩ = some (.int .i64 ro) ∧ w'.cell? ⟨b, off + k * 13 + 5, none⟩ = some (.bool up) ∧ w'.cell? ⟨b, off + k * 13 + 6, none⟩ = some (.slice ea n0 ec) ∧ w'.cell? ⟨b, off + k * 13 + 7, none⟩ = some (.int .i64 cm) ∧ w'.cell? ⟨b, off + k * 13 + 8, none⟩ = some (.int .i64 el) ∧ w'.cell? ⟨b, off + k * 13 + 9, none⟩ = some (.int .i64 wt) ∧ w'.cell? ⟨b, off + k * 13 + 10, none⟩ = some (.slice va nv vc) ∧ w'.cell? ⟨b, off + k * 13 + 11, none⟩ = some (.slice xa nx xc) ∧ w'.cell? ⟨b, off + k * 13 + 12, none⟩ = some (.slice ga ng gc)) ∧ (w'.cell? ⟨sb, so + k * 2, none⟩ = some (.string d) ∧ w'.cell? ⟨sb, so + k * 2 + 1, none⟩ = some (.int .i64 s))) (by kernel_rfl) (unhide SK _ (unhide TD)) (fun hHeld => ?_)
    generalize wr.drew = wd at TD hHeld ⊢
    refine wtv 0 (oi := oClkT0) ?_
    refine wtv 1 (oi := oClkT1) ?_
    refine wtv 2 (oi := oClkT2) ?_
    refine wtv 3 (oi := oClkT3) ?_
    refine wtv 4 (oi := oClkT4) ?_
    refine wtv 5 (oi := oClkT5) ?_
    refine wtv 6 (oi := oClkT6) ?_
    refine wtv 7 (oi := oClkT7) ?_
    refine wtv 8 (oi := oClkT8) ?_
    refine wtv 9 (oi := oClkT9) ?_
    refine wtv 10 (oi := oClkT10) ?_
    refine wtv 11 (oi := oClkT11) ?_
    refine wtv 12 (oi := oClkT12) ?_
    refine wtv 13 (oi := oClkT13) ?_
    refine wtv 14 (oi := oClkT14) ?_
    refine wtv 15 (oi := oClkT15) ?_
    refine wtv 16 (oi := oClkT16) ?_
    refine wtv 17 (oi := oClkT17) ?_
    refine wtv 18 (oi := oClkT18) ?_
    refine wtv 19 (oi := oClkT19) ?_
    refine wtv 20 (oi := oClkT20) ?_
    refine wtv 21 (oi := oClkT21) ?_
    refine wtv 22 (oi := oClkT22) ?_
    refine wtv 23 (oi := oClkT23) ?_
    refine wpAnyH_ready (rs := [24]) (by kernel_rfl) (by simp) ?_
    refine AllReadyH.cons (o := oClkT24) rfl (fun K hK => ?_) AllReadyH.nil
    go_simp
    refine (snodeok id nd1 tm vt ro cm el wt up ea ec n0 l HN0 va vc nv lv HNv xa xc nx lx HNx ga gc ng lg HNg f0 fv fx fg FS false HB1 _ ((unhide E0).below (unhide TD)) ((unhide Ev).below (unhide TD)) ((unhide Ex).below (unhide TD)) ((unhide Eg).below (unhide TD))).mono ?_
    rintro e w2 ⟨rfl, hb2⟩
    have T2 := hide ((unhide TD).trans (hb2.mono (unhide TD).size))
    clear hb2
    go_wp2_with fail
    refine hK.out _ _ ?_ (fun hHeld24 => ?_)
    ·exact unhide SK _ (unhide T2)
    clear hK K
    try simp only [Act.put, qqA, qqB, qqC]
    refine wtv 25 (oi := oClkT25) ?_
    refine wtv 26 (oi := oClkT26) ?_
    refine wtv 27 (oi := oClkT27) ?_
    refine wtu 28 (oi := oClkT28) ?_
    refine wtu 29 (oi := oClkT29) ?_
    refine wtu 30 (oi := oClkT30) ?_
    refine wtu 31 (oi := oClkT31) ?_
    refine wtu 32 (oi := oClkT32) ?_
    refine wtu 33 (oi := oClkT33) ?_
    refine wtu 34 (oi := oClkT34) ?_
    refine wtv 35 (oi := oClkT35) ?_
    refine wtv 36 (oi := oClkT36) ?_
    refine wtu 37 (oi := oClkT37) ?_
    refine wtu 38 (oi := oClkT38) ?_
    refine wtu 39 (oi := oClkT39) ?_
    refine wtu 40 (oi := oClkT40) ?_
    refine wtu 41 (oi := oClkT41) ?_
    refine wtu 42 (oi := oClkT42) ?_
    refine wtu 43 (oi := oClkT43) ?_
    refine wtu 44 (oi := oClkT44) ?_
    refine wtu 45 (oi := oClkT45) ?_
    refine wtu 46 (oi := oClkT46) ?_
    refine wtu 47 (oi := oClkT47) ?_
    refine wtu 48 (oi := oClkT48) ?_
    refine wtu 49 (oi := oClkT49) ?_
    refine wtu 50 (oi := oClkT50) ?_
    refine wtv 51 (oi := oClkT51) ?_
    refine wpAnyH_done (by kernel_rfl) ?_ _
    have BR := hide ((unhide HB).trans ((unhide T2).mono (unhide HB).size))
    clear SK TD T2 hHeld24 hHeld HB HC
    go_wp2_with fail
    go_ret
    exact ⟨by rw [unhide HD4]; rfl, unhide BR⟩
   cases b3
   ·have HD4 : Hid (R = false) := by show _ = _; rw [unhide HR4, unhide HD3', ld_sto (unhide HB2).symm]; simp
    refine wp_region_held_drew (S := fun w' => (∀ o, w'.cell? ⟨w.heap.size, o, none⟩ = (#[.slice (some ⟨b, off, none⟩) ns kn, .slice (some ⟨sb, so, none⟩) ns ks, .slice aw nw kw, .slice ad nd kd] : Array Value)[o]?) ∧ (w'.cell? ⟨b, off + k * 13, none⟩ = some (.int .i64 id) ∧ w'.cell? ⟨b, off + k * 13 + 1, none⟩ = some (.int .i64 nd1) ∧ w'.cell? ⟨b, off + k * 13 + 2, none⟩ = some (.int .i64 tm) ∧ w'.cell? ⟨b, off + k * 13 + 3, none⟩ = some (.int .i64 vt) ∧ w'.cell? ⟨b, off + k * 13 + 4, none⟩ = some (.int .i64 ro) ∧ w'.cell? ⟨b, off + k * 13 + 5, none⟩ = some (.bool up) ∧ w'.cell? ⟨b, off + k * 13 + 6, none⟩ = some (.slice ea n0 ec) ∧ w'.cell? ⟨b, off + k * 13 + 7, none⟩ = some (.int .i64 cm) ∧ w'.cell? ⟨b, off + k * 13 + 8, none⟩ = some (.int .i64 el) ∧ w'.cell? ⟨b, off + k * 13 + 9, none⟩ = some (.int .i64 wt) ∧ w'.cell? ⟨b, off + k * 13 + 10, none⟩ = some (.slice va nv vc) ∧ w'.cell? ⟨b, off + k * 13 + 11, none⟩ = some (.slice xa nx xc) ∧ w'.cell? ⟨b, off + k * 13 + 12, none⟩ = some (.slice ga ng gc)) ∧ (w'.cell? ⟨sb, so + k * 2, none⟩ = some (.string d) ∧ w'.cell? ⟨sb, so + k * 2 + 1, none⟩ = some (.int .i64 s))) (by kernel_rfl) (unhide SK _ (unhide TD)) (fun hHeld => ?_)
    generalize wr.drew = wd at TD hHeld ⊢
    refine wtv 0 (oi := oClkT0) ?_
    refine wtv 1 (oi := oClkT1) ?_
    refine wtv 2 (oi := oClkT2) ?_
    refine wtv 3 (oi := oClkT3) ?_
    refine wtv 4 (oi := oClkT4) ?_
    refine wtv 5 (oi := oClkT5) ?_
    refine wtv 6 (oi := oClkT6) ?_
    refine wtv 7 (oi := oClkT7) ?_
    refine wtv 8 (oi := oClkT8) ?_
    refine wtv 9 (oi := oClkT9) ?_
    refine wtv 10 (oi := oClkT10) ?_
    refine wtv 11 (oi := oClkT11) ?_
    refine wtv 12 (oi := oClkT12) ?_
    refine wtv 13 (oi := oClkT13) ?_
    refine wtv 14 (oi := oClkT14) ?_
    refine wtv 15 (oi := oClkT15) ?_
    refine wtv 16 (oi := oClkT16) ?_
    refine wtv 17 (oi := oClkT17) ?_
    refine wtv 18 (oi := oClkT18) ?_
    refine wtv 19 (oi := oClkT19) ?_
    refine wtv 20 (oi := oClkT20) ?_
    refine wtv 21 (oi := oClkT21) ?_
    refine wtv 22 (oi := oClkT22) ?_
    refine wtv 23 (oi := oClkT23) ?_
    refine wpAnyH_ready (rs := [24]) (by kernel_rfl) (by simp) ?_
    refine AllReadyH.cons (o := oClkT24) rfl (fun K hK => ?_) AllReadyH.nil
    go_simp
    refine (snodeok id nd1 tm vt ro cm el wt up ea ec n0 l HN0 va vc nv lv HNv xa xc nx lx HNx ga gc ng lg HNg f0 fv fx fg FS true HB1 _ ((unhide E0).below (unhide TD)) ((unhide Ev).below (unhide TD)) ((unhide Ex).below (unhide TD)) ((unhide Eg).below (unhide TD))).mono ?_
    rintro e w2 ⟨rfl, hb2⟩
    have T2 := hide ((unhide TD).trans (hb2.mono (unhide TD).size))
    clear hb2
    go_wp2_with fail
    refine hK.out _ _ ?_ (fun hHeld24 => ?_)
    ·exact unhide SK _ (unhide T2)
    clear hK K
    try simp only [Act.put, qqA, qqB, qqC]
    refine wtv 25 (oi := oClkT25) ?_
    refine wtv 26 (oi := oClkT26) ?_
    refine wtv 27 (oi := oClkT27) ?_
    refine wtv 28 (oi := oClkT28) ?_
    refine wtv 29 (oi := oClkT29) ?_
    refine wtv 30 (oi := oClkT30) ?_
    refine wtv 31 (oi := oClkT31) ?_
    refine wtv 32 (oi := oClkT32) ?_
    refine wpAnyH_ready (rs := [33]) (by kernel_rfl) (by simp) ?_
    refine AllReadyH.cons (o := oClkT33) rfl (fun K hK => ?_) AllReadyH.nil
    go_simp
    refine (sstoreok d s HDS false HB2 _).mono ?_
    rintro e w3 ⟨rfl, hb3⟩
    have T3 := hide ((unhide T2).trans (hb3.mono (unhide T2).size))
    clear hb3
    go_wp2_with fail
    refine hK.out _ _ ?_ (fun hHeld33 => ?_)
    ·exact unhide SK _ (unhide T3)
    clear hK K
    try simp only [Act.put, qqA, qqB, qqC]
    refine wtv 34 (oi := oClkT34) ?_
    refine wtv 35 (oi := oClkT35) ?_
    refine wtv 36 (oi := oClkT36) ?_
    refine wtu 37 (oi := oClkT37) ?_
    refine wtu 38 (oi := oClkT38) ?_
    refine wtu 39 (oi := oClkT39) ?_
    refine wtu 40 (oi := oClkT40) ?_
    refine wtu 41 (oi := oClkT41) ?_
    refine wtu 42 (oi := oClkT42) ?_
    refine wtu 43 (oi := oClkT43) ?_
    refine wtu 44 (oi := oClkT44) ?_
    refine wtu 45 (oi := oClkT45) ?_
    refine wtu 46 (oi := oClkT46) ?_
    refine wtu 47 (oi := oClkT47) ?_
    refine wtu 48 (oi := oClkT48) ?_
    refine wtu 49 (oi := oClkT49) ?_
    refine wtu 50 (oi := oClkT50) ?_
    refine wtv 51 (oi := oClkT51) ?_
    refine wpAnyH_done (by kernel_rfl) ?_ _
    have BR := hide ((unhide HB).trans ((unhide T3).mono (unhide HB).size))
    clear SK TD T2 T3 hHeld24 hHeld33 hHeld HB HC
    go_wp2_with fail
    go_ret
    exact ⟨by rw [unhide HD4]; rfl, unhide BR⟩
   have HST : Hid (stateB tm vt l = true) := nodeB_state (unhide HB1).symm
   obtain ⟨b4, hb4⟩ : ∃ b4, b4 = (s != (d.size : Int)) := ⟨_, rfl⟩
   have g3 : (s != (d.size : Int)) = b4 := hb4.symm
   have G3' := hide g3
   clear hb4
   refine wp_region_held_drew (S := fun w' => (∀ o, w'.cell? ⟨w.heap.size, o, none⟩ = (#[.slice (some ⟨b, off, none⟩) ns kn, .slice (some ⟨sb, so, none⟩) ns ks, .slice aw nw kw, .slice ad nd kd] : Array Value)[o]?) ∧ (w'.cell? ⟨b, off + k * 13, none⟩ = some (.int .i64 id) ∧ w'.cell? ⟨b, off + k * 13 + 1, none⟩ = some (.int .i64 nd1) ∧ w'.cell? ⟨b, off + k * 13 + 2, none⟩ = some (.int .i64 tm) ∧ w'.cell? ⟨b, off + k * 13 + 3, none⟩ = some (.int .i64 vt) ∧ w'.cell? ⟨b, off + k * 13 + 4, none⟩ = some (.int .i64 ro) ∧ w'.cell? ⟨b, off + k * 13 + 5, none⟩ = some (.bool up) ∧ w'.cell? ⟨b, off + k * 13 + 6, none⟩ = some (.slice ea n0 ec) ∧ w'.cell? ⟨b, off + k * 13 + 7, none⟩ = some (.int .i64 cm) ∧ w'.cell? ⟨b, off + k * 13 + 8, none⟩ = some (.int .i64 el) ∧ w'.cell? ⟨b, off + k * 13 + 9, none⟩ = some (.int .i64 wt) ∧ w'.cell? ⟨b, off + k * 13 + 10, none⟩ = some (.slice va nv vc) ∧ w'.cell? ⟨b, off + k * 13 + 11, none⟩ = some (.slice xa nx xc) ∧ w'.cell? ⟨b, off + k * 13 + 12, none⟩ = some (.slice ga ng gc)) ∧ (w'.cell? ⟨sb, so + k * 2, none⟩ = some (.string d) ∧ w'.cell? ⟨sb, so + k * 2 + 1, none⟩ = some (.int .i64 s))) (by kernel_rfl) (unhide SK _ (unhide TD)) (fun hHeld => ?_)
   generalize wr.drew = wd at TD hHeld ⊢
   refine wtv 0 (oi := oClkT0) ?_
   refine wtv 1 (oi := oClkT1) ?_
   refine wtv 2 (oi := oClkT2) ?_
   refine wtv 3 (oi := oClkT3) ?_
   refine wtv 4 (oi := oClkT4) ?_
   refine wtv 5 (oi := oClkT5) ?_
   refine wtv 6 (oi := oClkT6) ?_
   refine wtv 7 (oi := oClkT7) ?_
   refine wtv 8 (oi := oClkT8) ?_
   refine wtv 9 (oi := oClkT9) ?_
   refine wtv 10 (oi := oClkT10) ?_
   refine wtv 11 (oi := oClkT11) ?_
   refine wtv 12 (oi := oClkT12) ?_
   refine wtv 13 (oi := oClkT13) ?_
   refine wtv 14 (oi := oClkT14) ?_
   refine wtv 15 (oi := oClkT15) ?_
   refine wtv 16 (oi := oClkT16) ?_
   refine wtv 17 (oi := oClkT17) ?_
   refine wtv 18 (oi := oClkT18) ?_
   refine wtv 19 (oi := oClkT19) ?_
   refine wtv 20 (oi := oClkT20) ?_
   refine wtv 21 (oi := oClkT21) ?_
   refine wtv 22 (oi := oClkT22) ?_
   refine wtv 23 (oi := oClkT23) ?_
   refine wpAnyH_ready (rs := [24]) (by kernel_rfl) (by simp) ?_
   refine AllReadyH.cons (o := oClkT24) rfl (fun K hK => ?_) AllReadyH.nil
   go_simp
   refine (snodeok id nd1 tm vt ro cm el wt up ea ec n0 l HN0 va vc nv lv HNv xa xc nx lx HNx ga gc ng lg HNg f0 fv fx fg FS true HB1 _ ((unhide E0).below (unhide TD)) ((unhide Ev).below (unhide TD)) ((unhide Ex).below (unhide TD)) ((unhide Eg).below (unhide TD))).mono ?_
   rintro e w2 ⟨rfl, hb2⟩
   have T2 := hide ((unhide TD).trans (hb2.mono (unhide TD).size))
   clear hb2
   go_wp2_with fail
   refine hK.out _ _ ?_ (fun hHeld24 => ?_)
   ·exact unhide SK _ (unhide T2)
   clear hK K
   try simp only [Act.put, qqA, qqB, qqC]
   refine wtv 25 (oi := oClkT25) ?_
   refine wtv 26 (oi := oClkT26) ?_
   refine wtv 27 (oi := oClkT27) ?_
   refine wtv 28 (oi := oClkT28) ?_
   refine wtv 29 (oi := oClkT29) ?_
   refine wtv 30 (oi := oClkT30) ?_
   refine wtv 31 (oi := oClkT31) ?_
   refine wtv 32 (oi := oClkT32) ?_
   refine wpAnyH_ready (rs := [33]) (by kernel_rfl) (by simp) ?_
   refine AllReadyH.cons (o := oClkT33) rfl (fun K hK => ?_) AllReadyH.nil
   go_simp
   refine (sstoreok d s HDS true HB2 _).mono ?_
   rintro e w3 ⟨rfl, hb3⟩
   have T3 := hide ((unhide T2).trans (hb3.mono (unhide T2).size))
   clear hb3
   go_wp2_with fail
   refine hK.out _ _ ?_ (fun hHeld33 => ?_)
   ·exact unhide SK _ (unhide T3)
   clear hK K
   try simp only [Act.put, qqA, qqB, qqC]
   refine wtv 34 (oi := oClkT34) ?_
   refine wtv 35 (oi := oClkT35) ?_
   refine wtv 36 (oi := oClkT36) ?_
   refine wtv 37 (oi := oClkT37) ?_
   refine wtv 38 (oi := oClkT38) ?_
   refine wtv 39 (oi := oClkT39) ?_
   refine wtv 40 (oi := oClkT40) ?_
   refine wtv 41 (oi := oClkT41) ?_
   refine wtv 42 (oi := oClkT42) ?_
   refine wtv 43 (oi := oClkT43) ?_
   refine wtv 44 (oi := oClkT44) ?_
   refine wtv 45 (oi := oClkT45) ?_
   refine wtv 46 (oi := oClkT46) ?_
   refine wtv 47 (oi := oClkT47) ?_
   refine wtv 48 (oi := oClkT48) ?_
   refine wtv 49 (oi := oClkT49) ?_
   refine wtv 50 (oi := oClkT50) ?_
   refine wtv 51 (oi := oClkT51) ?_
   refine wpAnyH_done (by kernel_rfl) ?_ _
   cases b4
   case true =>
    have HD4 : Hid (R = false) := by show _ = _; rw [unhide HR4, unhide HD3', ld_sz (by simpa using (unhide G3'))]; simp
    have BR := hide ((unhide HB).trans ((unhide T3).mono (unhide HB).size))
    clear SK TD T2 T3 hHeld24 hHeld33 hHeld HB HC
    go_wp2_with fail
    go_ret
    exact ⟨by rw [unhide HD4]; rfl, unhide BR⟩
   have hsd : s = (d.size : Int) := by simpa using (unhide G3')
   have HSD := hide hsd
   have hd60 : d.size ≤ 60000 := by have e := (unhide HB2).symm; unfold stoB at e; simp only [Bool.and_eq_true, decide_eq_true_eq] at e; exact e.1
   have HD5 : Hid (r3 = (ldB d s tm vt l && nodesB ns (k + 1) (N.drop (k + 1)) (S.drop (k + 1)))) := by show _ = _; rw [unhide HD3']; simp
   have BR := hide ((unhide HB).trans ((unhide T3).mono (unhide HB).size))
   have kk := unhide SK _ (unhide T3)
   clear hsd G3' g3 HD3' hHeld hHeld24 hHeld33 T2 g1 g2
   go_wp2_with fail
   clear kk
   refine (srec0 d s d.size rfl hd60 _).mono ?_
   rintro e w5 ⟨hto, hb5⟩
   have T5 := hide ((unhide T3).trans (hb5.mono (unhide T3).size))
   clear hb5 T3 BR
   rcases hto with ⟨cx, x, y, a2, n2, cp, hcc, rfl⟩ | ⟨tm2, vt2, l2, a2, n2, cp, h8, hap, hn2, ho, rfl⟩
   ·have hc0 : ¬ cx = 0 := by rcases hcc with ⟨-, h⟩ | ⟨-, -, h⟩ <;> omega
    have hld : ldB d s tm vt l = false := by
     rcases hcc with ⟨h, -⟩ | ⟨-, h, -⟩
     ·exact ld_cut h
     ·exact ld_none h
    have HD4 : Hid (R = false) := by show _ = _; rw [unhide HR4, unhide HD5, hld]; simp
    have gc : (cx != 0) = true := by simpa using hc0
    clear hcc hld hc0
    have T6 := hide ((unhide T5).trans ((Go.Joins.below_alloc2 w5 (Obj.cells #[.int .i64 x, .int .i64 y, .slice a2 n2 cp] 76) (Obj.cells #[.string d, .int .i64 s] 74)).mono (unhide T5).size))
    go_wp2_with fail
    generalize (w5.alloc (Obj.cells #[.int .i64 x, .int .i64 y, .slice a2 n2 cp] 76)).alloc (Obj.cells #[.string d, .int .i64 s] 74) = wa at T6 ⊢
    have UD : Hid (Below wa.heap.size wa wa.drew) := (Below.refl _ _).drew
    refine wp_region_held_drew (S := fun _ => True) (by kernel_rfl) trivial (fun hHeld => ?_)
    generalize wa.drew = we at UD hHeld ⊢
    refine wtv 0 (oi := oClkT52) ?_
    refine wtv 1 (oi := oClkT53) ?_
    refine wtv 2 (oi := oClkT54) ?_
    refine wtu 3 (oi := oClkT55) ?_
    refine wtu 4 (oi := oClkT56) ?_
    refine wtu 5 (oi := oClkT57) ?_
    refine wtu 6 (oi := oClkT58) ?_
    refine wtu 7 (oi := oClkT59) ?_
    refine wtu 8 (oi := oClkT60) ?_
    refine wtu 9 (oi := oClkT61) ?_
    refine wtu 10 (oi := oClkT62) ?_
    refine wtu 11 (oi := oClkT63) ?_
    refine wtv 12 (oi := oClkT64) ?_
    refine wtv 13 (oi := oClkT65) ?_
    refine wtu 14 (oi := oClkT66) ?_
    refine wtu 15 (oi := oClkT67) ?_
    refine wtu 16 (oi := oClkT68) ?_
    refine wtu 17 (oi := oClkT69) ?_
    refine wtu 18 (oi := oClkT70) ?_
    refine wtu 19 (oi := oClkT71) ?_
    refine wtu 20 (oi := oClkT72) ?_
    refine wtu 21 (oi := oClkT73) ?_
    refine wtu 22 (oi := oClkT74) ?_
    refine wtv 23 (oi := oClkT75) ?_
    refine wpAnyH_done (by kernel_rfl) ?_ _
    have BR := hide ((unhide HB).trans (((unhide T6).trans ((unhide UD).mono (unhide T6).size)).mono (unhide HB).size))
    clear SK TD T5 T6 UD hHeld HB HC
    go_wp2_with fail
    go_ret
    exact ⟨by rw [unhide HD4]; rfl, unhide BR⟩
   ·obtain ⟨Kf, hKf⟩ : ∃ K, K = (frs d.size d.data.toList).2.1 := ⟨_, rfl⟩
    rw [← hKf]
    have HKF := hide hKf
    have HN2 := hide hn2
    have hst2 := apAll_right _ _ _ _ _ _ _ state0 hap
    have H60 : Hid (n2 ≤ 60) := by show _ ≤ _; rw [← hn2]; exact (state_parts hst2).2.2.1
    have N60 : Hid (n0 ≤ 60) := by show _ ≤ _; rw [← unhide HN0]; exact (state_parts (unhide HST)).2.2.1
    have hr2 : RowV w5 a2 (cE l2) := by obtain ⟨a3, c3, e3, h3⟩ := ownZ_rowV ho; injection e3 with e3; subst e3; exact h3
    have V6 := hide (Go.Joins.below_alloc2 w5 (Obj.cells #[.int .i64 tm2, .int .i64 vt2, .slice a2 n2 cp] 76) (Obj.cells #[.string (d.extract 0 Kf), .int .i64 (Kf : Int)] 74))
    have T6 := hide ((unhide T5).trans ((unhide V6).mono (unhide T5).size))
    have RL := hide (hr2.below (unhide V6))
    have RN := hide ((unhide E0).below (unhide T6))
    have LF := hide ((BF.new w5 #[.int .i64 tm2, .int .i64 vt2, .slice a2 n2 cp] 76).alloc (Obj.cells #[.string (d.extract 0 Kf), .int .i64 (Kf : Int)] 74))
    have KF := hide (BF.new (w5.alloc (Obj.cells #[.int .i64 tm2, .int .i64 vt2, .slice a2 n2 cp] 76)) #[.string (d.extract 0 Kf), .int .i64 (Kf : Int)] 74)
    simp only [World.size_alloc] at KF
    have HLD : Hid (Kf = d.size → ldB d s tm vt l = decide (tm2 = tm ∧ vt2 = vt ∧ l2 = l)) := fun e => ld_some (unhide HB2).symm (unhide HSD) h8 (by rw [← hKf]; exact e) hap
    have HLN : Hid (¬ Kf = d.size → ldB d s tm vt l = false) := fun e => ld_k (by rw [← hKf]; exact e)
    clear hap hn2 hst2 hr2 ho h8 hKf V6
    go_wp2_with fail
    obtain ⟨lb, hlb⟩ : ∃ lb, lb = w5.heap.size := ⟨_, rfl⟩
    obtain ⟨tb, htb⟩ : ∃ tb, tb = w5.heap.size + 1 := ⟨_, rfl⟩
    rw [← htb] at KF ⊢
    rw [← hlb] at LF ⊢
    generalize (w5.alloc (Obj.cells #[.int .i64 tm2, .int .i64 vt2, .slice a2 n2 cp] 76)).alloc (Obj.cells #[.string (d.extract 0 Kf), .int .i64 (Kf : Int)] 74) = wa at T6 RL RN LF KF ⊢
    have SL : Hid (∀ w2, Below wa.heap.size wa w2 → (fun w' => ((∀ o, w'.cell? ⟨w.heap.size, o, none⟩ = (#[.slice (some ⟨b, off, none⟩) ns kn, .slice (some ⟨sb, so, none⟩) ns ks, .slice aw nw kw, .slice ad nd kd] : Array Value)[o]?) ∧ (w'.cell? ⟨b, off + k * 13, none⟩ = some (.int .i64 id) ∧ w'.cell? ⟨b, off + k * 13 + 1, none⟩ = some (.int .i64 nd1) ∧ w'.cell? ⟨b, off + k * 13 + 2, none⟩ = some (.int .i64 tm) ∧ w'.cell? ⟨b, off + k * 13 + 3, none⟩ = some (.int .i64 vt) ∧ w'.cell? ⟨b, off + k * 13 + 4, none⟩ = some (.int .i64 ro) ∧ w'.cell? ⟨b, off + k * 13 + 5, none⟩ = some (.bool up) ∧ w'.cell? ⟨b, off + k * 13 + 6, none⟩ = some (.slice ea n0 ec) ∧ w'.cell? ⟨b, off + k * 13 + 7, none⟩ = some (.int .i64 cm) ∧ w'.cell? ⟨b, off + k * 13 + 8, none⟩ = some (.int .i64 el) ∧ w'.cell? ⟨b, off + k * 13 + 9, none⟩ = some (.int .i64 wt) ∧ w'.cell? ⟨b, off + k * 13 + 10, none⟩ = some (.slice va nv vc) ∧ w'.cell? ⟨b, off + k * 13 + 11, none⟩ = some (.slice xa nx xc) ∧ w'.cell? ⟨b, off + k * 13 + 12, none⟩ = some (.slice ga ng gc)) ∧ (w'.cell? ⟨sb, so + k * 2, none⟩ = some (.string d) ∧ w'.cell? ⟨sb, so + k * 2 + 1, none⟩ = some (.int .i64 s))) ∧ (∀ o, w'.cell? ⟨lb, o, none⟩ = (#[.int .i64 tm2, .int .i64 vt2, .slice a2 n2 cp] : Array Value)[o]?) ∧ (∀ o, w'.cell? ⟨tb, o, none⟩ = (#[.string (d.extract 0 Kf), .int .i64 (Kf : Int)] : Array Value)[o]?)) w2) := fun w2 hb => ⟨unhide SK _ ((unhide T6).trans (hb.mono (unhide T6).size)), ((unhide LF).below hb).S, ((unhide KF).below hb).S⟩
    have UD : Hid (Below wa.heap.size wa wa.drew) := (Below.refl _ _).drew
    have B6 := hide ((unhide HB).trans ((unhide T6).mono (unhide HB).size))
    have CB6 := hide ((unhide HC).below (unhide T6))
    clear hlb htb SK TD T5 T6 LF KF HB HC E0 Ev Ex Eg M1 M2
    by_cases hK : Kf = d.size
    ·have gk : ((Kf : Int) != s) = false := by rw [hK, unhide HSD]; simp
     obtain ⟨b2, hb2⟩ : ∃ b2, b2 = decide (tm2 = tm ∧ vt2 = vt ∧ l2 = l) := ⟨_, rfl⟩
     have HB4 := hide hb2
     have HD6 : Hid (r3 = (b2 && nodesB ns (k + 1) (N.drop (k + 1)) (S.drop (k + 1)))) := by show _ = _; rw [unhide HD5, unhide HLD hK, hb2]
     clear hb2 hK HD5 HLD HLN
     refine wp_region_held_drew (S := fun w' => ((∀ o, w'.cell? ⟨w.heap.size, o, none⟩ = (#[.slice (some ⟨b, off, none⟩) ns kn, .slice (some ⟨sb, so, none⟩) ns ks, .slice aw nw kw, .slice ad nd kd] : Array Value)[o]?) ∧ (w'.cell? ⟨b, off + k * 13, none⟩ = some (.int .i64 id) ∧ w'.cell? ⟨b, off + k * 13 + 1, none⟩ = some (.int .i64 nd1) ∧ w'.cell? ⟨b, off + k * 13 + 2, none⟩ = some (.int .i64 tm) ∧ w'.cell? ⟨b, off + k * 13 + 3, none⟩ = some (.int .i64 vt) ∧ w'.cell? ⟨b, off + k * 13 + 4, none⟩ = some (.int .i64 ro) ∧ w'.cell? ⟨b, off + k * 13 + 5, none⟩ = some (.bool up) ∧ w'.cell? ⟨b, off + k * 13 + 6, none⟩ = some (.slice ea n0 ec) ∧ w'.cell? ⟨b, off + k * 13 + 7, none⟩ = some (.int .i64 cm) ∧ w'.cell? ⟨b, off + k * 13 + 8, none⟩ = some (.int .i64 el) ∧ w'.cell? ⟨b, off + k * 13 + 9, none⟩ = some (.int .i64 wt) ∧ w'.cell? ⟨b, off + k * 13 + 10, none⟩ = some (.slice va nv vc) ∧ w'.cell? ⟨b, off + k * 13 + 11, none⟩ = some (.slice xa nx xc) ∧ w'.cell? ⟨b, off + k * 13 + 12, none⟩ = some (.slice ga ng gc)) ∧ (w'.cell? ⟨sb, so + k * 2, none⟩ = some (.string d) ∧ w'.cell? ⟨sb, so + k * 2 + 1, none⟩ = some (.int .i64 s))) ∧ (∀ o, w'.cell? ⟨lb, o, none⟩ = (#[.int .i64 tm2, .int .i64 vt2, .slice a2 n2 cp] : Array Value)[o]?) ∧ (∀ o, w'.cell? ⟨tb, o, none⟩ = (#[.string (d.extract 0 Kf), .int .i64 (Kf : Int)] : Array Value)[o]?)) (by kernel_rfl) (unhide SL _ (unhide UD)) (fun hHeld => ?_)
     generalize wa.drew = we at UD hHeld ⊢
     refine wtv 0 (oi := oClkT52) ?_
     refine wtv 1 (oi := oClkT53) ?_
     refine wtv 2 (oi := oClkT54) ?_
     refine wtv 3 (oi := oClkT55) ?_
     refine wtv 4 (oi := oClkT56) ?_
     refine wtv 5 (oi := oClkT57) ?_
     refine wtv 6 (oi := oClkT58) ?_
     refine wtv 7 (oi := oClkT59) ?_
     refine wtv 8 (oi := oClkT60) ?_
     refine wtv 9 (oi := oClkT61) ?_
     refine wtv 10 (oi := oClkT62) ?_
     refine wtv 11 (oi := oClkT63) ?_
     refine wtv 12 (oi := oClkT64) ?_
     refine wtv 13 (oi := oClkT65) ?_
     refine wtv 14 (oi := oClkT66) ?_
     refine wtv 15 (oi := oClkT67) ?_
     refine wtv 16 (oi := oClkT68) ?_
     refine wtv 17 (oi := oClkT69) ?_
     refine wtv 18 (oi := oClkT70) ?_
     refine wtv 19 (oi := oClkT71) ?_
     refine wpAnyH_ready (rs := [20]) (by kernel_rfl) (by simp) ?_
     refine AllReadyH.cons (o := oClkT72) rfl (fun K hK => ?_) AllReadyH.nil
     go_simp
     refine (snstate id nd1 tm vt ro cm el wt up ea ec n0 va vc nv xa xc nx ga gc ng _).mono ?_
     rintro e w8 ⟨rfl, hb8⟩
     have U8 := hide ((unhide UD).trans (hb8.mono (unhide UD).size))
     clear hb8
     go_wp2_with fail
     refine hK.out _ _ ?_ (fun hHeld20 => ?_)
     ·exact unhide SL _ (unhide U8)
     clear hK K
     try simp only [Act.put, qqA, qqB, qqC]
     refine wpAnyH_ready (rs := [21]) (by kernel_rfl) (by simp) ?_
     refine AllReadyH.cons (o := oClkT73) rfl (fun K hK => ?_) AllReadyH.nil
     go_simp
     refine (ssame09 tm2 vt2 a2 cp n2 l2 HN2 (unhide H60) tm vt ea ec n0 l HN0 (unhide N60) b2 HB4 _ ((unhide RL).below (unhide U8)) ((unhide RN).below (unhide U8))).mono ?_
     rintro e w9 ⟨rfl, hb9⟩
     have U9 := hide ((unhide U8).trans (hb9.mono (unhide U8).size))
     clear hb9
     go_wp2_with fail
     refine hK.out _ _ ?_ (fun hHeld21 => ?_)
     ·exact unhide SL _ (unhide U9)
     clear hK K
     try simp only [Act.put, qqA, qqB, qqC]
     refine wtv 22 (oi := oClkT74) ?_
     refine wtv 23 (oi := oClkT75) ?_
     refine wpAnyH_done (by kernel_rfl) ?_ _
     have BR := hide ((unhide B6).trans ((unhide U9).mono (unhide B6).size))
     have CR := hide ((unhide CB6).below (unhide U9))
     clear SL UD U8 U9 hHeld hHeld20 hHeld21 B6 CB6 RL RN
     cases b2
     ·have HD4 : Hid (R = false) := by show _ = _; rw [unhide HR4, unhide HD6]; simp
      go_wp2_with fail
      go_ret
      exact ⟨by rw [unhide HD4]; rfl, unhide BR⟩
     ·have HD7 : Hid (r3 = nodesB ns (k + 1) (N.drop (k + 1)) (S.drop (k + 1))) := by show _ = _; rw [unhide HD6]; rfl
      go_wp2_with fail
      go_roundw
      case rel => exact ⟨k + 1, by omega, by go_num, HD7, BR, CR⟩
      case measure => simp [intOf]; omega
    ·have gk : ((Kf : Int) != s) = true := by rw [unhide HSD]; simpa using (fun h : (Kf : Int) = (d.size : Int) => hK (by omega))
     have HD4 : Hid (R = false) := by show _ = _; rw [unhide HR4, unhide HD5, unhide HLN hK]; simp
     clear hK HD5 HLD HLN
     refine wp_region_held_drew (S := fun w' => ((∀ o, w'.cell? ⟨w.heap.size, o, none⟩ = (#[.slice (some ⟨b, off, none⟩) ns kn, .slice (some ⟨sb, so, none⟩) ns ks, .slice aw nw kw, .slice ad nd kd] : Array Value)[o]?) ∧ (w'.cell? ⟨b, off + k * 13, none⟩ = some (.int .i64 id) ∧ w'.cell? ⟨b, off + k * 13 + 1, none⟩ = some (.int .i64 nd1) ∧ w'.cell? ⟨b, off + k * 13 + 2, none⟩ = some (.int .i64 tm) ∧ w'.cell? ⟨b, off + k * 13 + 3, none⟩ = some (.int .i64 vt) ∧ w'.cell? ⟨b, off + k * 13 + 4, none⟩ = some (.int .i64 ro) ∧ w'.cell? ⟨b, off + k * 13 + 5, none⟩ = some (.bool up) ∧ w'.cell? ⟨b, off + k * 13 + 6, none⟩ = some (.slice ea n0 ec) ∧ w'.cell? ⟨b, off + k * 13 + 7, none⟩ = some (.int .i64 cm) ∧ w'.cell? ⟨b, off + k * 13 + 8, none⟩ = some (.int .i64 el) ∧ w'.cell? ⟨b, off + k * 13 + 9, none⟩ = some (.int .i64 wt) ∧ w'.cell? ⟨b, off + k * 13 + 10, none⟩ = some (.slice va nv vc) ∧ w'.cell? ⟨b, off + k * 13 + 11, none⟩ = some (.slice xa nx xc) ∧ w'.cell? ⟨b, off + k * 13 + 12, none⟩ = some (.slice ga ng gc)) ∧ (w'.cell? ⟨sb, so + k * 2, none⟩ = some (.string d) ∧ w'.cell? ⟨sb, so + k * 2 + 1, none⟩ = some (.int .i64 s))) ∧ (∀ o, w'.cell? ⟨lb, o, none⟩ = (#[.int .i64 tm2, .int .i64 vt2, .slice a2 n2 cp] : Array Value)[o]?) ∧ (∀ o, w'.cell? ⟨tb, o, none⟩ = (#[.string (d.extract 0 Kf), .int .i64 (Kf : Int)] : Array Value)[o]?)) (by kernel_rfl) (unhide SL _ (unhide UD)) (fun hHeld => ?_)
     generalize wa.drew = we at UD hHeld ⊢
     refine wtv 0 (oi := oClkT52) ?_
     refine wtv 1 (oi := oClkT53) ?_
     refine wtv 2 (oi := oClkT54) ?_
     refine wtv 3 (oi := oClkT55) ?_
     refine wtv 4 (oi := oClkT56) ?_
     refine wtv 5 (oi := oClkT57) ?_
     refine wtv 6 (oi := oClkT58) ?_
     refine wtv 7 (oi := oClkT59) ?_
     refine wtv 8 (oi := oClkT60) ?_
     refine wtv 9 (oi := oClkT61) ?_
     refine wtv 10 (oi := oClkT62) ?_
     refine wtv 11 (oi := oClkT63) ?_
     refine wtv 12 (oi := oClkT64) ?_
     refine wtv 13 (oi := oClkT65) ?_
     refine wtu 14 (oi := oClkT66) ?_
     refine wtu 15 (oi := oClkT67) ?_
     refine wtu 16 (oi := oClkT68) ?_
     refine wtu 17 (oi := oClkT69) ?_
     refine wtu 18 (oi := oClkT70) ?_
     refine wtu 19 (oi := oClkT71) ?_
     refine wtu 20 (oi := oClkT72) ?_
     refine wtu 21 (oi := oClkT73) ?_
     refine wtu 22 (oi := oClkT74) ?_
     refine wtv 23 (oi := oClkT75) ?_
     refine wpAnyH_done (by kernel_rfl) ?_ _
     have BR := hide ((unhide B6).trans ((unhide UD).mono (unhide B6).size))
     clear SL UD hHeld B6 CB6 RL RN
     go_wp2_with fail
     go_ret
     exact ⟨by rw [unhide HD4]; rfl, unhide BR⟩
  ·have HD4 : Hid (R = (r4 && r5)) := by show _ = _; rw [unhide HR4, unhide HD, nodes_end (by rw [unhide HNN]; omega)]; simp
   have cc := (unhide HC).S
   go_wp2_with fail
   clear cc H1 H2 H3 L1 L2 HR4 HD
   go_loopw [8] (fun i wr => ∃ k : Nat, k ≤ nw ∧ i = .int .i64 k ∧ Hid (r4 = wireB ns (W.drop k)) ∧ Hid (Below w.heap.size w wr) ∧ Hid (BF w.heap.size #[.slice an ns kn, .slice sa ns ks, .slice aw nw kw, .slice ad nd kd] wr)) (fun i _ => nw - (intOf i).toNat)
   case atStart => exact ⟨0, by omega, rfl, HQ4, HB, HC⟩
   case round =>
    clear HB HC
    obtain ⟨k2, hk2, rfl, HW, HB, HC⟩ := hrel
    by_cases hlt2 : k2 < nw
    ·have hkw : k2 < W.length := by rw [unhide HNW]; exact hlt2
     obtain ⟨b, off, rfl, hblt, hc⟩ := (unhide H4).at (by rw [unhide L3, unhide HNW]; omega)
     have m1 := (row_msg hc k2 hkw).below (unhide HB) hblt
     have r1 := (unhide H5 _ (List.getElem_mem hkw)).below (unhide HB)
     have hf := unhide G3 _ (List.getElem_mem hkw)
     have HW3 : Hid (r4 = (mgB ns W[k2].1 && wireB ns (W.drop (k2 + 1)))) := by show _ = _; rw [unhide HW]; exact wire_step hkw
     clear hc HW
     generalize W[k2] = p at m1 r1 hf HW3
     obtain ⟨⟨kd1, fr, dst, tm, ix, lt, cm, ok, l⟩, ea, ec⟩ := p
     obtain ⟨n0, hn0⟩ : ∃ n0, l.length = n0 := ⟨_, rfl⟩
     have HN0 : Hid (l.length = n0) := hn0
     obtain ⟨f0, fs⟩ := hf
     have f0' : n0 ≤ 1048576 := by rw [← hn0]; exact f0
     have FS : Hid (∀ k (h : k < l.length), l[k].2.size ≤ 1048576) := fs
     unfold M9 at m1
     simp only [hn0] at m1
     have hlt' : (k2 : Int) < (nw : Int) := by omega
     have i0 : (0 : Int) ≤ (k2 : Int) := by omega
     obtain ⟨b1, hb1⟩ : ∃ b1, b1 = msgB kd1 fr dst tm ix lt cm l := ⟨_, rfl⟩
     have HB1 := hide hb1
     have HW4 : Hid (r4 = ((b1 && inB fr 0 ((ns : Int) - 1) && inB dst 0 ((ns : Int) - 1)) && wireB ns (W.drop (k2 + 1)))) := by show _ = _; rw [unhide HW3, hb1]; rfl
     have V1 := hide (Go.Joins.below_alloc1 wr (Obj.cells #[.int .i64 kd1, .int .i64 fr, .int .i64 dst, .int .i64 tm, .int .i64 ix, .int .i64 lt, .int .i64 cm, .bool ok, .slice ea n0 ec] 82))
     have B1 := hide ((unhide HB).trans ((unhide V1).mono (unhide HB).size))
     have C1 := hide ((unhide HC).alloc (Obj.cells #[.int .i64 kd1, .int .i64 fr, .int .i64 dst, .int .i64 tm, .int .i64 ix, .int .i64 lt, .int .i64 cm, .bool ok, .slice ea n0 ec] 82))
     have A1 := hide (BF.new wr #[.int .i64 kd1, .int .i64 fr, .int .i64 dst, .int .i64 tm, .int .i64 ix, .int .i64 lt, .int .i64 cm, .bool ok, .slice ea n0 ec] 82)
     have E1 := hide (r1.below (unhide V1))
     have cc := (unhide HC).S
     clear hkw hn0 f0 fs r1 hb1 HW3 V1
     go_wp2_with fail
     refine (smsgok kd1 fr dst tm ix lt cm ok ea ec n0 l HN0 f0' FS b1 HB1 _ (unhide E1)).mono ?_
     rintro e w1 ⟨rfl, hb⟩
     have B2 := hide ((unhide B1).trans (hb.mono (unhide B1).size))
     have C2 := hide ((unhide C1).below hb)
     have A2 := hide ((unhide A1).below hb)
     clear hb HB HC B1 C1 A1 m1 cc E1
     have aa := (unhide A2).S
     cases b1
     ·have HD5 : Hid (R = false) := by show _ = _; rw [unhide HD4, unhide HW4]; simp
      go_wp2_with fail
      go_ret
      exact ⟨by rw [unhide HD5]; rfl, unhide B2⟩
     have hmb := (unhide HB1).symm
     have hfd : 0 ≤ fr ∧ 0 ≤ dst := by unfold msgB inB at hmb; simp only [Bool.and_eq_true, decide_eq_true_eq] at hmb; exact ⟨hmb.1.1.1.1.1.1.1.2.1, hmb.1.1.1.1.1.1.2.1⟩
     clear hmb
     by_cases qd : (ns : Int) ≤ dst
     ·have HD5 : Hid (R = false) := by show _ = _; rw [unhide HD4, unhide HW4, in_no (n := dst) (by omega)]; simp
      go_wp2_with fail
      go_ret
      exact ⟨by rw [unhide HD5]; rfl, unhide B2⟩
     by_cases qf : (ns : Int) ≤ fr
     ·have HD5 : Hid (R = false) := by show _ = _; rw [unhide HD4, unhide HW4, in_no (n := fr) (by omega)]; simp
      go_wp2_with fail
      go_ret
      exact ⟨by rw [unhide HD5]; rfl, unhide B2⟩
     have HW5 : Hid (r4 = wireB ns (W.drop (k2 + 1))) := by show _ = _; rw [unhide HW4, in_yes (n := fr) (by omega), in_yes (n := dst) (by omega)]; simp
     clear HW4 hfd
     go_wp2_with fail
     go_roundw
     case rel => exact ⟨k2 + 1, by omega, by go_num, HW5, B2, C2⟩
     case measure => simp [intOf]; omega
    ·have HD5 : Hid (R = r5) := by show _ = _; rw [unhide HD4, unhide HW, wire_end (by rw [unhide HNW]; omega)]; simp
     have cc := (unhide HC).S
     go_wp2_with fail
     clear cc H4 H5 L3 HD4 HW
     go_loopw [10] (fun i wr => ∃ k : Nat, k ≤ nd ∧ i = .int .i64 k ∧ Hid (r5 = doneB (D.drop k)) ∧ Hid (Below w.heap.size w wr) ∧ Hid (BF w.heap.size #[.slice an ns kn, .slice sa ns ks, .slice aw nw kw, .slice ad nd kd] wr)) (fun i _ => nd - (intOf i).toNat)
     case atStart => exact ⟨0, by omega, rfl, HQ5, HB, HC⟩
     case round =>
      clear HB HC
      obtain ⟨k3, hk3, rfl, HW, HB, HC⟩ := hrel
      have cc := (unhide HC).S
      by_cases hlt3 : k3 < nd
      ·have hkd : k3 < D.length := by rw [unhide HND]; exact hlt3
       obtain ⟨b, off, rfl, hblt, hc⟩ := (unhide H6).at (by rw [cS_len]; omega)
       obtain ⟨d, ed⟩ : ∃ d, d = D[k3] := ⟨_, rfl⟩
       have x0 := hc k3 _ (cS_at D k3 hkd)
       rw [← ed] at x0
       have x1 : wr.cell? ⟨b, off + k3, none⟩ = some (.string d) := ((unhide HB).cell (p := ⟨b, off + k3, none⟩) hblt).trans x0
       have hds : d.size ≤ 1048576 := by rw [ed]; exact unhide G4 k3 hkd
       have HW3 : Hid (r5 = (decide (d.size ≤ 400) && doneB (D.drop (k3 + 1)))) := by show _ = _; rw [unhide HW, ed]; exact done_step hkd
       have hlt' : (k3 : Int) < (nd : Int) := by omega
       have i0 : (0 : Int) ≤ (k3 : Int) := by omega
       clear hc ed hkd HW x0
       by_cases q : d.size ≤ 400
       ·have g : ¬ (400 : Int) < (d.size : Int) := by omega
        have HW4 : Hid (r5 = doneB (D.drop (k3 + 1))) := by show _ = _; rw [unhide HW3, decide_eq_true q]; rfl
        clear HW3 q
        go_wp2_with fail
        go_roundw
        case rel => exact ⟨k3 + 1, by omega, by go_num, HW4, HB, HC⟩
        case measure => simp [intOf]; omega
       ·have g : (400 : Int) < (d.size : Int) := by omega
        have HD6 : Hid (R = false) := by show _ = _; rw [unhide HD5, unhide HW3, decide_eq_false q]; rfl
        clear HW3 q
        go_wp2_with fail
        go_ret
        exact ⟨by rw [unhide HD6]; rfl, unhide HB⟩
      ·have HD6 : Hid (R = true) := by show _ = _; rw [unhide HD5, unhide HW, done_end (by rw [unhide HND]; omega)]
       go_wp2_with fail
       go_ret
       exact ⟨by rw [unhide HD6]; rfl, unhide HB⟩
end Go.Proofs.YtfogppnijdjakaaGreatDoor
