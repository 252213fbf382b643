/- ViewOK: what the specification answers. -/
import Derived.Test.YtblhediekdeffaaDoorZVoM
import Derived.Test.YtblhediekdeffaaDoorZMrS
import Derived.Test.YtblhediekdeffaaDoorZG13
namespace Go.Proofs.YtblhediekdeffaaDoor
open Go.ChangeShapes Go.WideShapes Go.ChangeAt Go.RowKit
set_option linter.unusedVariables false
abbrev oVoS0 : Oper := { dst := some 31, op := .fieldAddr 25 (.tmp 1) 5, type := 0, pos := "l11_view.go:77", after := #[], guard := none }
abbrev oVoS1 : Oper := { dst := some 32, op := .load 23 (.tmp 31), type := 23, pos := "l11_view.go:77", after := #[{ on := 0, ground := .data }], guard := none }
abbrev oVoS2 : Oper := { dst := some 33, op := .move (.tmp 3), type := 3, pos := "l11_view.go:77", after := #[], guard := none }
abbrev oVoS3 : Oper := { dst := some 34, op := .indexAddr 23 (.tmp 32) (.tmp 33), type := 0, pos := "l11_view.go:77", after := #[{ on := 1, ground := .data }, { on := 2, ground := .data }], guard := none }
abbrev oVoS4 : Oper := { dst := some 35, op := .fieldAddr 51 (.tmp 34) 0, type := 0, pos := "l11_view.go:77", after := #[{ on := 3, ground := .data }], guard := none }
abbrev oVoS5 : Oper := { dst := some 36, op := .load 3 (.tmp 35), type := 3, pos := "l11_view.go:77", after := #[{ on := 4, ground := .data }], guard := none }
abbrev oVoS6 : Oper := { dst := some 37, op := .fieldAddr 25 (.tmp 1) 4, type := 0, pos := "l11_view.go:77", after := #[], guard := none }
abbrev oVoS7 : Oper := { dst := some 38, op := .load 3 (.tmp 37), type := 3, pos := "l11_view.go:77", after := #[{ on := 6, ground := .data }], guard := none }
abbrev oVoS8 : Oper := { dst := some 39, op := .binOp .sub 3 (.tmp 38) (.const (.int .i64 1)) 3, type := 3, pos := "l11_view.go:77", after := #[{ on := 7, ground := .data }], guard := none }
abbrev oVoS9 : Oper := { dst := some 40, op := .call { callee := .value (.func 22), args := #[.tmp 36, .const (.int .i64 0), .tmp 39], argTypes := #[3, 3, 3] }, type := 4, pos := "l11_view.go:77", after := #[{ on := 5, ground := .data }, { on := 8, ground := .data }], guard := none }
abbrev oVoS10 : Oper := { dst := some 41, op := .unOp .not 4 (.tmp 40), type := 4, pos := "l11_view.go:77", after := #[{ on := 9, ground := .data }], guard := none }
abbrev oVoS11 : Oper := { dst := some 42, op := .move (.tmp 41), type := 4, pos := "l11_view.go:77", after := #[{ on := 10, ground := .data }, { on := 9, ground := .chain }], guard := none }
abbrev oVoS12 : Oper := { dst := some 43, op := .fieldAddr 25 (.tmp 1) 3, type := 0, pos := "l11_view.go:77", after := #[{ on := 11, ground := .guard }], guard := some (11, false) }
abbrev oVoS13 : Oper := { dst := some 44, op := .load 3 (.tmp 43), type := 3, pos := "l11_view.go:77", after := #[{ on := 12, ground := .data }, { on := 11, ground := .guard }], guard := some (11, false) }
abbrev oVoS14 : Oper := { dst := some 45, op := .fieldAddr 25 (.tmp 1) 5, type := 0, pos := "l11_view.go:77", after := #[{ on := 11, ground := .guard }], guard := some (11, false) }
abbrev oVoS15 : Oper := { dst := some 46, op := .load 23 (.tmp 45), type := 23, pos := "l11_view.go:77", after := #[{ on := 14, ground := .data }, { on := 11, ground := .guard }], guard := some (11, false) }
abbrev oVoS16 : Oper := { dst := some 47, op := .move (.tmp 3), type := 3, pos := "l11_view.go:77", after := #[{ on := 11, ground := .guard }], guard := some (11, false) }
abbrev oVoS17 : Oper := { dst := some 48, op := .indexAddr 23 (.tmp 46) (.tmp 47), type := 0, pos := "l11_view.go:77", after := #[{ on := 15, ground := .data }, { on := 16, ground := .data }, { on := 11, ground := .guard }], guard := some (11, false) }
abbrev oVoS18 : Oper := { dst := some 49, op := .fieldAddr 51 (.tmp 48) 1, type := 0, pos := "l11_view.go:77", after := #[{ on := 17, ground := .data }, { on := 11, ground := .guard }], guard := some (11, false) }
abbrev oVoS19 : Oper := { dst := some 50, op := .load 9 (.tmp 49), type := 9, pos := "l11_view.go:77", after := #[{ on := 18, ground := .data }, { on := 11, ground := .guard }], guard := some (11, false) }
abbrev oVoS20 : Oper := { dst := some 51, op := .call { callee := .value (.func 37), args := #[.tmp 44, .tmp 50], argTypes := #[3, 9] }, type := 4, pos := "l11_view.go:77", after := #[{ on := 13, ground := .data }, { on := 19, ground := .data }, { on := 11, ground := .chain }, { on := 11, ground := .guard }], guard := some (11, false) }
abbrev oVoS21 : Oper := { dst := some 52, op := .unOp .not 4 (.tmp 51), type := 4, pos := "l11_view.go:77", after := #[{ on := 20, ground := .data }, { on := 11, ground := .guard }], guard := some (11, false) }
abbrev oVoS22 : Oper := { dst := some 53, op := .pick (.tmp 42) (.const (.bool true)) (.tmp 52), type := 4, pos := "l11_view.go:77", after := #[{ on := 11, ground := .data }, { on := 21, ground := .data }], guard := none }
abbrev oVoS23 : Oper := { dst := some 54, op := .move (.tmp 53), type := 4, pos := "l11_view.go:77", after := #[{ on := 22, ground := .data }, { on := 20, ground := .chain }], guard := none }
abbrev oVoS24 : Oper := { dst := some 55, op := .move (.tmp 3), type := 3, pos := "l11_view.go:77", after := #[{ on := 23, ground := .guard }], guard := some (23, false) }
abbrev oVoS25 : Oper := { dst := some 56, op := .binOp .gtr 3 (.tmp 55) (.const (.int .i64 0)) 3, type := 4, pos := "l11_view.go:77", after := #[{ on := 24, ground := .data }, { on := 23, ground := .guard }], guard := some (23, false) }
abbrev oVoS26 : Oper := { dst := some 57, op := .move (.tmp 56), type := 4, pos := "l11_view.go:77", after := #[{ on := 25, ground := .data }, { on := 23, ground := .chain }, { on := 23, ground := .guard }], guard := some (23, false) }
abbrev oVoS27 : Oper := { dst := some 58, op := .fieldAddr 25 (.tmp 1) 5, type := 0, pos := "l11_view.go:77", after := #[{ on := 26, ground := .guard }], guard := some (26, true) }
abbrev oVoS28 : Oper := { dst := some 59, op := .load 23 (.tmp 58), type := 23, pos := "l11_view.go:77", after := #[{ on := 27, ground := .data }, { on := 26, ground := .guard }], guard := some (26, true) }
abbrev oVoS29 : Oper := { dst := some 60, op := .move (.tmp 3), type := 3, pos := "l11_view.go:77", after := #[{ on := 26, ground := .guard }], guard := some (26, true) }
abbrev oVoS30 : Oper := { dst := some 61, op := .binOp .sub 3 (.tmp 60) (.const (.int .i64 1)) 3, type := 3, pos := "l11_view.go:77", after := #[{ on := 29, ground := .data }, { on := 26, ground := .guard }], guard := some (26, true) }
abbrev oVoS31 : Oper := { dst := some 62, op := .indexAddr 23 (.tmp 59) (.tmp 61), type := 0, pos := "l11_view.go:77", after := #[{ on := 28, ground := .data }, { on := 30, ground := .data }, { on := 26, ground := .guard }], guard := some (26, true) }
abbrev oVoS32 : Oper := { dst := some 63, op := .fieldAddr 51 (.tmp 62) 0, type := 0, pos := "l11_view.go:77", after := #[{ on := 31, ground := .data }, { on := 26, ground := .guard }], guard := some (26, true) }
abbrev oVoS33 : Oper := { dst := some 64, op := .load 3 (.tmp 63), type := 3, pos := "l11_view.go:77", after := #[{ on := 32, ground := .data }, { on := 26, ground := .guard }], guard := some (26, true) }
abbrev oVoS34 : Oper := { dst := some 65, op := .fieldAddr 25 (.tmp 1) 5, type := 0, pos := "l11_view.go:77", after := #[{ on := 26, ground := .guard }], guard := some (26, true) }
abbrev oVoS35 : Oper := { dst := some 66, op := .load 23 (.tmp 65), type := 23, pos := "l11_view.go:77", after := #[{ on := 34, ground := .data }, { on := 26, ground := .guard }], guard := some (26, true) }
abbrev oVoS36 : Oper := { dst := some 67, op := .move (.tmp 3), type := 3, pos := "l11_view.go:77", after := #[{ on := 26, ground := .guard }], guard := some (26, true) }
abbrev oVoS37 : Oper := { dst := some 68, op := .indexAddr 23 (.tmp 66) (.tmp 67), type := 0, pos := "l11_view.go:77", after := #[{ on := 35, ground := .data }, { on := 36, ground := .data }, { on := 26, ground := .guard }], guard := some (26, true) }
abbrev oVoS38 : Oper := { dst := some 69, op := .fieldAddr 51 (.tmp 68) 0, type := 0, pos := "l11_view.go:77", after := #[{ on := 37, ground := .data }, { on := 26, ground := .guard }], guard := some (26, true) }
abbrev oVoS39 : Oper := { dst := some 70, op := .load 3 (.tmp 69), type := 3, pos := "l11_view.go:77", after := #[{ on := 38, ground := .data }, { on := 26, ground := .guard }], guard := some (26, true) }
abbrev oVoS40 : Oper := { dst := some 71, op := .binOp .geq 3 (.tmp 64) (.tmp 70) 3, type := 4, pos := "l11_view.go:77", after := #[{ on := 33, ground := .data }, { on := 39, ground := .data }, { on := 26, ground := .guard }], guard := some (26, true) }
abbrev oVoS41 : Oper := { dst := some 72, op := .pick (.tmp 57) (.tmp 71) (.const (.bool false)), type := 4, pos := "l11_view.go:77", after := #[{ on := 26, ground := .data }, { on := 40, ground := .data }, { on := 23, ground := .guard }], guard := some (23, false) }
abbrev oVoS42 : Oper := { dst := some 73, op := .pick (.tmp 54) (.const (.bool true)) (.tmp 72), type := 4, pos := "l11_view.go:77", after := #[{ on := 23, ground := .data }, { on := 41, ground := .data }], guard := none }
set_option maxHeartbeats 4000000 in
set_option maxRecDepth 100000 in
theorem svwok (nb fr : Int) (fu : Bool) (vw vh : Int) (a : Option Addr) (cap n : Nat) (l : List Rw) (HN : Hid (l.length = n)) (hn : n ≤ 1048576) (HS : Hid (∀ k (h : k < l.length), l[k].2.size ≤ 1048576)) (Q : Bool) (HQ : Hid (Q = vwB nb fr fu vw vh l)) (w : World) (hr : RowV w a (cE l)) :
    Calls Tryd.prog 23 #[.agg #[.int .i64 nb, .int .i64 fr, .bool fu, .int .i64 vw, .int .i64 vh, .slice a n cap]] w fun e w' => e = .returned (.bool Q) ∧ Below w.heap.size w w' := by
  have B0 := hide (Go.Joins.below_alloc1 w (.cells #[.int .i64 nb, .int .i64 fr, .bool fu, .int .i64 vw, .int .i64 vh, .slice a n cap] 25))
  have HR := hide hr
  have HCL := hide (cE_len l)
  have HNI := hide hn
  clear hr hn
  obtain ⟨c1, hc1⟩ : ∃ c, c = inB nb 0 60 := ⟨_, rfl⟩
  have HC1 := hide hc1
  have hQ : Q = (c1 && (sizeB vw vh && (riseB vh l && ((celL l).all (rowB vw.toNat) && if fu then decide (fr = 0) && decide ((l.length : Int) = vh) else inB fr 0 (nb - 1))))) := by rw [unhide HQ, hc1]; rfl
  cases c1 with
  | false =>
    obtain rfl : Q = false := hQ
    clear hc1 HQ
    go_enter Tryd.func23, Tryd.ntmps23
    go_wp2_with (go_at_call 22; refine (sin nb 0 60 _).mono ?_; rintro e w2 ⟨rfl, rfl⟩; rw [← unhide HC1])
    go_ret
    exact ⟨rfl, unhide B0⟩
  | true =>
    cases hc2 : sizeB vw vh with
    | false =>
      obtain rfl : Q = false := by rw [hQ, hc2]; rfl
      have HC2 := hide hc2
      clear hc1 hc2 hQ HQ
      go_enter Tryd.func23, Tryd.ntmps23
      go_wp2_with (first | (go_at_call 22; refine (sin nb 0 60 _).mono ?_; rintro e w2 ⟨rfl, rfl⟩; rw [← unhide HC1]) | (go_at_call 36; refine (ssize _ _ _).mono ?_; rintro e w2 ⟨rfl, rfl⟩; rw [unhide HC2]))
      go_ret
      exact ⟨rfl, unhide B0⟩
    | true =>
      obtain ⟨W, H, rfl, rfl, hW1, hW2, hH1, hH2⟩ := sizeB_nat hc2
      have hQ2 : Q = (riseB (H : Int) l && ((celL l).all (rowB W) && if fu then decide (fr = 0) && decide ((l.length : Int) = (H : Int)) else inB fr 0 (nb - 1))) := by rw [hQ, hc2]; simp
      have HC2 := hide hc2
      have hnb : 0 ≤ nb ∧ nb ≤ 60 := of_decide_eq_true hc1.symm
      have HQ2 := hide hQ2
      clear hc1 hc2 hQ HQ hQ2
      by_cases hnH : (H : Int) < (n : Int)
      · obtain rfl : Q = false := by
          rw [unhide HQ2]
          cases hri : riseB (H : Int) l
          · rfl
          · exact absurd (rise_len (by omega) hri) (by rw [unhide HN]; omega)
        go_enter Tryd.func23, Tryd.ntmps23
        go_wp2_with (first | (go_at_call 22; refine (sin nb 0 60 _).mono ?_; rintro e w2 ⟨rfl, rfl⟩; rw [← unhide HC1]) | (go_at_call 36; refine (ssize _ _ _).mono ?_; rintro e w2 ⟨rfl, rfl⟩; rw [unhide HC2]))
        go_ret
        exact ⟨rfl, unhide B0⟩
      · have HA0 := hide (BF.new w #[.int .i64 nb, .int .i64 fr, .bool fu, .int .i64 (W : Int), .int .i64 (H : Int), .slice a n cap] 25)
        obtain ⟨h1, hh1⟩ : ∃ h1 : Nat, h1 = H - 1 := ⟨_, rfl⟩
        have e1 : (H : Int) - 1 = (h1 : Int) := by omega
        have e1w : IntKind.i64.wrap (h1 : Int) = (h1 : Int) := wrapi _ (by omega) (by omega)
        have hn10 : n ≤ 10 := by omega
        have hd1 : decide ((H : Int) < (n : Int)) = false := decide_eq_false hnH
        have hd2 : decide (H < n) = false := decide_eq_false (by omega)
        clear hh1 hnH
        go_enter Tryd.func23, Tryd.ntmps23
        go_wp2_with (first | (go_at_call 22; refine (sin nb 0 60 _).mono ?_; rintro e w2 ⟨rfl, rfl⟩; rw [← unhide HC1]) | (go_at_call 36; refine (ssize _ _ _).mono ?_; rintro e w2 ⟨rfl, rfl⟩; rw [unhide HC2]))
        clear HC1 HC2
        go_loopw [3] (fun i wr => ∃ k : Nat, k ≤ n ∧ i = .int .i64 (k : Int) ∧ Hid (∀ i, i < k → stepB (H : Int) l i = true ∧ rowAt W (celL l) i = true) ∧ Hid (Below w.heap.size w wr) ∧ Hid (BF w.heap.size #[.int .i64 nb, .int .i64 fr, .bool fu, .int .i64 (W : Int), .int .i64 (H : Int), .slice a n cap] wr)) (fun i _ => n - (intOf i).toNat)
        case atStart => exact ⟨0, by omega, rfl, fun i h => absurd h (Nat.not_lt_zero _), B0, HA0⟩
        case round =>
          clear B0 HA0
          obtain ⟨k, hk, rfl, HF, HB, HA⟩ := hrel
          by_cases hlt : k < n
          · have hlt' : (k : Int) < (n : Int) := by omega
            have hkR : k < l.length := by rw [unhide HN]; exact hlt
            obtain ⟨b1, off, ha, hblt, hc⟩ := (unhide HR).at (by rw [unhide HCL, unhide HN]; omega)
            subst ha
            obtain ⟨x0, x1⟩ := row_ent hc k hkR
            obtain ⟨y, ey⟩ : ∃ y, y = l[k].1 := ⟨_, rfl⟩
            obtain ⟨d, ed⟩ : ∃ d, d = l[k].2 := ⟨_, rfl⟩
            rw [← ey] at x0
            rw [← ed] at x1
            have hx0 : wr.cell? ⟨b1, off + k * 2, none⟩ = some (.int .i64 y) := ((unhide HB).cell (p := ⟨b1, off + k * 2, none⟩) hblt).trans x0
            have hx1 : wr.cell? ⟨b1, off + k * 2 + 1, none⟩ = some (.string d) := ((unhide HB).cell (p := ⟨b1, off + k * 2 + 1, none⟩) hblt).trans x1
            have HYA : Hid (yAt l k = y) := by show _ = _; rw [yAt_at l k hkR, ey]
            have HED := hide ed
            have HD : Hid (d.size ≤ 1048576) := by show _ ≤ _; rw [ed]; exact unhide HS k hkR
            have kA := (unhide HA).S
            have hbw : b1 < wr.heap.size := Nat.lt_of_lt_of_le hblt (unhide HB).size
            obtain ⟨c1, hc1⟩ : ∃ c, c = inB y 0 (h1 : Int) := ⟨_, rfl⟩
            have HC1 := hide hc1
            clear hc1
            by_cases hk0 : k = 0
            · have HK0 := hide hk0
              have hS0 := And.intro kA (And.intro hx0 hx1)
              have HKZ : Hid (decide (0 < k) = false) := decide_eq_false (by omega)
              clear hc x0 x1 ey ed hk0
              cases c1 with
              | false =>
                have hst : stepB (H : Int) l k = false := by
                  unfold stepB
                  rw [unhide HYA]
                  have h3 := prev_ge k fun i hi => (unhide HF i hi).1
                  have h4 : ¬ (0 ≤ y ∧ y ≤ (h1 : Int)) := of_decide_eq_false (unhide HC1).symm
                  rw [Bool.and_eq_false_iff]
                  by_cases h5 : 0 ≤ y
                  · right; exact decide_eq_false (by omega)
                  · left; exact decide_eq_false (by omega)
                have HQF : Hid (Q = false) := by show _ = _; rw [unhide HQ2, rise_no hkR hst]; simp
                obtain rfl : Q = false := unhide HQF
                clear hst
                go_wp2_with fail
                refine wp_region_held_drew (S := (fun w' => (∀ o, w'.cell? ⟨w.heap.size, o, none⟩ = (#[.int .i64 nb, .int .i64 fr, .bool fu, .int .i64 (W : Int), .int .i64 (H : Int), .slice (some ⟨b1, off, none⟩) n cap] : Array Value)[o]?) ∧ w'.cell? ⟨b1, off + k * 2, none⟩ = some (.int .i64 y) ∧ w'.cell? ⟨b1, off + k * 2 + 1, none⟩ = some (.string d))) (by kernel_rfl) hS0 (fun hHeld => ?_)
                refine wtk (i := 0) (oi := oVoS0) (v := ?_) rfl (Or.inl ⟨by rfl, ?_⟩) (by assumption) ?_
                rotate_left 1
                · (intro w' hSw; (try dsimp only at hSw); go_simp; try with_reducible rfl)
                try simp only [Act.put, qqA, qqB, qqC]
                refine wtk (i := 1) (oi := oVoS1) (v := ?_) rfl (Or.inl ⟨by rfl, ?_⟩) (by assumption) ?_
                rotate_left 1
                · (intro w' hSw; (try dsimp only at hSw); go_simp; try with_reducible rfl)
                try simp only [Act.put, qqA, qqB, qqC]
                refine wtk (i := 2) (oi := oVoS2) (v := ?_) rfl (Or.inl ⟨by rfl, ?_⟩) (by assumption) ?_
                rotate_left 1
                · (intro w' hSw; (try dsimp only at hSw); go_simp; try with_reducible rfl)
                try simp only [Act.put, qqA, qqB, qqC]
                refine wtk (i := 3) (oi := oVoS3) (v := ?_) rfl (Or.inl ⟨by rfl, ?_⟩) (by assumption) ?_
                rotate_left 1
                · (intro w' hSw; (try dsimp only at hSw); go_simp; try with_reducible rfl)
                try simp only [Act.put, qqA, qqB, qqC]
                refine wtk (i := 4) (oi := oVoS4) (v := ?_) rfl (Or.inl ⟨by rfl, ?_⟩) (by assumption) ?_
                rotate_left 1
                · (intro w' hSw; (try dsimp only at hSw); go_simp; try with_reducible rfl)
                try simp only [Act.put, qqA, qqB, qqC]
                refine wtk (i := 5) (oi := oVoS5) (v := ?_) rfl (Or.inl ⟨by rfl, ?_⟩) (by assumption) ?_
                rotate_left 1
                · (intro w' hSw; (try dsimp only at hSw); go_simp; try with_reducible rfl)
                try simp only [Act.put, qqA, qqB, qqC]
                refine wtk (i := 6) (oi := oVoS6) (v := ?_) rfl (Or.inl ⟨by rfl, ?_⟩) (by assumption) ?_
                rotate_left 1
                · (intro w' hSw; (try dsimp only at hSw); go_simp; try with_reducible rfl)
                try simp only [Act.put, qqA, qqB, qqC]
                refine wtk (i := 7) (oi := oVoS7) (v := ?_) rfl (Or.inl ⟨by rfl, ?_⟩) (by assumption) ?_
                rotate_left 1
                · (intro w' hSw; (try dsimp only at hSw); go_simp; try with_reducible rfl)
                try simp only [Act.put, qqA, qqB, qqC]
                refine wtk (i := 8) (oi := oVoS8) (v := ?_) rfl (Or.inl ⟨by rfl, ?_⟩) (by assumption) ?_
                rotate_left 1
                · (intro w' hSw; (try dsimp only at hSw); go_simp; try with_reducible rfl)
                try simp only [Act.put, qqA, qqB, qqC]
                refine wpAnyH_ready (rs := [9]) (by kernel_rfl) (by simp) ?_
                refine AllReadyH.cons (o := oVoS9) rfl (fun K hK => ?_) AllReadyH.nil
                go_simp
                refine (sin y 0 _ _).mono ?_
                rintro e w2 ⟨rfl, hw2⟩
                subst w2
                rw [← unhide HC1]
                go_wp2_with fail
                refine hK.out _ _ ?_ (fun hHeld9 => ?_)
                · exact hS0
                clear hK K
                try simp only [Act.put, qqA, qqB, qqC]
                refine wtk (i := 10) (oi := oVoS10) (v := ?_) rfl (Or.inl ⟨by rfl, ?_⟩) (by assumption) ?_
                rotate_left 1
                · (intro w' hSw; (try dsimp only at hSw); go_simp; try with_reducible rfl)
                try simp only [Act.put, qqA, qqB, qqC]
                refine wtk (i := 11) (oi := oVoS11) (v := ?_) rfl (Or.inl ⟨by rfl, ?_⟩) (by assumption) ?_
                rotate_left 1
                · (intro w' hSw; (try dsimp only at hSw); go_simp; try with_reducible rfl)
                try simp only [Act.put, qqA, qqB, qqC]
                refine wtk (i := 12) (oi := oVoS12) (v := undef) rfl (Or.inr ⟨by rfl, rfl⟩) (by assumption) ?_
                try simp only [Act.put, qqA, qqB, qqC]
                refine wtk (i := 13) (oi := oVoS13) (v := undef) rfl (Or.inr ⟨by rfl, rfl⟩) (by assumption) ?_
                try simp only [Act.put, qqA, qqB, qqC]
                refine wtk (i := 14) (oi := oVoS14) (v := undef) rfl (Or.inr ⟨by rfl, rfl⟩) (by assumption) ?_
                try simp only [Act.put, qqA, qqB, qqC]
                refine wtk (i := 15) (oi := oVoS15) (v := undef) rfl (Or.inr ⟨by rfl, rfl⟩) (by assumption) ?_
                try simp only [Act.put, qqA, qqB, qqC]
                refine wtk (i := 16) (oi := oVoS16) (v := undef) rfl (Or.inr ⟨by rfl, rfl⟩) (by assumption) ?_
                try simp only [Act.put, qqA, qqB, qqC]
                refine wtk (i := 17) (oi := oVoS17) (v := undef) rfl (Or.inr ⟨by rfl, rfl⟩) (by assumption) ?_
                try simp only [Act.put, qqA, qqB, qqC]
                refine wtk (i := 18) (oi := oVoS18) (v := undef) rfl (Or.inr ⟨by rfl, rfl⟩) (by assumption) ?_
                try simp only [Act.put, qqA, qqB, qqC]
                refine wtk (i := 19) (oi := oVoS19) (v := undef) rfl (Or.inr ⟨by rfl, rfl⟩) (by assumption) ?_
                try simp only [Act.put, qqA, qqB, qqC]
                refine wtk (i := 20) (oi := oVoS20) (v := undef) rfl (Or.inr ⟨by rfl, rfl⟩) (by assumption) ?_
                try simp only [Act.put, qqA, qqB, qqC]
                refine wtk (i := 21) (oi := oVoS21) (v := undef) rfl (Or.inr ⟨by rfl, rfl⟩) (by assumption) ?_
                try simp only [Act.put, qqA, qqB, qqC]
                refine wtk (i := 22) (oi := oVoS22) (v := ?_) rfl (Or.inl ⟨by rfl, ?_⟩) (by assumption) ?_
                rotate_left 1
                · (intro w' hSw; (try dsimp only at hSw); go_simp; try with_reducible rfl)
                try simp only [Act.put, qqA, qqB, qqC]
                refine wtk (i := 23) (oi := oVoS23) (v := ?_) rfl (Or.inl ⟨by rfl, ?_⟩) (by assumption) ?_
                rotate_left 1
                · (intro w' hSw; (try dsimp only at hSw); go_simp; try with_reducible rfl)
                try simp only [Act.put, qqA, qqB, qqC]
                refine wtk (i := 24) (oi := oVoS24) (v := undef) rfl (Or.inr ⟨by rfl, rfl⟩) (by assumption) ?_
                try simp only [Act.put, qqA, qqB, qqC]
                refine wtk (i := 25) (oi := oVoS25) (v := undef) rfl (Or.inr ⟨by rfl, rfl⟩) (by assumption) ?_
                try simp only [Act.put, qqA, qqB, qqC]
                refine wtk (i := 26) (oi := oVoS26) (v := undef) rfl (Or.inr ⟨by rfl, rfl⟩) (by assumption) ?_
                try simp only [Act.put, qqA, qqB, qqC]
                refine wtk (i := 27) (oi := oVoS27) (v := undef) rfl (Or.inr ⟨by rfl, rfl⟩) (by assumption) ?_
                try simp only [Act.put, qqA, qqB, qqC]
                refine wtk (i := 28) (oi := oVoS28) (v := undef) rfl (Or.inr ⟨by rfl, rfl⟩) (by assumption) ?_
                try simp only [Act.put, qqA, qqB, qqC]
                refine wtk (i := 29) (oi := oVoS29) (v := undef) rfl (Or.inr ⟨by rfl, rfl⟩) (by assumption) ?_
                try simp only [Act.put, qqA, qqB, qqC]
                refine wtk (i := 30) (oi := oVoS30) (v := undef) rfl (Or.inr ⟨by rfl, rfl⟩) (by assumption) ?_
                try simp only [Act.put, qqA, qqB, qqC]
                refine wtk (i := 31) (oi := oVoS31) (v := undef) rfl (Or.inr ⟨by rfl, rfl⟩) (by assumption) ?_
                try simp only [Act.put, qqA, qqB, qqC]
                refine wtk (i := 32) (oi := oVoS32) (v := undef) rfl (Or.inr ⟨by rfl, rfl⟩) (by assumption) ?_
                try simp only [Act.put, qqA, qqB, qqC]
                refine wtk (i := 33) (oi := oVoS33) (v := undef) rfl (Or.inr ⟨by rfl, rfl⟩) (by assumption) ?_
                try simp only [Act.put, qqA, qqB, qqC]
                refine wtk (i := 34) (oi := oVoS34) (v := undef) rfl (Or.inr ⟨by rfl, rfl⟩) (by assumption) ?_
                try simp only [Act.put, qqA, qqB, qqC]
                refine wtk (i := 35) (oi := oVoS35) (v := undef) rfl (Or.inr ⟨by rfl, rfl⟩) (by assumption) ?_
                try simp only [Act.put, qqA, qqB, qqC]
                refine wtk (i := 36) (oi := oVoS36) (v := undef) rfl (Or.inr ⟨by rfl, rfl⟩) (by assumption) ?_
                try simp only [Act.put, qqA, qqB, qqC]
                refine wtk (i := 37) (oi := oVoS37) (v := undef) rfl (Or.inr ⟨by rfl, rfl⟩) (by assumption) ?_
                try simp only [Act.put, qqA, qqB, qqC]
                refine wtk (i := 38) (oi := oVoS38) (v := undef) rfl (Or.inr ⟨by rfl, rfl⟩) (by assumption) ?_
                try simp only [Act.put, qqA, qqB, qqC]
                refine wtk (i := 39) (oi := oVoS39) (v := undef) rfl (Or.inr ⟨by rfl, rfl⟩) (by assumption) ?_
                try simp only [Act.put, qqA, qqB, qqC]
                refine wtk (i := 40) (oi := oVoS40) (v := undef) rfl (Or.inr ⟨by rfl, rfl⟩) (by assumption) ?_
                try simp only [Act.put, qqA, qqB, qqC]
                refine wtk (i := 41) (oi := oVoS41) (v := undef) rfl (Or.inr ⟨by rfl, rfl⟩) (by assumption) ?_
                try simp only [Act.put, qqA, qqB, qqC]
                refine wtk (i := 42) (oi := oVoS42) (v := ?_) rfl (Or.inl ⟨by rfl, ?_⟩) (by assumption) ?_
                rotate_left 1
                · (intro w' hSw; (try dsimp only at hSw); go_simp; try with_reducible rfl)
                try simp only [Act.put, qqA, qqB, qqC]
                refine wpAnyH_done (by kernel_rfl) ?_ _
                clear HF
                go_wp2_with fail
                go_ret
                exact ⟨rfl, (unhide HB).drew⟩
              | true =>
                have h4 : 0 ≤ y ∧ y ≤ (h1 : Int) := of_decide_eq_true (unhide HC1).symm
                have H4 := hide h4
                clear h4
                obtain ⟨c2, hc2⟩ : ∃ c, c = rowB W d := ⟨_, rfl⟩
                have HC2 := hide hc2
                have HRB : Hid (rowB W l[k].2 = c2) := by show _ = _; rw [hc2, unhide HED]
                clear hc2
                cases c2 with
                | false =>
                  have hall : (celL l).all (rowB W) = false := all_bad (q := k) (by rw [celL_len]; exact hkR) (by rw [celL_at l k hkR]; exact unhide HRB)
                  have HQF : Hid (Q = false) := by show _ = _; rw [unhide HQ2, hall]; simp
                  obtain rfl : Q = false := unhide HQF
                  clear hall
                  go_wp2_with fail
                  refine wp_region_held_drew (S := (fun w' => (∀ o, w'.cell? ⟨w.heap.size, o, none⟩ = (#[.int .i64 nb, .int .i64 fr, .bool fu, .int .i64 (W : Int), .int .i64 (H : Int), .slice (some ⟨b1, off, none⟩) n cap] : Array Value)[o]?) ∧ w'.cell? ⟨b1, off + k * 2, none⟩ = some (.int .i64 y) ∧ w'.cell? ⟨b1, off + k * 2 + 1, none⟩ = some (.string d))) (by kernel_rfl) hS0 (fun hHeld => ?_)
                  refine wtk (i := 0) (oi := oVoS0) (v := ?_) rfl (Or.inl ⟨by rfl, ?_⟩) (by assumption) ?_
                  rotate_left 1
                  · (intro w' hSw; (try dsimp only at hSw); go_simp; try with_reducible rfl)
                  try simp only [Act.put, qqA, qqB, qqC]
                  refine wtk (i := 1) (oi := oVoS1) (v := ?_) rfl (Or.inl ⟨by rfl, ?_⟩) (by assumption) ?_
                  rotate_left 1
                  · (intro w' hSw; (try dsimp only at hSw); go_simp; try with_reducible rfl)
                  try simp only [Act.put, qqA, qqB, qqC]
                  refine wtk (i := 2) (oi := oVoS2) (v := ?_) rfl (Or.inl ⟨by rfl, ?_⟩) (by assumption) ?_
                  rotate_left 1
                  · (intro w' hSw; (try dsimp only at hSw); go_simp; try with_reducible rfl)
                  try simp only [Act.put, qqA, qqB, qqC]
                  refine wtk (i := 3) (oi := oVoS3) (v := ?_) rfl (Or.inl ⟨by rfl, ?_⟩) (by assumption) ?_
                  rotate_left 1
                  · (intro w' hSw; (try dsimp only at hSw); go_simp; try with_reducible rfl)
                  try simp only [Act.put, qqA, qqB, qqC]
                  refine wtk (i := 4) (oi := oVoS4) (v := ?_) rfl (Or.inl ⟨by rfl, ?_⟩) (by assumption) ?_
                  rotate_left 1
                  · (intro w' hSw; (try dsimp only at hSw); go_simp; try with_reducible rfl)
                  try simp only [Act.put, qqA, qqB, qqC]
                  refine wtk (i := 5) (oi := oVoS5) (v := ?_) rfl (Or.inl ⟨by rfl, ?_⟩) (by assumption) ?_
                  rotate_left 1
                  · (intro w' hSw; (try dsimp only at hSw); go_simp; try with_reducible rfl)
                  try simp only [Act.put, qqA, qqB, qqC]
                  refine wtk (i := 6) (oi := oVoS6) (v := ?_) rfl (Or.inl ⟨by rfl, ?_⟩) (by assumption) ?_
                  rotate_left 1
                  · (intro w' hSw; (try dsimp only at hSw); go_simp; try with_reducible rfl)
                  try simp only [Act.put, qqA, qqB, qqC]
                  refine wtk (i := 7) (oi := oVoS7) (v := ?_) rfl (Or.inl ⟨by rfl, ?_⟩) (by assumption) ?_
                  rotate_left 1
                  · (intro w' hSw; (try dsimp only at hSw); go_simp; try with_reducible rfl)
                  try simp only [Act.put, qqA, qqB, qqC]
                  refine wtk (i := 8) (oi := oVoS8) (v := ?_) rfl (Or.inl ⟨by rfl, ?_⟩) (by assumption) ?_
                  rotate_left 1
                  · (intro w' hSw; (try dsimp only at hSw); go_simp; try with_reducible rfl)
                  try simp only [Act.put, qqA, qqB, qqC]
                  refine wpAnyH_ready (rs := [9]) (by kernel_rfl) (by simp) ?_
                  refine AllReadyH.cons (o := oVoS9) rfl (fun K hK => ?_) AllReadyH.nil
                  go_simp
                  refine (sin y 0 _ _).mono ?_
                  rintro e w2 ⟨rfl, hw2⟩
                  subst w2
                  rw [← unhide HC1]
                  go_wp2_with fail
                  refine hK.out _ _ ?_ (fun hHeld9 => ?_)
                  · exact hS0
                  clear hK K
                  try simp only [Act.put, qqA, qqB, qqC]
                  refine wtk (i := 10) (oi := oVoS10) (v := ?_) rfl (Or.inl ⟨by rfl, ?_⟩) (by assumption) ?_
                  rotate_left 1
                  · (intro w' hSw; (try dsimp only at hSw); go_simp; try with_reducible rfl)
                  try simp only [Act.put, qqA, qqB, qqC]
                  refine wtk (i := 11) (oi := oVoS11) (v := ?_) rfl (Or.inl ⟨by rfl, ?_⟩) (by assumption) ?_
                  rotate_left 1
                  · (intro w' hSw; (try dsimp only at hSw); go_simp; try with_reducible rfl)
                  try simp only [Act.put, qqA, qqB, qqC]
                  refine wtk (i := 12) (oi := oVoS12) (v := ?_) rfl (Or.inl ⟨by rfl, ?_⟩) (by assumption) ?_
                  rotate_left 1
                  · (intro w' hSw; (try dsimp only at hSw); go_simp; try with_reducible rfl)
                  try simp only [Act.put, qqA, qqB, qqC]
                  refine wtk (i := 13) (oi := oVoS13) (v := ?_) rfl (Or.inl ⟨by rfl, ?_⟩) (by assumption) ?_
                  rotate_left 1
                  · (intro w' hSw; (try dsimp only at hSw); go_simp; try with_reducible rfl)
                  try simp only [Act.put, qqA, qqB, qqC]
                  refine wtk (i := 14) (oi := oVoS14) (v := ?_) rfl (Or.inl ⟨by rfl, ?_⟩) (by assumption) ?_
                  rotate_left 1
                  · (intro w' hSw; (try dsimp only at hSw); go_simp; try with_reducible rfl)
                  try simp only [Act.put, qqA, qqB, qqC]
                  refine wtk (i := 15) (oi := oVoS15) (v := ?_) rfl (Or.inl ⟨by rfl, ?_⟩) (by assumption) ?_
                  rotate_left 1
                  · (intro w' hSw; (try dsimp only at hSw); go_simp; try with_reducible rfl)
                  try simp only [Act.put, qqA, qqB, qqC]
                  refine wtk (i := 16) (oi := oVoS16) (v := ?_) rfl (Or.inl ⟨by rfl, ?_⟩) (by assumption) ?_
                  rotate_left 1
                  · (intro w' hSw; (try dsimp only at hSw); go_simp; try with_reducible rfl)
                  try simp only [Act.put, qqA, qqB, qqC]
                  refine wtk (i := 17) (oi := oVoS17) (v := ?_) rfl (Or.inl ⟨by rfl, ?_⟩) (by assumption) ?_
                  rotate_left 1
                  · (intro w' hSw; (try dsimp only at hSw); go_simp; try with_reducible rfl)
                  try simp only [Act.put, qqA, qqB, qqC]
                  refine wtk (i := 18) (oi := oVoS18) (v := ?_) rfl (Or.inl ⟨by rfl, ?_⟩) (by assumption) ?_
                  rotate_left 1
                  · (intro w' hSw; (try dsimp only at hSw); go_simp; try with_reducible rfl)
                  try simp only [Act.put, qqA, qqB, qqC]
                  refine wtk (i := 19) (oi := oVoS19) (v := ?_) rfl (Or.inl ⟨by rfl, ?_⟩) (by assumption) ?_
                  rotate_left 1
                  · (intro w' hSw; (try dsimp only at hSw); go_simp; try with_reducible rfl)
                  try simp only [Act.put, qqA, qqB, qqC]
                  refine wpAnyH_ready (rs := [20]) (by kernel_rfl) (by simp) ?_
                  refine AllReadyH.cons (o := oVoS20) rfl (fun K hK => ?_) AllReadyH.nil
                  go_simp
                  refine (srow W hW2 d (unhide HD) false HC2 _).mono ?_
                  rintro e w3 ⟨rfl, hb3⟩
                  have HB3 := hide ((unhide HB).trans ((below_undrew hb3).mono (unhide HB).size))
                  have HA3 := hide ((unhide HA).below (below_undrew hb3))
                  have hS3 := And.intro (unhide HA3).S (And.intro ((hb3.cell (p := ⟨b1, off + k * 2, none⟩) hbw).trans hx0) ((hb3.cell (p := ⟨b1, off + k * 2 + 1, none⟩) hbw).trans hx1))
                  clear hb3
                  go_wp2_with fail
                  refine hK.out _ _ ?_ (fun hHeld20 => ?_)
                  · exact hS3
                  clear hK K
                  try simp only [Act.put, qqA, qqB, qqC]
                  refine wtk (i := 21) (oi := oVoS21) (v := ?_) rfl (Or.inl ⟨by rfl, ?_⟩) (by assumption) ?_
                  rotate_left 1
                  · (intro w' hSw; (try dsimp only at hSw); go_simp; try with_reducible rfl)
                  try simp only [Act.put, qqA, qqB, qqC]
                  refine wtk (i := 22) (oi := oVoS22) (v := ?_) rfl (Or.inl ⟨by rfl, ?_⟩) (by assumption) ?_
                  rotate_left 1
                  · (intro w' hSw; (try dsimp only at hSw); go_simp; try with_reducible rfl)
                  try simp only [Act.put, qqA, qqB, qqC]
                  refine wtk (i := 23) (oi := oVoS23) (v := ?_) rfl (Or.inl ⟨by rfl, ?_⟩) (by assumption) ?_
                  rotate_left 1
                  · (intro w' hSw; (try dsimp only at hSw); go_simp; try with_reducible rfl)
                  try simp only [Act.put, qqA, qqB, qqC]
                  refine wtk (i := 24) (oi := oVoS24) (v := undef) rfl (Or.inr ⟨by rfl, rfl⟩) (by assumption) ?_
                  try simp only [Act.put, qqA, qqB, qqC]
                  refine wtk (i := 25) (oi := oVoS25) (v := undef) rfl (Or.inr ⟨by rfl, rfl⟩) (by assumption) ?_
                  try simp only [Act.put, qqA, qqB, qqC]
                  refine wtk (i := 26) (oi := oVoS26) (v := undef) rfl (Or.inr ⟨by rfl, rfl⟩) (by assumption) ?_
                  try simp only [Act.put, qqA, qqB, qqC]
                  refine wtk (i := 27) (oi := oVoS27) (v := undef) rfl (Or.inr ⟨by rfl, rfl⟩) (by assumption) ?_
                  try simp only [Act.put, qqA, qqB, qqC]
                  refine wtk (i := 28) (oi := oVoS28) (v := undef) rfl (Or.inr ⟨by rfl, rfl⟩) (by assumption) ?_
                  try simp only [Act.put, qqA, qqB, qqC]
                  refine wtk (i := 29) (oi := oVoS29) (v := undef) rfl (Or.inr ⟨by rfl, rfl⟩) (by assumption) ?_
                  try simp only [Act.put, qqA, qqB, qqC]
                  refine wtk (i := 30) (oi := oVoS30) (v := undef) rfl (Or.inr ⟨by rfl, rfl⟩) (by assumption) ?_
                  try simp only [Act.put, qqA, qqB, qqC]
                  refine wtk (i := 31) (oi := oVoS31) (v := undef) rfl (Or.inr ⟨by rfl, rfl⟩) (by assumption) ?_
                  try simp only [Act.put, qqA, qqB, qqC]
                  refine wtk (i := 32) (oi := oVoS32) (v := undef) rfl (Or.inr ⟨by rfl, rfl⟩) (by assumption) ?_
                  try simp only [Act.put, qqA, qqB, qqC]
                  refine wtk (i := 33) (oi := oVoS33) (v := undef) rfl (Or.inr ⟨by rfl, rfl⟩) (by assumption) ?_
                  try simp only [Act.put, qqA, qqB, qqC]
                  refine wtk (i := 34) (oi := oVoS34) (v := undef) rfl (Or.inr ⟨by rfl, rfl⟩) (by assumption) ?_
                  try simp only [Act.put, qqA, qqB, qqC]
                  refine wtk (i := 35) (oi := oVoS35) (v := undef) rfl (Or.inr ⟨by rfl, rfl⟩) (by assumption) ?_
                  try simp only [Act.put, qqA, qqB, qqC]
                  refine wtk (i := 36) (oi := oVoS36) (v := undef) rfl (Or.inr ⟨by rfl, rfl⟩) (by assumption) ?_
                  try simp only [Act.put, qqA, qqB, qqC]
                  refine wtk (i := 37) (oi := oVoS37) (v := undef) rfl (Or.inr ⟨by rfl, rfl⟩) (by assumption) ?_
                  try simp only [Act.put, qqA, qqB, qqC]
                  refine wtk (i := 38) (oi := oVoS38) (v := undef) rfl (Or.inr ⟨by rfl, rfl⟩) (by assumption) ?_
                  try simp only [Act.put, qqA, qqB, qqC]
                  refine wtk (i := 39) (oi := oVoS39) (v := undef) rfl (Or.inr ⟨by rfl, rfl⟩) (by assumption) ?_
                  try simp only [Act.put, qqA, qqB, qqC]
                  refine wtk (i := 40) (oi := oVoS40) (v := undef) rfl (Or.inr ⟨by rfl, rfl⟩) (by assumption) ?_
                  try simp only [Act.put, qqA, qqB, qqC]
                  refine wtk (i := 41) (oi := oVoS41) (v := undef) rfl (Or.inr ⟨by rfl, rfl⟩) (by assumption) ?_
                  try simp only [Act.put, qqA, qqB, qqC]
                  refine wtk (i := 42) (oi := oVoS42) (v := ?_) rfl (Or.inl ⟨by rfl, ?_⟩) (by assumption) ?_
                  rotate_left 1
                  · (intro w' hSw; (try dsimp only at hSw); go_simp; try with_reducible rfl)
                  try simp only [Act.put, qqA, qqB, qqC]
                  refine wpAnyH_done (by kernel_rfl) ?_ _
                  clear HF
                  go_wp2_with fail
                  go_ret
                  exact ⟨rfl, unhide HB3⟩
                | true =>
                  have hst : stepB (H : Int) l k = true := by
                    unfold stepB
                    have h4 := unhide H4
                    rw [unhide HYA, unhide HK0, yPrev_zero, decide_eq_true (by omega), decide_eq_true (by omega)]; rfl
                  have HF2 : Hid (∀ i, i < k + 1 → stepB (H : Int) l i = true ∧ rowAt W (celL l) i = true) := fun i hi => by
                    by_cases e : i = k
                    · subst e; exact ⟨hst, by rw [rowAt_at W _ i (by rw [celL_len]; exact hkR), celL_at l i hkR]; exact unhide HRB⟩
                    · exact unhide HF i (by omega)
                  clear hst
                  go_wp2_with fail
                  refine wp_region_held_drew (S := (fun w' => (∀ o, w'.cell? ⟨w.heap.size, o, none⟩ = (#[.int .i64 nb, .int .i64 fr, .bool fu, .int .i64 (W : Int), .int .i64 (H : Int), .slice (some ⟨b1, off, none⟩) n cap] : Array Value)[o]?) ∧ w'.cell? ⟨b1, off + k * 2, none⟩ = some (.int .i64 y) ∧ w'.cell? ⟨b1, off + k * 2 + 1, none⟩ = some (.string d))) (by kernel_rfl) hS0 (fun hHeld => ?_)
                  refine wtk (i := 0) (oi := oVoS0) (v := ?_) rfl (Or.inl ⟨by rfl, ?_⟩) (by assumption) ?_
                  rotate_left 1
                  · (intro w' hSw; (try dsimp only at hSw); go_simp; try with_reducible rfl)
                  try simp only [Act.put, qqA, qqB, qqC]
                  refine wtk (i := 1) (oi := oVoS1) (v := ?_) rfl (Or.inl ⟨by rfl, ?_⟩) (by assumption) ?_
                  rotate_left 1
                  · (intro w' hSw; (try dsimp only at hSw); go_simp; try with_reducible rfl)
                  try simp only [Act.put, qqA, qqB, qqC]
                  refine wtk (i := 2) (oi := oVoS2) (v := ?_) rfl (Or.inl ⟨by rfl, ?_⟩) (by assumption) ?_
                  rotate_left 1
                  · (intro w' hSw; (try dsimp only at hSw); go_simp; try with_reducible rfl)
                  try simp only [Act.put, qqA, qqB, qqC]
                  refine wtk (i := 3) (oi := oVoS3) (v := ?_) rfl (Or.inl ⟨by rfl, ?_⟩) (by assumption) ?_
                  rotate_left 1
                  · (intro w' hSw; (try dsimp only at hSw); go_simp; try with_reducible rfl)
                  try simp only [Act.put, qqA, qqB, qqC]
                  refine wtk (i := 4) (oi := oVoS4) (v := ?_) rfl (Or.inl ⟨by rfl, ?_⟩) (by assumption) ?_
                  rotate_left 1
                  · (intro w' hSw; (try dsimp only at hSw); go_simp; try with_reducible rfl)
                  try simp only [Act.put, qqA, qqB, qqC]
                  refine wtk (i := 5) (oi := oVoS5) (v := ?_) rfl (Or.inl ⟨by rfl, ?_⟩) (by assumption) ?_
                  rotate_left 1
                  · (intro w' hSw; (try dsimp only at hSw); go_simp; try with_reducible rfl)
                  try simp only [Act.put, qqA, qqB, qqC]
                  refine wtk (i := 6) (oi := oVoS6) (v := ?_) rfl (Or.inl ⟨by rfl, ?_⟩) (by assumption) ?_
                  rotate_left 1
                  · (intro w' hSw; (try dsimp only at hSw); go_simp; try with_reducible rfl)
                  try simp only [Act.put, qqA, qqB, qqC]
                  refine wtk (i := 7) (oi := oVoS7) (v := ?_) rfl (Or.inl ⟨by rfl, ?_⟩) (by assumption) ?_
                  rotate_left 1
                  · (intro w' hSw; (try dsimp only at hSw); go_simp; try with_reducible rfl)
                  try simp only [Act.put, qqA, qqB, qqC]
                  refine wtk (i := 8) (oi := oVoS8) (v := ?_) rfl (Or.inl ⟨by rfl, ?_⟩) (by assumption) ?_
                  rotate_left 1
                  · (intro w' hSw; (try dsimp only at hSw); go_simp; try with_reducible rfl)
                  try simp only [Act.put, qqA, qqB, qqC]
                  refine wpAnyH_ready (rs := [9]) (by kernel_rfl) (by simp) ?_
                  refine AllReadyH.cons (o := oVoS9) rfl (fun K hK => ?_) AllReadyH.nil
                  go_simp
                  refine (sin y 0 _ _).mono ?_
                  rintro e w2 ⟨rfl, hw2⟩
                  subst w2
                  rw [← unhide HC1]
                  go_wp2_with fail
                  refine hK.out _ _ ?_ (fun hHeld9 => ?_)
                  · exact hS0
                  clear hK K
                  try simp only [Act.put, qqA, qqB, qqC]
                  refine wtk (i := 10) (oi := oVoS10) (v := ?_) rfl (Or.inl ⟨by rfl, ?_⟩) (by assumption) ?_
                  rotate_left 1
                  · (intro w' hSw; (try dsimp only at hSw); go_simp; try with_reducible rfl)
                  try simp only [Act.put, qqA, qqB, qqC]
                  refine wtk (i := 11) (oi := oVoS11) (v := ?_) rfl (Or.inl ⟨by rfl, ?_⟩) (by assumption) ?_
                  rotate_left 1
                  · (intro w' hSw; (try dsimp only at hSw); go_simp; try with_reducible rfl)
                  try simp only [Act.put, qqA, qqB, qqC]
                  refine wtk (i := 12) (oi := oVoS12) (v := ?_) rfl (Or.inl ⟨by rfl, ?_⟩) (by assumption) ?_
                  rotate_left 1
                  · (intro w' hSw; (try dsimp only at hSw); go_simp; try with_reducible rfl)
                  try simp only [Act.put, qqA, qqB, qqC]
                  refine wtk (i := 13) (oi := oVoS13) (v := ?_) rfl (Or.inl ⟨by rfl, ?_⟩) (by assumption) ?_
                  rotate_left 1
                  · (intro w' hSw; (try dsimp only at hSw); go_simp; try with_reducible rfl)
                  try simp only [Act.put, qqA, qqB, qqC]
                  refine wtk (i := 14) (oi := oVoS14) (v := ?_) rfl (Or.inl ⟨by rfl, ?_⟩) (by assumption) ?_
                  rotate_left 1
                  · (intro w' hSw; (try dsimp only at hSw); go_simp; try with_reducible rfl)
                  try simp only [Act.put, qqA, qqB, qqC]
                  refine wtk (i := 15) (oi := oVoS15) (v := ?_) rfl (Or.inl ⟨by rfl, ?_⟩) (by assumption) ?_
                  rotate_left 1
                  · (intro w' hSw; (try dsimp only at hSw); go_simp; try with_reducible rfl)
                  try simp only [Act.put, qqA, qqB, qqC]
                  refine wtk (i := 16) (oi := oVoS16) (v := ?_) rfl (Or.inl ⟨by rfl, ?_⟩) (by assumption) ?_
                  rotate_left 1
                  · (intro w' hSw; (try dsimp only at hSw); go_simp; try with_reducible rfl)
                  try simp only [Act.put, qqA, qqB, qqC]
                  refine wtk (i := 17) (oi := oVoS17) (v := ?_) rfl (Or.inl ⟨by rfl, ?_⟩) (by assumption) ?_
                  rotate_left 1
                  · (intro w' hSw; (try dsimp only at hSw); go_simp; try with_reducible rfl)
                  try simp only [Act.put, qqA, qqB, qqC]
                  refine wtk (i := 18) (oi := oVoS18) (v := ?_) rfl (Or.inl ⟨by rfl, ?_⟩) (by assumption) ?_
                  rotate_left 1
                  · (intro w' hSw; (try dsimp only at hSw); go_simp; try with_reducible rfl)
                  try simp only [Act.put, qqA, qqB, qqC]
                  refine wtk (i := 19) (oi := oVoS19) (v := ?_) rfl (Or.inl ⟨by rfl, ?_⟩) (by assumption) ?_
                  rotate_left 1
                  · (intro w' hSw; (try dsimp only at hSw); go_simp; try with_reducible rfl)
                  try simp only [Act.put, qqA, qqB, qqC]
                  refine wpAnyH_ready (rs := [20]) (by kernel_rfl) (by simp) ?_
                  refine AllReadyH.cons (o := oVoS20) rfl (fun K hK => ?_) AllReadyH.nil
                  go_simp
                  refine (srow W hW2 d (unhide HD) true HC2 _).mono ?_
                  rintro e w3 ⟨rfl, hb3⟩
                  have HB3 := hide ((unhide HB).trans ((below_undrew hb3).mono (unhide HB).size))
                  have HA3 := hide ((unhide HA).below (below_undrew hb3))
                  have hS3 := And.intro (unhide HA3).S (And.intro ((hb3.cell (p := ⟨b1, off + k * 2, none⟩) hbw).trans hx0) ((hb3.cell (p := ⟨b1, off + k * 2 + 1, none⟩) hbw).trans hx1))
                  clear hb3
                  go_wp2_with fail
                  refine hK.out _ _ ?_ (fun hHeld20 => ?_)
                  · exact hS3
                  clear hK K
                  try simp only [Act.put, qqA, qqB, qqC]
                  refine wtk (i := 21) (oi := oVoS21) (v := ?_) rfl (Or.inl ⟨by rfl, ?_⟩) (by assumption) ?_
                  rotate_left 1
                  · (intro w' hSw; (try dsimp only at hSw); go_simp; try with_reducible rfl)
                  try simp only [Act.put, qqA, qqB, qqC]
                  refine wtk (i := 22) (oi := oVoS22) (v := ?_) rfl (Or.inl ⟨by rfl, ?_⟩) (by assumption) ?_
                  rotate_left 1
                  · (intro w' hSw; (try dsimp only at hSw); go_simp; try with_reducible rfl)
                  try simp only [Act.put, qqA, qqB, qqC]
                  refine wtk (i := 23) (oi := oVoS23) (v := ?_) rfl (Or.inl ⟨by rfl, ?_⟩) (by assumption) ?_
                  rotate_left 1
                  · (intro w' hSw; (try dsimp only at hSw); go_simp; try with_reducible rfl)
                  try simp only [Act.put, qqA, qqB, qqC]
                  refine wtk (i := 24) (oi := oVoS24) (v := ?_) rfl (Or.inl ⟨by rfl, ?_⟩) (by assumption) ?_
                  rotate_left 1
                  · (intro w' hSw; (try dsimp only at hSw); go_simp; try with_reducible rfl)
                  try simp only [Act.put, qqA, qqB, qqC]
                  refine wpAnyH_take (i := 25) (oi := oVoS25) (v := .bool false) rfl (by kernel_rfl) (by kernel_rfl) (by kernel_rfl) (fun _ _ _ h => h) (Or.inl ⟨by rfl, ?_⟩) (by assumption) ?_
                  · (intro w' hSw; have hkz := unhide HKZ; go_simp)
                  try simp only [Act.put, qqA, qqB, qqC]
                  refine wtk (i := 26) (oi := oVoS26) (v := ?_) rfl (Or.inl ⟨by rfl, ?_⟩) (by assumption) ?_
                  rotate_left 1
                  · (intro w' hSw; (try dsimp only at hSw); go_simp; try with_reducible rfl)
                  try simp only [Act.put, qqA, qqB, qqC]
                  refine wtk (i := 27) (oi := oVoS27) (v := undef) rfl (Or.inr ⟨by rfl, rfl⟩) (by assumption) ?_
                  try simp only [Act.put, qqA, qqB, qqC]
                  refine wtk (i := 28) (oi := oVoS28) (v := undef) rfl (Or.inr ⟨by rfl, rfl⟩) (by assumption) ?_
                  try simp only [Act.put, qqA, qqB, qqC]
                  refine wtk (i := 29) (oi := oVoS29) (v := undef) rfl (Or.inr ⟨by rfl, rfl⟩) (by assumption) ?_
                  try simp only [Act.put, qqA, qqB, qqC]
                  refine wtk (i := 30) (oi := oVoS30) (v := undef) rfl (Or.inr ⟨by rfl, rfl⟩) (by assumption) ?_
                  try simp only [Act.put, qqA, qqB, qqC]
                  refine wtk (i := 31) (oi := oVoS31) (v := undef) rfl (Or.inr ⟨by rfl, rfl⟩) (by assumption) ?_
                  try simp only [Act.put, qqA, qqB, qqC]
                  refine wtk (i := 32) (oi := oVoS32) (v := undef) rfl (Or.inr ⟨by rfl, rfl⟩) (by assumption) ?_
                  try simp only [Act.put, qqA, qqB, qqC]
                  refine wtk (i := 33) (oi := oVoS33) (v := undef) rfl (Or.inr ⟨by rfl, rfl⟩) (by assumption) ?_
                  try simp only [Act.put, qqA, qqB, qqC]
                  refine wtk (i := 34) (oi := oVoS34) (v := undef) rfl (Or.inr ⟨by rfl, rfl⟩) (by assumption) ?_
                  try simp only [Act.put, qqA, qqB, qqC]
                  refine wtk (i := 35) (oi := oVoS35) (v := undef) rfl (Or.inr ⟨by rfl, rfl⟩) (by assumption) ?_
                  try simp only [Act.put, qqA, qqB, qqC]
                  refine wtk (i := 36) (oi := oVoS36) (v := undef) rfl (Or.inr ⟨by rfl, rfl⟩) (by assumption) ?_
                  try simp only [Act.put, qqA, qqB, qqC]
                  refine wtk (i := 37) (oi := oVoS37) (v := undef) rfl (Or.inr ⟨by rfl, rfl⟩) (by assumption) ?_
                  try simp only [Act.put, qqA, qqB, qqC]
                  refine wtk (i := 38) (oi := oVoS38) (v := undef) rfl (Or.inr ⟨by rfl, rfl⟩) (by assumption) ?_
                  try simp only [Act.put, qqA, qqB, qqC]
                  refine wtk (i := 39) (oi := oVoS39) (v := undef) rfl (Or.inr ⟨by rfl, rfl⟩) (by assumption) ?_
                  try simp only [Act.put, qqA, qqB, qqC]
                  refine wtk (i := 40) (oi := oVoS40) (v := undef) rfl (Or.inr ⟨by rfl, rfl⟩) (by assumption) ?_
                  try simp only [Act.put, qqA, qqB, qqC]
                  refine wtk (i := 41) (oi := oVoS41) (v := ?_) rfl (Or.inl ⟨by rfl, ?_⟩) (by assumption) ?_
                  rotate_left 1
                  · (intro w' hSw; (try dsimp only at hSw); go_simp; try with_reducible rfl)
                  try simp only [Act.put, qqA, qqB, qqC]
                  refine wtk (i := 42) (oi := oVoS42) (v := ?_) rfl (Or.inl ⟨by rfl, ?_⟩) (by assumption) ?_
                  rotate_left 1
                  · (intro w' hSw; (try dsimp only at hSw); go_simp; try with_reducible rfl)
                  try simp only [Act.put, qqA, qqB, qqC]
                  refine wpAnyH_done (by kernel_rfl) ?_ _
                  clear HF
                  go_wp2_with fail
                  go_roundw
                  case rel => exact ⟨k + 1, by omega, by go_num, HF2, HB3, HA3⟩
                  case measure => simp [intOf]; omega
            · obtain ⟨k1, hk1⟩ : ∃ k1, k1 = k - 1 := ⟨_, rfl⟩
              have e3 : (k : Int) - 1 = (k1 : Int) := by omega
              have e4 : (0 : Int) ≤ (k1 : Int) := by omega
              have e3w : IntKind.i64.wrap (k1 : Int) = (k1 : Int) := wrapi _ (by omega) (by omega)
              have e5 : (k1 : Int) < (n : Int) := by omega
              have hk1R : k1 < l.length := by omega
              obtain ⟨y0, -⟩ := row_ent hc k1 hk1R
              obtain ⟨y1, ey1⟩ : ∃ y, y = l[k1].1 := ⟨_, rfl⟩
              rw [← ey1] at y0
              have hx2 : wr.cell? ⟨b1, off + k1 * 2, none⟩ = some (.int .i64 y1) := ((unhide HB).cell (p := ⟨b1, off + k1 * 2, none⟩) hblt).trans y0
              have HYP : Hid (yPrev l k = y1) := by show _ = _; rw [show k = k1 + 1 from by omega, yPrev_succ, yAt_at l k1 hk1R, ey1]
              have hS0 := And.intro kA (And.intro hx0 (And.intro hx1 hx2))
              have HKZ : Hid (decide (0 < k) = true) := decide_eq_true (by omega)
              clear hc x0 x1 y0 ey ed ey1 hk1 hk0
              cases c1 with
              | false =>
                have hst : stepB (H : Int) l k = false := by
                  unfold stepB
                  rw [unhide HYA]
                  have h3 := prev_ge k fun i hi => (unhide HF i hi).1
                  have h4 : ¬ (0 ≤ y ∧ y ≤ (h1 : Int)) := of_decide_eq_false (unhide HC1).symm
                  rw [Bool.and_eq_false_iff]
                  by_cases h5 : 0 ≤ y
                  · right; exact decide_eq_false (by omega)
                  · left; exact decide_eq_false (by omega)
                have HQF : Hid (Q = false) := by show _ = _; rw [unhide HQ2, rise_no hkR hst]; simp
                obtain rfl : Q = false := unhide HQF
                clear hst
                go_wp2_with fail
                refine wp_region_held_drew (S := (fun w' => (∀ o, w'.cell? ⟨w.heap.size, o, none⟩ = (#[.int .i64 nb, .int .i64 fr, .bool fu, .int .i64 (W : Int), .int .i64 (H : Int), .slice (some ⟨b1, off, none⟩) n cap] : Array Value)[o]?) ∧ w'.cell? ⟨b1, off + k * 2, none⟩ = some (.int .i64 y) ∧ w'.cell? ⟨b1, off + k * 2 + 1, none⟩ = some (.string d) ∧ w'.cell? ⟨b1, off + k1 * 2, none⟩ = some (.int .i64 y1))) (by kernel_rfl) hS0 (fun hHeld => ?_)
                refine wtk (i := 0) (oi := oVoS0) (v := ?_) rfl (Or.inl ⟨by rfl, ?_⟩) (by assumption) ?_
                rotate_left 1
                · (intro w' hSw; (try dsimp only at hSw); go_simp; try with_reducible rfl)
                try simp only [Act.put, qqA, qqB, qqC]
                refine wtk (i := 1) (oi := oVoS1) (v := ?_) rfl (Or.inl ⟨by rfl, ?_⟩) (by assumption) ?_
                rotate_left 1
                · (intro w' hSw; (try dsimp only at hSw); go_simp; try with_reducible rfl)
                try simp only [Act.put, qqA, qqB, qqC]
                refine wtk (i := 2) (oi := oVoS2) (v := ?_) rfl (Or.inl ⟨by rfl, ?_⟩) (by assumption) ?_
                rotate_left 1
                · (intro w' hSw; (try dsimp only at hSw); go_simp; try with_reducible rfl)
                try simp only [Act.put, qqA, qqB, qqC]
                refine wtk (i := 3) (oi := oVoS3) (v := ?_) rfl (Or.inl ⟨by rfl, ?_⟩) (by assumption) ?_
                rotate_left 1
                · (intro w' hSw; (try dsimp only at hSw); go_simp; try with_reducible rfl)
                try simp only [Act.put, qqA, qqB, qqC]
                refine wtk (i := 4) (oi := oVoS4) (v := ?_) rfl (Or.inl ⟨by rfl, ?_⟩) (by assumption) ?_
                rotate_left 1
                · (intro w' hSw; (try dsimp only at hSw); go_simp; try with_reducible rfl)
                try simp only [Act.put, qqA, qqB, qqC]
                refine wtk (i := 5) (oi := oVoS5) (v := ?_) rfl (Or.inl ⟨by rfl, ?_⟩) (by assumption) ?_
                rotate_left 1
                · (intro w' hSw; (try dsimp only at hSw); go_simp; try with_reducible rfl)
                try simp only [Act.put, qqA, qqB, qqC]
                refine wtk (i := 6) (oi := oVoS6) (v := ?_) rfl (Or.inl ⟨by rfl, ?_⟩) (by assumption) ?_
                rotate_left 1
                · (intro w' hSw; (try dsimp only at hSw); go_simp; try with_reducible rfl)
                try simp only [Act.put, qqA, qqB, qqC]
                refine wtk (i := 7) (oi := oVoS7) (v := ?_) rfl (Or.inl ⟨by rfl, ?_⟩) (by assumption) ?_
                rotate_left 1
                · (intro w' hSw; (try dsimp only at hSw); go_simp; try with_reducible rfl)
                try simp only [Act.put, qqA, qqB, qqC]
                refine wtk (i := 8) (oi := oVoS8) (v := ?_) rfl (Or.inl ⟨by rfl, ?_⟩) (by assumption) ?_
                rotate_left 1
                · (intro w' hSw; (try dsimp only at hSw); go_simp; try with_reducible rfl)
                try simp only [Act.put, qqA, qqB, qqC]
                refine wpAnyH_ready (rs := [9]) (by kernel_rfl) (by simp) ?_
                refine AllReadyH.cons (o := oVoS9) rfl (fun K hK => ?_) AllReadyH.nil
                go_simp
                refine (sin y 0 _ _).mono ?_
                rintro e w2 ⟨rfl, hw2⟩
                subst w2
                rw [← unhide HC1]
                go_wp2_with fail
                refine hK.out _ _ ?_ (fun hHeld9 => ?_)
                · exact hS0
                clear hK K
                try simp only [Act.put, qqA, qqB, qqC]
                refine wtk (i := 10) (oi := oVoS10) (v := ?_) rfl (Or.inl ⟨by rfl, ?_⟩) (by assumption) ?_
                rotate_left 1
                · (intro w' hSw; (try dsimp only at hSw); go_simp; try with_reducible rfl)
                try simp only [Act.put, qqA, qqB, qqC]
                refine wtk (i := 11) (oi := oVoS11) (v := ?_) rfl (Or.inl ⟨by rfl, ?_⟩) (by assumption) ?_
                rotate_left 1
                · (intro w' hSw; (try dsimp only at hSw); go_simp; try with_reducible rfl)
                try simp only [Act.put, qqA, qqB, qqC]
                refine wtk (i := 12) (oi := oVoS12) (v := undef) rfl (Or.inr ⟨by rfl, rfl⟩) (by assumption) ?_
                try simp only [Act.put, qqA, qqB, qqC]
                refine wtk (i := 13) (oi := oVoS13) (v := undef) rfl (Or.inr ⟨by rfl, rfl⟩) (by assumption) ?_
                try simp only [Act.put, qqA, qqB, qqC]
                refine wtk (i := 14) (oi := oVoS14) (v := undef) rfl (Or.inr ⟨by rfl, rfl⟩) (by assumption) ?_
                try simp only [Act.put, qqA, qqB, qqC]
                refine wtk (i := 15) (oi := oVoS15) (v := undef) rfl (Or.inr ⟨by rfl, rfl⟩) (by assumption) ?_
                try simp only [Act.put, qqA, qqB, qqC]
                refine wtk (i := 16) (oi := oVoS16) (v := undef) rfl (Or.inr ⟨by rfl, rfl⟩) (by assumption) ?_
                try simp only [Act.put, qqA, qqB, qqC]
                refine wtk (i := 17) (oi := oVoS17) (v := undef) rfl (Or.inr ⟨by rfl, rfl⟩) (by assumption) ?_
                try simp only [Act.put, qqA, qqB, qqC]
                refine wtk (i := 18) (oi := oVoS18) (v := undef) rfl (Or.inr ⟨by rfl, rfl⟩) (by assumption) ?_
                try simp only [Act.put, qqA, qqB, qqC]
                refine wtk (i := 19) (oi := oVoS19) (v := undef) rfl (Or.inr ⟨by rfl, rfl⟩) (by assumption) ?_
                try simp only [Act.put, qqA, qqB, qqC]
                refine wtk (i := 20) (oi := oVoS20) (v := undef) rfl (Or.inr ⟨by rfl, rfl⟩) (by assumption) ?_
                try simp only [Act.put, qqA, qqB, qqC]
                refine wtk (i := 21) (oi := oVoS21) (v := undef) rfl (Or.inr ⟨by rfl, rfl⟩) (by assumption) ?_
                try simp only [Act.put, qqA, qqB, qqC]
                refine wtk (i := 22) (oi := oVoS22) (v := ?_) rfl (Or.inl ⟨by rfl, ?_⟩) (by assumption) ?_
                rotate_left 1
                · (intro w' hSw; (try dsimp only at hSw); go_simp; try with_reducible rfl)
                try simp only [Act.put, qqA, qqB, qqC]
                refine wtk (i := 23) (oi := oVoS23) (v := ?_) rfl (Or.inl ⟨by rfl, ?_⟩) (by assumption) ?_
                rotate_left 1
                · (intro w' hSw; (try dsimp only at hSw); go_simp; try with_reducible rfl)
                try simp only [Act.put, qqA, qqB, qqC]
                refine wtk (i := 24) (oi := oVoS24) (v := undef) rfl (Or.inr ⟨by rfl, rfl⟩) (by assumption) ?_
                try simp only [Act.put, qqA, qqB, qqC]
                refine wtk (i := 25) (oi := oVoS25) (v := undef) rfl (Or.inr ⟨by rfl, rfl⟩) (by assumption) ?_
                try simp only [Act.put, qqA, qqB, qqC]
                refine wtk (i := 26) (oi := oVoS26) (v := undef) rfl (Or.inr ⟨by rfl, rfl⟩) (by assumption) ?_
                try simp only [Act.put, qqA, qqB, qqC]
                refine wtk (i := 27) (oi := oVoS27) (v := undef) rfl (Or.inr ⟨by rfl, rfl⟩) (by assumption) ?_
                try simp only [Act.put, qqA, qqB, qqC]
                refine wtk (i := 28) (oi := oVoS28) (v := undef) rfl (Or.inr ⟨by rfl, rfl⟩) (by assumption) ?_
                try simp only [Act.put, qqA, qqB, qqC]
                refine wtk (i := 29) (oi := oVoS29) (v := undef) rfl (Or.inr ⟨by rfl, rfl⟩) (by assumption) ?_
                try simp only [Act.put, qqA, qqB, qqC]
                refine wtk (i := 30) (oi := oVoS30) (v := undef) rfl (Or.inr ⟨by rfl, rfl⟩) (by assumption) ?_
                try simp only [Act.put, qqA, qqB, qqC]
                refine wtk (i := 31) (oi := oVoS31) (v := undef) rfl (Or.inr ⟨by rfl, rfl⟩) (by assumption) ?_
                try simp only [Act.put, qqA, qqB, qqC]
                refine wtk (i := 32) (oi := oVoS32) (v := undef) rfl (Or.inr ⟨by rfl, rfl⟩) (by assumption) ?_
                try simp only [Act.put, qqA, qqB, qqC]
                refine wtk (i := 33) (oi := oVoS33) (v := undef) rfl (Or.inr ⟨by rfl, rfl⟩) (by assumption) ?_
                try simp only [Act.put, qqA, qqB, qqC]
                refine wtk (i := 34) (oi := oVoS34) (v := undef) rfl (Or.inr ⟨by rfl, rfl⟩) (by assumption) ?_
                try simp only [Act.put, qqA, qqB, qqC]
                refine wtk (i := 35) (oi := oVoS35) (v := undef) rfl (Or.inr ⟨by rfl, rfl⟩) (by assumption) ?_
                try simp only [Act.put, qqA, qqB, qqC]
                refine wtk (i := 36) (oi := oVoS36) (v := undef) rfl (Or.inr ⟨by rfl, rfl⟩) (by assumption) ?_
                try simp only [Act.put, qqA, qqB, qqC]
                refine wtk (i := 37) (oi := oVoS37) (v := undef) rfl (Or.inr ⟨by rfl, rfl⟩) (by assumption) ?_
                try simp only [Act.put, qqA, qqB, qqC]
                refine wtk (i := 38) (oi := oVoS38) (v := undef) rfl (Or.inr ⟨by rfl, rfl⟩) (by assumption) ?_
                try simp only [Act.put, qqA, qqB, qqC]
                refine wtk (i := 39) (oi := oVoS39) (v := undef) rfl (Or.inr ⟨by rfl, rfl⟩) (by assumption) ?_
                try simp only [Act.put, qqA, qqB, qqC]
                refine wtk (i := 40) (oi := oVoS40) (v := undef) rfl (Or.inr ⟨by rfl, rfl⟩) (by assumption) ?_
                try simp only [Act.put, qqA, qqB, qqC]
                refine wtk (i := 41) (oi := oVoS41) (v := undef) rfl (Or.inr ⟨by rfl, rfl⟩) (by assumption) ?_
                try simp only [Act.put, qqA, qqB, qqC]
                refine wtk (i := 42) (oi := oVoS42) (v := ?_) rfl (Or.inl ⟨by rfl, ?_⟩) (by assumption) ?_
                rotate_left 1
                · (intro w' hSw; (try dsimp only at hSw); go_simp; try with_reducible rfl)
                try simp only [Act.put, qqA, qqB, qqC]
                refine wpAnyH_done (by kernel_rfl) ?_ _
                clear HF
                go_wp2_with fail
                go_ret
                exact ⟨rfl, (unhide HB).drew⟩
              | true =>
                have h4 : 0 ≤ y ∧ y ≤ (h1 : Int) := of_decide_eq_true (unhide HC1).symm
                have H4 := hide h4
                clear h4
                obtain ⟨c2, hc2⟩ : ∃ c, c = rowB W d := ⟨_, rfl⟩
                have HC2 := hide hc2
                have HRB : Hid (rowB W l[k].2 = c2) := by show _ = _; rw [hc2, unhide HED]
                clear hc2
                cases c2 with
                | false =>
                  have hall : (celL l).all (rowB W) = false := all_bad (q := k) (by rw [celL_len]; exact hkR) (by rw [celL_at l k hkR]; exact unhide HRB)
                  have HQF : Hid (Q = false) := by show _ = _; rw [unhide HQ2, hall]; simp
                  obtain rfl : Q = false := unhide HQF
                  clear hall
                  go_wp2_with fail
                  refine wp_region_held_drew (S := (fun w' => (∀ o, w'.cell? ⟨w.heap.size, o, none⟩ = (#[.int .i64 nb, .int .i64 fr, .bool fu, .int .i64 (W : Int), .int .i64 (H : Int), .slice (some ⟨b1, off, none⟩) n cap] : Array Value)[o]?) ∧ w'.cell? ⟨b1, off + k * 2, none⟩ = some (.int .i64 y) ∧ w'.cell? ⟨b1, off + k * 2 + 1, none⟩ = some (.string d) ∧ w'.cell? ⟨b1, off + k1 * 2, none⟩ = some (.int .i64 y1))) (by kernel_rfl) hS0 (fun hHeld => ?_)
                  refine wtk (i := 0) (oi := oVoS0) (v := ?_) rfl (Or.inl ⟨by rfl, ?_⟩) (by assumption) ?_
                  rotate_left 1
                  · (intro w' hSw; (try dsimp only at hSw); go_simp; try with_reducible rfl)
                  try simp only [Act.put, qqA, qqB, qqC]
                  refine wtk (i := 1) (oi := oVoS1) (v := ?_) rfl (Or.inl ⟨by rfl, ?_⟩) (by assumption) ?_
                  rotate_left 1
                  · (intro w' hSw; (try dsimp only at hSw); go_simp; try with_reducible rfl)
                  try simp only [Act.put, qqA, qqB, qqC]
                  refine wtk (i := 2) (oi := oVoS2) (v := ?_) rfl (Or.inl ⟨by rfl, ?_⟩) (by assumption) ?_
                  rotate_left 1
                  · (intro w' hSw; (try dsimp only at hSw); go_simp; try with_reducible rfl)
                  try simp only [Act.put, qqA, qqB, qqC]
                  refine wtk (i := 3) (oi := oVoS3) (v := ?_) rfl (Or.inl ⟨by rfl, ?_⟩) (by assumption) ?_
                  rotate_left 1
                  · (intro w' hSw; (try dsimp only at hSw); go_simp; try with_reducible rfl)
                  try simp only [Act.put, qqA, qqB, qqC]
                  refine wtk (i := 4) (oi := oVoS4) (v := ?_) rfl (Or.inl ⟨by rfl, ?_⟩) (by assumption) ?_
                  rotate_left 1
                  · (intro w' hSw; (try dsimp only at hSw); go_simp; try with_reducible rfl)
                  try simp only [Act.put, qqA, qqB, qqC]
                  refine wtk (i := 5) (oi := oVoS5) (v := ?_) rfl (Or.inl ⟨by rfl, ?_⟩) (by assumption) ?_
                  rotate_left 1
                  · (intro w' hSw; (try dsimp only at hSw); go_simp; try with_reducible rfl)
                  try simp only [Act.put, qqA, qqB, qqC]
                  refine wtk (i := 6) (oi := oVoS6) (v := ?_) rfl (Or.inl ⟨by rfl, ?_⟩) (by assumption) ?_
                  rotate_left 1
                  · (intro w' hSw; (try dsimp only at hSw); go_simp; try with_reducible rfl)
                  try simp only [Act.put, qqA, qqB, qqC]
                  refine wtk (i := 7) (oi := oVoS7) (v := ?_) rfl (Or.inl ⟨by rfl, ?_⟩) (by assumption) ?_
                  rotate_left 1
                  · (intro w' hSw; (try dsimp only at hSw); go_simp; try with_reducible rfl)
                  try simp only [Act.put, qqA, qqB, qqC]
                  refine wtk (i := 8) (oi := oVoS8) (v := ?_) rfl (Or.inl ⟨by rfl, ?_⟩) (by assumption) ?_
                  rotate_left 1
                  · (intro w' hSw; (try dsimp only at hSw); go_simp; try with_reducible rfl)
                  try simp only [Act.put, qqA, qqB, qqC]
                  refine wpAnyH_ready (rs := [9]) (by kernel_rfl) (by simp) ?_
                  refine AllReadyH.cons (o := oVoS9) rfl (fun K hK => ?_) AllReadyH.nil
                  go_simp
                  refine (sin y 0 _ _).mono ?_
                  rintro e w2 ⟨rfl, hw2⟩
                  subst w2
                  rw [← unhide HC1]
                  go_wp2_with fail
                  refine hK.out _ _ ?_ (fun hHeld9 => ?_)
                  · exact hS0
                  clear hK K
                  try simp only [Act.put, qqA, qqB, qqC]
                  refine wtk (i := 10) (oi := oVoS10) (v := ?_) rfl (Or.inl ⟨by rfl, ?_⟩) (by assumption) ?_
                  rotate_left 1
                  · (intro w' hSw; (try dsimp only at hSw); go_simp; try with_reducible rfl)
                  try simp only [Act.put, qqA, qqB, qqC]
                  refine wtk (i := 11) (oi := oVoS11) (v := ?_) rfl (Or.inl ⟨by rfl, ?_⟩) (by assumption) ?_
                  rotate_left 1
                  · (intro w' hSw; (try dsimp only at hSw); go_simp; try with_reducible rfl)
                  try simp only [Act.put, qqA, qqB, qqC]
                  refine wtk (i := 12) (oi := oVoS12) (v := ?_) rfl (Or.inl ⟨by rfl, ?_⟩) (by assumption) ?_
                  rotate_left 1
                  · (intro w' hSw; (try dsimp only at hSw); go_simp; try with_reducible rfl)
                  try simp only [Act.put, qqA, qqB, qqC]
                  refine wtk (i := 13) (oi := oVoS13) (v := ?_) rfl (Or.inl ⟨by rfl, ?_⟩) (by assumption) ?_
                  rotate_left 1
                  · (intro w' hSw; (try dsimp only at hSw); go_simp; try with_reducible rfl)
                  try simp only [Act.put, qqA, qqB, qqC]
                  refine wtk (i := 14) (oi := oVoS14) (v := ?_) rfl (Or.inl ⟨by rfl, ?_⟩) (by assumption) ?_
                  rotate_left 1
                  · (intro w' hSw; (try dsimp only at hSw); go_simp; try with_reducible rfl)
                  try simp only [Act.put, qqA, qqB, qqC]
                  refine wtk (i := 15) (oi := oVoS15) (v := ?_) rfl (Or.inl ⟨by rfl, ?_⟩) (by assumption) ?_
                  rotate_left 1
                  · (intro w' hSw; (try dsimp only at hSw); go_simp; try with_reducible rfl)
                  try simp only [Act.put, qqA, qqB, qqC]
                  refine wtk (i := 16) (oi := oVoS16) (v := ?_) rfl (Or.inl ⟨by rfl, ?_⟩) (by assumption) ?_
                  rotate_left 1
                  · (intro w' hSw; (try dsimp only at hSw); go_simp; try with_reducible rfl)
                  try simp only [Act.put, qqA, qqB, qqC]
                  refine wtk (i := 17) (oi := oVoS17) (v := ?_) rfl (Or.inl ⟨by rfl, ?_⟩) (by assumption) ?_
                  rotate_left 1
                  · (intro w' hSw; (try dsimp only at hSw); go_simp; try with_reducible rfl)
                  try simp only [Act.put, qqA, qqB, qqC]
                  refine wtk (i := 18) (oi := oVoS18) (v := ?_) rfl (Or.inl ⟨by rfl, ?_⟩) (by assumption) ?_
                  rotate_left 1
                  · (intro w' hSw; (try dsimp only at hSw); go_simp; try with_reducible rfl)
                  try simp only [Act.put, qqA, qqB, qqC]
                  refine wtk (i := 19) (oi := oVoS19) (v := ?_) rfl (Or.inl ⟨by rfl, ?_⟩) (by assumption) ?_
                  rotate_left 1
                  · (intro w' hSw; (try dsimp only at hSw); go_simp; try with_reducible rfl)
                  try simp only [Act.put, qqA, qqB, qqC]
                  refine wpAnyH_ready (rs := [20]) (by kernel_rfl) (by simp) ?_
                  refine AllReadyH.cons (o := oVoS20) rfl (fun K hK => ?_) AllReadyH.nil
                  go_simp
                  refine (srow W hW2 d (unhide HD) false HC2 _).mono ?_
                  rintro e w3 ⟨rfl, hb3⟩
                  have HB3 := hide ((unhide HB).trans ((below_undrew hb3).mono (unhide HB).size))
                  have HA3 := hide ((unhide HA).below (below_undrew hb3))
                  have hS3 := And.intro (unhide HA3).S (And.intro ((hb3.cell (p := ⟨b1, off + k * 2, none⟩) hbw).trans hx0) (And.intro ((hb3.cell (p := ⟨b1, off + k * 2 + 1, none⟩) hbw).trans hx1) ((hb3.cell (p := ⟨b1, off + k1 * 2, none⟩) hbw).trans hx2)))
                  clear hb3
                  go_wp2_with fail
                  refine hK.out _ _ ?_ (fun hHeld20 => ?_)
                  · exact hS3
                  clear hK K
                  try simp only [Act.put, qqA, qqB, qqC]
                  refine wtk (i := 21) (oi := oVoS21) (v := ?_) rfl (Or.inl ⟨by rfl, ?_⟩) (by assumption) ?_
                  rotate_left 1
                  · (intro w' hSw; (try dsimp only at hSw); go_simp; try with_reducible rfl)
                  try simp only [Act.put, qqA, qqB, qqC]
                  refine wtk (i := 22) (oi := oVoS22) (v := ?_) rfl (Or.inl ⟨by rfl, ?_⟩) (by assumption) ?_
                  rotate_left 1
                  · (intro w' hSw; (try dsimp only at hSw); go_simp; try with_reducible rfl)
                  try simp only [Act.put, qqA, qqB, qqC]
                  refine wtk (i := 23) (oi := oVoS23) (v := ?_) rfl (Or.inl ⟨by rfl, ?_⟩) (by assumption) ?_
                  rotate_left 1
                  · (intro w' hSw; (try dsimp only at hSw); go_simp; try with_reducible rfl)
                  try simp only [Act.put, qqA, qqB, qqC]
                  refine wtk (i := 24) (oi := oVoS24) (v := undef) rfl (Or.inr ⟨by rfl, rfl⟩) (by assumption) ?_
                  try simp only [Act.put, qqA, qqB, qqC]
                  refine wtk (i := 25) (oi := oVoS25) (v := undef) rfl (Or.inr ⟨by rfl, rfl⟩) (by assumption) ?_
                  try simp only [Act.put, qqA, qqB, qqC]
                  refine wtk (i := 26) (oi := oVoS26) (v := undef) rfl (Or.inr ⟨by rfl, rfl⟩) (by assumption) ?_
                  try simp only [Act.put, qqA, qqB, qqC]
                  refine wtk (i := 27) (oi := oVoS27) (v := undef) rfl (Or.inr ⟨by rfl, rfl⟩) (by assumption) ?_
                  try simp only [Act.put, qqA, qqB, qqC]
                  refine wtk (i := 28) (oi := oVoS28) (v := undef) rfl (Or.inr ⟨by rfl, rfl⟩) (by assumption) ?_
                  try simp only [Act.put, qqA, qqB, qqC]
                  refine wtk (i := 29) (oi := oVoS29) (v := undef) rfl (Or.inr ⟨by rfl, rfl⟩) (by assumption) ?_
                  try simp only [Act.put, qqA, qqB, qqC]
                  refine wtk (i := 30) (oi := oVoS30) (v := undef) rfl (Or.inr ⟨by rfl, rfl⟩) (by assumption) ?_
                  try simp only [Act.put, qqA, qqB, qqC]
                  refine wtk (i := 31) (oi := oVoS31) (v := undef) rfl (Or.inr ⟨by rfl, rfl⟩) (by assumption) ?_
                  try simp only [Act.put, qqA, qqB, qqC]
                  refine wtk (i := 32) (oi := oVoS32) (v := undef) rfl (Or.inr ⟨by rfl, rfl⟩) (by assumption) ?_
                  try simp only [Act.put, qqA, qqB, qqC]
                  refine wtk (i := 33) (oi := oVoS33) (v := undef) rfl (Or.inr ⟨by rfl, rfl⟩) (by assumption) ?_
                  try simp only [Act.put, qqA, qqB, qqC]
                  refine wtk (i := 34) (oi := oVoS34) (v := undef) rfl (Or.inr ⟨by rfl, rfl⟩) (by assumption) ?_
                  try simp only [Act.put, qqA, qqB, qqC]
                  refine wtk (i := 35) (oi := oVoS35) (v := undef) rfl (Or.inr ⟨by rfl, rfl⟩) (by assumption) ?_
                  try simp only [Act.put, qqA, qqB, qqC]
                  refine wtk (i := 36) (oi := oVoS36) (v := undef) rfl (Or.inr ⟨by rfl, rfl⟩) (by assumption) ?_
                  try simp only [Act.put, qqA, qqB, qqC]
                  refine wtk (i := 37) (oi := oVoS37) (v := undef) rfl (Or.inr ⟨by rfl, rfl⟩) (by assumption) ?_
                  try simp only [Act.put, qqA, qqB, qqC]
                  refine wtk (i := 38) (oi := oVoS38) (v := undef) rfl (Or.inr ⟨by rfl, rfl⟩) (by assumption) ?_
                  try simp only [Act.put, qqA, qqB, qqC]
                  refine wtk (i := 39) (oi := oVoS39) (v := undef) rfl (Or.inr ⟨by rfl, rfl⟩) (by assumption) ?_
                  try simp only [Act.put, qqA, qqB, qqC]
                  refine wtk (i := 40) (oi := oVoS40) (v := undef) rfl (Or.inr ⟨by rfl, rfl⟩) (by assumption) ?_
                  try simp only [Act.put, qqA, qqB, qqC]
                  refine wtk (i := 41) (oi := oVoS41) (v := undef) rfl (Or.inr ⟨by rfl, rfl⟩) (by assumption) ?_
                  try simp only [Act.put, qqA, qqB, qqC]
                  refine wtk (i := 42) (oi := oVoS42) (v := ?_) rfl (Or.inl ⟨by rfl, ?_⟩) (by assumption) ?_
                  rotate_left 1
                  · (intro w' hSw; (try dsimp only at hSw); go_simp; try with_reducible rfl)
                  try simp only [Act.put, qqA, qqB, qqC]
                  refine wpAnyH_done (by kernel_rfl) ?_ _
                  clear HF
                  go_wp2_with fail
                  go_ret
                  exact ⟨rfl, unhide HB3⟩
                | true =>
                  by_cases h6 : y1 < y
                  · have hst : stepB (H : Int) l k = true := by
                      unfold stepB
                      have h4 := unhide H4
                      rw [unhide HYA, unhide HYP, decide_eq_true h6, decide_eq_true (by omega)]; rfl
                    have HF2 : Hid (∀ i, i < k + 1 → stepB (H : Int) l i = true ∧ rowAt W (celL l) i = true) := fun i hi => by
                      by_cases e : i = k
                      · subst e; exact ⟨hst, by rw [rowAt_at W _ i (by rw [celL_len]; exact hkR), celL_at l i hkR]; exact unhide HRB⟩
                      · exact unhide HF i (by omega)
                    have h6' : decide (y ≤ y1) = false := decide_eq_false (by omega)
                    have h6n : ¬ y ≤ y1 := by omega
                    clear hst h6
                    go_wp2_with fail
                    refine wp_region_held_drew (S := (fun w' => (∀ o, w'.cell? ⟨w.heap.size, o, none⟩ = (#[.int .i64 nb, .int .i64 fr, .bool fu, .int .i64 (W : Int), .int .i64 (H : Int), .slice (some ⟨b1, off, none⟩) n cap] : Array Value)[o]?) ∧ w'.cell? ⟨b1, off + k * 2, none⟩ = some (.int .i64 y) ∧ w'.cell? ⟨b1, off + k * 2 + 1, none⟩ = some (.string d) ∧ w'.cell? ⟨b1, off + k1 * 2, none⟩ = some (.int .i64 y1))) (by kernel_rfl) hS0 (fun hHeld => ?_)
                    refine wtk (i := 0) (oi := oVoS0) (v := ?_) rfl (Or.inl ⟨by rfl, ?_⟩) (by assumption) ?_
                    rotate_left 1
                    · (intro w' hSw; (try dsimp only at hSw); go_simp; try with_reducible rfl)
                    try simp only [Act.put, qqA, qqB, qqC]
                    refine wtk (i := 1) (oi := oVoS1) (v := ?_) rfl (Or.inl ⟨by rfl, ?_⟩) (by assumption) ?_
                    rotate_left 1
                    · (intro w' hSw; (try dsimp only at hSw); go_simp; try with_reducible rfl)
                    try simp only [Act.put, qqA, qqB, qqC]
                    refine wtk (i := 2) (oi := oVoS2) (v := ?_) rfl (Or.inl ⟨by rfl, ?_⟩) (by assumption) ?_
                    rotate_left 1
                    · (intro w' hSw; (try dsimp only at hSw); go_simp; try with_reducible rfl)
                    try simp only [Act.put, qqA, qqB, qqC]
                    refine wtk (i := 3) (oi := oVoS3) (v := ?_) rfl (Or.inl ⟨by rfl, ?_⟩) (by assumption) ?_
                    rotate_left 1
                    · (intro w' hSw; (try dsimp only at hSw); go_simp; try with_reducible rfl)
                    try simp only [Act.put, qqA, qqB, qqC]
                    refine wtk (i := 4) (oi := oVoS4) (v := ?_) rfl (Or.inl ⟨by rfl, ?_⟩) (by assumption) ?_
                    rotate_left 1
                    · (intro w' hSw; (try dsimp only at hSw); go_simp; try with_reducible rfl)
                    try simp only [Act.put, qqA, qqB, qqC]
                    refine wtk (i := 5) (oi := oVoS5) (v := ?_) rfl (Or.inl ⟨by rfl, ?_⟩) (by assumption) ?_
                    rotate_left 1
                    · (intro w' hSw; (try dsimp only at hSw); go_simp; try with_reducible rfl)
                    try simp only [Act.put, qqA, qqB, qqC]
                    refine wtk (i := 6) (oi := oVoS6) (v := ?_) rfl (Or.inl ⟨by rfl, ?_⟩) (by assumption) ?_
                    rotate_left 1
                    · (intro w' hSw; (try dsimp only at hSw); go_simp; try with_reducible rfl)
                    try simp only [Act.put, qqA, qqB, qqC]
                    refine wtk (i := 7) (oi := oVoS7) (v := ?_) rfl (Or.inl ⟨by rfl, ?_⟩) (by assumption) ?_
                    rotate_left 1
                    · (intro w' hSw; (try dsimp only at hSw); go_simp; try with_reducible rfl)
                    try simp only [Act.put, qqA, qqB, qqC]
                    refine wtk (i := 8) (oi := oVoS8) (v := ?_) rfl (Or.inl ⟨by rfl, ?_⟩) (by assumption) ?_
                    rotate_left 1
                    · (intro w' hSw; (try dsimp only at hSw); go_simp; try with_reducible rfl)
                    try simp only [Act.put, qqA, qqB, qqC]
                    refine wpAnyH_ready (rs := [9]) (by kernel_rfl) (by simp) ?_
                    refine AllReadyH.cons (o := oVoS9) rfl (fun K hK => ?_) AllReadyH.nil
                    go_simp
                    refine (sin y 0 _ _).mono ?_
                    rintro e w2 ⟨rfl, hw2⟩
                    subst w2
                    rw [← unhide HC1]
                    go_wp2_with fail
                    refine hK.out _ _ ?_ (fun hHeld9 => ?_)
                    · exact hS0
                    clear hK K
                    try simp only [Act.put, qqA, qqB, qqC]
                    refine wtk (i := 10) (oi := oVoS10) (v := ?_) rfl (Or.inl ⟨by rfl, ?_⟩) (by assumption) ?_
                    rotate_left 1
                    · (intro w' hSw; (try dsimp only at hSw); go_simp; try with_reducible rfl)
                    try simp only [Act.put, qqA, qqB, qqC]
                    refine wtk (i := 11) (oi := oVoS11) (v := ?_) rfl (Or.inl ⟨by rfl, ?_⟩) (by assumption) ?_
                    rotate_left 1
                    · (intro w' hSw; (try dsimp only at hSw); go_simp; try with_reducible rfl)
                    try simp only [Act.put, qqA, qqB, qqC]
                    refine wtk (i := 12) (oi := oVoS12) (v := ?_) rfl (Or.inl ⟨by rfl, ?_⟩) (by assumption) ?_
                    rotate_left 1
                    · (intro w' hSw; (try dsimp only at hSw); go_simp; try with_reducible rfl)
                    try simp only [Act.put, qqA, qqB, qqC]
                    refine wtk (i := 13) (oi := oVoS13) (v := ?_) rfl (Or.inl ⟨by rfl, ?_⟩) (by assumption) ?_
                    rotate_left 1
                    · (intro w' hSw; (try dsimp only at hSw); go_simp; try with_reducible rfl)
                    try simp only [Act.put, qqA, qqB, qqC]
                    refine wtk (i := 14) (oi := oVoS14) (v := ?_) rfl (Or.inl ⟨by rfl, ?_⟩) (by assumption) ?_
                    rotate_left 1
                    · (intro w' hSw; (try dsimp only at hSw); go_simp; try with_reducible rfl)
                    try simp only [Act.put, qqA, qqB, qqC]
                    refine wtk (i := 15) (oi := oVoS15) (v := ?_) rfl (Or.inl ⟨by rfl, ?_⟩) (by assumption) ?_
                    rotate_left 1
                    · (intro w' hSw; (try dsimp only at hSw); go_simp; try with_reducible rfl)
                    try simp only [Act.put, qqA, qqB, qqC]
                    refine wtk (i := 16) (oi := oVoS16) (v := ?_) rfl (Or.inl ⟨by rfl, ?_⟩) (by assumption) ?_
                    rotate_left 1
                    · (intro w' hSw; (try dsimp only at hSw); go_simp; try with_reducible rfl)
                    try simp only [Act.put, qqA, qqB, qqC]
                    refine wtk (i := 17) (oi := oVoS17) (v := ?_) rfl (Or.inl ⟨by rfl, ?_⟩) (by assumption) ?_
                    rotate_left 1
                    · (intro w' hSw; (try dsimp only at hSw); go_simp; try with_reducible rfl)
                    try simp only [Act.put, qqA, qqB, qqC]
                    refine wtk (i := 18) (oi := oVoS18) (v := ?_) rfl (Or.inl ⟨by rfl, ?_⟩) (by assumption) ?_
                    rotate_left 1
                    · (intro w' hSw; (try dsimp only at hSw); go_simp; try with_reducible rfl)
                    try simp only [Act.put, qqA, qqB, qqC]
                    refine wtk (i := 19) (oi := oVoS19) (v := ?_) rfl (Or.inl ⟨by rfl, ?_⟩) (by assumption) ?_
                    rotate_left 1
                    · (intro w' hSw; (try dsimp only at hSw); go_simp; try with_reducible rfl)
                    try simp only [Act.put, qqA, qqB, qqC]
                    refine wpAnyH_ready (rs := [20]) (by kernel_rfl) (by simp) ?_
                    refine AllReadyH.cons (o := oVoS20) rfl (fun K hK => ?_) AllReadyH.nil
                    go_simp
                    refine (srow W hW2 d (unhide HD) true HC2 _).mono ?_
                    rintro e w3 ⟨rfl, hb3⟩
                    have HB3 := hide ((unhide HB).trans ((below_undrew hb3).mono (unhide HB).size))
                    have HA3 := hide ((unhide HA).below (below_undrew hb3))
                    have hS3 := And.intro (unhide HA3).S (And.intro ((hb3.cell (p := ⟨b1, off + k * 2, none⟩) hbw).trans hx0) (And.intro ((hb3.cell (p := ⟨b1, off + k * 2 + 1, none⟩) hbw).trans hx1) ((hb3.cell (p := ⟨b1, off + k1 * 2, none⟩) hbw).trans hx2)))
                    clear hb3
                    go_wp2_with fail
                    refine hK.out _ _ ?_ (fun hHeld20 => ?_)
                    · exact hS3
                    clear hK K
                    try simp only [Act.put, qqA, qqB, qqC]
                    refine wtk (i := 21) (oi := oVoS21) (v := ?_) rfl (Or.inl ⟨by rfl, ?_⟩) (by assumption) ?_
                    rotate_left 1
                    · (intro w' hSw; (try dsimp only at hSw); go_simp; try with_reducible rfl)
                    try simp only [Act.put, qqA, qqB, qqC]
                    refine wtk (i := 22) (oi := oVoS22) (v := ?_) rfl (Or.inl ⟨by rfl, ?_⟩) (by assumption) ?_
                    rotate_left 1
                    · (intro w' hSw; (try dsimp only at hSw); go_simp; try with_reducible rfl)
                    try simp only [Act.put, qqA, qqB, qqC]
                    refine wtk (i := 23) (oi := oVoS23) (v := ?_) rfl (Or.inl ⟨by rfl, ?_⟩) (by assumption) ?_
                    rotate_left 1
                    · (intro w' hSw; (try dsimp only at hSw); go_simp; try with_reducible rfl)
                    try simp only [Act.put, qqA, qqB, qqC]
                    refine wtk (i := 24) (oi := oVoS24) (v := ?_) rfl (Or.inl ⟨by rfl, ?_⟩) (by assumption) ?_
                    rotate_left 1
                    · (intro w' hSw; (try dsimp only at hSw); go_simp; try with_reducible rfl)
                    try simp only [Act.put, qqA, qqB, qqC]
                    refine wpAnyH_take (i := 25) (oi := oVoS25) (v := .bool true) rfl (by kernel_rfl) (by kernel_rfl) (by kernel_rfl) (fun _ _ _ h => h) (Or.inl ⟨by rfl, ?_⟩) (by assumption) ?_
                    · (intro w' hSw; have hkz := unhide HKZ; go_simp)
                    try simp only [Act.put, qqA, qqB, qqC]
                    refine wtk (i := 26) (oi := oVoS26) (v := ?_) rfl (Or.inl ⟨by rfl, ?_⟩) (by assumption) ?_
                    rotate_left 1
                    · (intro w' hSw; (try dsimp only at hSw); go_simp; try with_reducible rfl)
                    try simp only [Act.put, qqA, qqB, qqC]
                    refine wtk (i := 27) (oi := oVoS27) (v := ?_) rfl (Or.inl ⟨by rfl, ?_⟩) (by assumption) ?_
                    rotate_left 1
                    · (intro w' hSw; (try dsimp only at hSw); go_simp; try with_reducible rfl)
                    try simp only [Act.put, qqA, qqB, qqC]
                    refine wtk (i := 28) (oi := oVoS28) (v := ?_) rfl (Or.inl ⟨by rfl, ?_⟩) (by assumption) ?_
                    rotate_left 1
                    · (intro w' hSw; (try dsimp only at hSw); go_simp; try with_reducible rfl)
                    try simp only [Act.put, qqA, qqB, qqC]
                    refine wtk (i := 29) (oi := oVoS29) (v := ?_) rfl (Or.inl ⟨by rfl, ?_⟩) (by assumption) ?_
                    rotate_left 1
                    · (intro w' hSw; (try dsimp only at hSw); go_simp; try with_reducible rfl)
                    try simp only [Act.put, qqA, qqB, qqC]
                    refine wtk (i := 30) (oi := oVoS30) (v := ?_) rfl (Or.inl ⟨by rfl, ?_⟩) (by assumption) ?_
                    rotate_left 1
                    · (intro w' hSw; (try dsimp only at hSw); go_simp; try with_reducible rfl)
                    try simp only [Act.put, qqA, qqB, qqC]
                    refine wtk (i := 31) (oi := oVoS31) (v := ?_) rfl (Or.inl ⟨by rfl, ?_⟩) (by assumption) ?_
                    rotate_left 1
                    · (intro w' hSw; (try dsimp only at hSw); go_simp; try with_reducible rfl)
                    try simp only [Act.put, qqA, qqB, qqC]
                    refine wtk (i := 32) (oi := oVoS32) (v := ?_) rfl (Or.inl ⟨by rfl, ?_⟩) (by assumption) ?_
                    rotate_left 1
                    · (intro w' hSw; (try dsimp only at hSw); go_simp; try with_reducible rfl)
                    try simp only [Act.put, qqA, qqB, qqC]
                    refine wtk (i := 33) (oi := oVoS33) (v := ?_) rfl (Or.inl ⟨by rfl, ?_⟩) (by assumption) ?_
                    rotate_left 1
                    · (intro w' hSw; (try dsimp only at hSw); go_simp; try with_reducible rfl)
                    try simp only [Act.put, qqA, qqB, qqC]
                    refine wtk (i := 34) (oi := oVoS34) (v := ?_) rfl (Or.inl ⟨by rfl, ?_⟩) (by assumption) ?_
                    rotate_left 1
                    · (intro w' hSw; (try dsimp only at hSw); go_simp; try with_reducible rfl)
                    try simp only [Act.put, qqA, qqB, qqC]
                    refine wtk (i := 35) (oi := oVoS35) (v := ?_) rfl (Or.inl ⟨by rfl, ?_⟩) (by assumption) ?_
                    rotate_left 1
                    · (intro w' hSw; (try dsimp only at hSw); go_simp; try with_reducible rfl)
                    try simp only [Act.put, qqA, qqB, qqC]
                    refine wtk (i := 36) (oi := oVoS36) (v := ?_) rfl (Or.inl ⟨by rfl, ?_⟩) (by assumption) ?_
                    rotate_left 1
                    · (intro w' hSw; (try dsimp only at hSw); go_simp; try with_reducible rfl)
                    try simp only [Act.put, qqA, qqB, qqC]
                    refine wtk (i := 37) (oi := oVoS37) (v := ?_) rfl (Or.inl ⟨by rfl, ?_⟩) (by assumption) ?_
                    rotate_left 1
                    · (intro w' hSw; (try dsimp only at hSw); go_simp; try with_reducible rfl)
                    try simp only [Act.put, qqA, qqB, qqC]
                    refine wtk (i := 38) (oi := oVoS38) (v := ?_) rfl (Or.inl ⟨by rfl, ?_⟩) (by assumption) ?_
                    rotate_left 1
                    · (intro w' hSw; (try dsimp only at hSw); go_simp; try with_reducible rfl)
                    try simp only [Act.put, qqA, qqB, qqC]
                    refine wtk (i := 39) (oi := oVoS39) (v := ?_) rfl (Or.inl ⟨by rfl, ?_⟩) (by assumption) ?_
                    rotate_left 1
                    · (intro w' hSw; (try dsimp only at hSw); go_simp; try with_reducible rfl)
                    try simp only [Act.put, qqA, qqB, qqC]
                    refine wtk (i := 40) (oi := oVoS40) (v := ?_) rfl (Or.inl ⟨by rfl, ?_⟩) (by assumption) ?_
                    rotate_left 1
                    · (intro w' hSw; (try dsimp only at hSw); go_simp; try with_reducible rfl)
                    try simp only [Act.put, qqA, qqB, qqC]
                    refine wtk (i := 41) (oi := oVoS41) (v := ?_) rfl (Or.inl ⟨by rfl, ?_⟩) (by assumption) ?_
                    rotate_left 1
                    · (intro w' hSw; (try dsimp only at hSw); go_simp; try with_reducible rfl)
                    try simp only [Act.put, qqA, qqB, qqC]
                    refine wtk (i := 42) (oi := oVoS42) (v := ?_) rfl (Or.inl ⟨by rfl, ?_⟩) (by assumption) ?_
                    rotate_left 1
                    · (intro w' hSw; (try dsimp only at hSw); go_simp; try with_reducible rfl)
                    try simp only [Act.put, qqA, qqB, qqC]
                    refine wpAnyH_done (by kernel_rfl) ?_ _
                    clear HF
                    go_wp2_with fail
                    go_roundw
                    case rel => exact ⟨k + 1, by omega, by go_num, HF2, HB3, HA3⟩
                    case measure => simp [intOf]; omega
                  · have hst : stepB (H : Int) l k = false := by
                      unfold stepB
                      rw [unhide HYA, unhide HYP, decide_eq_false h6]; rfl
                    have HQF : Hid (Q = false) := by show _ = _; rw [unhide HQ2, rise_no hkR hst]; simp
                    obtain rfl : Q = false := unhide HQF
                    have h6' : decide (y ≤ y1) = true := decide_eq_true (by omega)
                    have h6n : y ≤ y1 := by omega
                    clear hst h6
                    go_wp2_with fail
                    refine wp_region_held_drew (S := (fun w' => (∀ o, w'.cell? ⟨w.heap.size, o, none⟩ = (#[.int .i64 nb, .int .i64 fr, .bool fu, .int .i64 (W : Int), .int .i64 (H : Int), .slice (some ⟨b1, off, none⟩) n cap] : Array Value)[o]?) ∧ w'.cell? ⟨b1, off + k * 2, none⟩ = some (.int .i64 y) ∧ w'.cell? ⟨b1, off + k * 2 + 1, none⟩ = some (.string d) ∧ w'.cell? ⟨b1, off + k1 * 2, none⟩ = some (.int .i64 y1))) (by kernel_rfl) hS0 (fun hHeld => ?_)
                    refine wtk (i := 0) (oi := oVoS0) (v := ?_) rfl (Or.inl ⟨by rfl, ?_⟩) (by assumption) ?_
                    rotate_left 1
                    · (intro w' hSw; (try dsimp only at hSw); go_simp; try with_reducible rfl)
                    try simp only [Act.put, qqA, qqB, qqC]
                    refine wtk (i := 1) (oi := oVoS1) (v := ?_) rfl (Or.inl ⟨by rfl, ?_⟩) (by assumption) ?_
                    rotate_left 1
                    · (intro w' hSw; (try dsimp only at hSw); go_simp; try with_reducible rfl)
                    try simp only [Act.put, qqA, qqB, qqC]
                    refine wtk (i := 2) (oi := oVoS2) (v := ?_) rfl (Or.inl ⟨by rfl, ?_⟩) (by assumption) ?_
                    rotate_left 1
                    · (intro w' hSw; (try dsimp only at hSw); go_simp; try with_reducible rfl)
                    try simp only [Act.put, qqA, qqB, qqC]
                    refine wtk (i := 3) (oi := oVoS3) (v := ?_) rfl (Or.inl ⟨by rfl, ?_⟩) (by assumption) ?_
                    rotate_left 1
                    · (intro w' hSw; (try dsimp only at hSw); go_simp; try with_reducible rfl)
                    try simp only [Act.put, qqA, qqB, qqC]
                    refine wtk (i := 4) (oi := oVoS4) (v := ?_) rfl (Or.inl ⟨by rfl, ?_⟩) (by assumption) ?_
                    rotate_left 1
                    · (intro w' hSw; (try dsimp only at hSw); go_simp; try with_reducible rfl)
                    try simp only [Act.put, qqA, qqB, qqC]
                    refine wtk (i := 5) (oi := oVoS5) (v := ?_) rfl (Or.inl ⟨by rfl, ?_⟩) (by assumption) ?_
                    rotate_left 1
                    · (intro w' hSw; (try dsimp only at hSw); go_simp; try with_reducible rfl)
                    try simp only [Act.put, qqA, qqB, qqC]
                    refine wtk (i := 6) (oi := oVoS6) (v := ?_) rfl (Or.inl ⟨by rfl, ?_⟩) (by assumption) ?_
                    rotate_left 1
                    · (intro w' hSw; (try dsimp only at hSw); go_simp; try with_reducible rfl)
                    try simp only [Act.put, qqA, qqB, qqC]
                    refine wtk (i := 7) (oi := oVoS7) (v := ?_) rfl (Or.inl ⟨by rfl, ?_⟩) (by assumption) ?_
                    rotate_left 1
                    · (intro w' hSw; (try dsimp only at hSw); go_simp; try with_reducible rfl)
                    try simp only [Act.put, qqA, qqB, qqC]
                    refine wtk (i := 8) (oi := oVoS8) (v := ?_) rfl (Or.inl ⟨by rfl, ?_⟩) (by assumption) ?_
                    rotate_left 1
                    · (intro w' hSw; (try dsimp only at hSw); go_simp; try with_reducible rfl)
                    try simp only [Act.put, qqA, qqB, qqC]
                    refine wpAnyH_ready (rs := [9]) (by kernel_rfl) (by simp) ?_
                    refine AllReadyH.cons (o := oVoS9) rfl (fun K hK => ?_) AllReadyH.nil
                    go_simp
                    refine (sin y 0 _ _).mono ?_
                    rintro e w2 ⟨rfl, hw2⟩
                    subst w2
                    rw [← unhide HC1]
                    go_wp2_with fail
                    refine hK.out _ _ ?_ (fun hHeld9 => ?_)
                    · exact hS0
                    clear hK K
                    try simp only [Act.put, qqA, qqB, qqC]
                    refine wtk (i := 10) (oi := oVoS10) (v := ?_) rfl (Or.inl ⟨by rfl, ?_⟩) (by assumption) ?_
                    rotate_left 1
                    · (intro w' hSw; (try dsimp only at hSw); go_simp; try with_reducible rfl)
                    try simp only [Act.put, qqA, qqB, qqC]
                    refine wtk (i := 11) (oi := oVoS11) (v := ?_) rfl (Or.inl ⟨by rfl, ?_⟩) (by assumption) ?_
                    rotate_left 1
                    · (intro w' hSw; (try dsimp only at hSw); go_simp; try with_reducible rfl)
                    try simp only [Act.put, qqA, qqB, qqC]
                    refine wtk (i := 12) (oi := oVoS12) (v := ?_) rfl (Or.inl ⟨by rfl, ?_⟩) (by assumption) ?_
                    rotate_left 1
                    · (intro w' hSw; (try dsimp only at hSw); go_simp; try with_reducible rfl)
                    try simp only [Act.put, qqA, qqB, qqC]
                    refine wtk (i := 13) (oi := oVoS13) (v := ?_) rfl (Or.inl ⟨by rfl, ?_⟩) (by assumption) ?_
                    rotate_left 1
                    · (intro w' hSw; (try dsimp only at hSw); go_simp; try with_reducible rfl)
                    try simp only [Act.put, qqA, qqB, qqC]
                    refine wtk (i := 14) (oi := oVoS14) (v := ?_) rfl (Or.inl ⟨by rfl, ?_⟩) (by assumption) ?_
                    rotate_left 1
                    · (intro w' hSw; (try dsimp only at hSw); go_simp; try with_reducible rfl)
                    try simp only [Act.put, qqA, qqB, qqC]
                    refine wtk (i := 15) (oi := oVoS15) (v := ?_) rfl (Or.inl ⟨by rfl, ?_⟩) (by assumption) ?_
                    rotate_left 1
                    · (intro w' hSw; (try dsimp only at hSw); go_simp; try with_reducible rfl)
                    try simp only [Act.put, qqA, qqB, qqC]
                    refine wtk (i := 16) (oi := oVoS16) (v := ?_) rfl (Or.inl ⟨by rfl, ?_⟩) (by assumption) ?_
                    rotate_left 1
                    · (intro w' hSw; (try dsimp only at hSw); go_simp; try with_reducible rfl)
                    try simp only [Act.put, qqA, qqB, qqC]
                    refine wtk (i := 17) (oi := oVoS17) (v := ?_) rfl (Or.inl ⟨by rfl, ?_⟩) (by assumption) ?_
                    rotate_left 1
                    · (intro w' hSw; (try dsimp only at hSw); go_simp; try with_reducible rfl)
                    try simp only [Act.put, qqA, qqB, qqC]
                    refine wtk (i := 18) (oi := oVoS18) (v := ?_) rfl (Or.inl ⟨by rfl, ?_⟩) (by assumption) ?_
                    rotate_left 1
                    · (intro w' hSw; (try dsimp only at hSw); go_simp; try with_reducible rfl)
                    try simp only [Act.put, qqA, qqB, qqC]
                    refine wtk (i := 19) (oi := oVoS19) (v := ?_) rfl (Or.inl ⟨by rfl, ?_⟩) (by assumption) ?_
                    rotate_left 1
                    · (intro w' hSw; (try dsimp only at hSw); go_simp; try with_reducible rfl)
                    try simp only [Act.put, qqA, qqB, qqC]
                    refine wpAnyH_ready (rs := [20]) (by kernel_rfl) (by simp) ?_
                    refine AllReadyH.cons (o := oVoS20) rfl (fun K hK => ?_) AllReadyH.nil
                    go_simp
                    refine (srow W hW2 d (unhide HD) true HC2 _).mono ?_
                    rintro e w3 ⟨rfl, hb3⟩
                    have HB3 := hide ((unhide HB).trans ((below_undrew hb3).mono (unhide HB).size))
                    have HA3 := hide ((unhide HA).below (below_undrew hb3))
                    have hS3 := And.intro (unhide HA3).S (And.intro ((hb3.cell (p := ⟨b1, off + k * 2, none⟩) hbw).trans hx0) (And.intro ((hb3.cell (p := ⟨b1, off + k * 2 + 1, none⟩) hbw).trans hx1) ((hb3.cell (p := ⟨b1, off + k1 * 2, none⟩) hbw).trans hx2)))
                    clear hb3
                    go_wp2_with fail
                    refine hK.out _ _ ?_ (fun hHeld20 => ?_)
                    · exact hS3
                    clear hK K
                    try simp only [Act.put, qqA, qqB, qqC]
                    refine wtk (i := 21) (oi := oVoS21) (v := ?_) rfl (Or.inl ⟨by rfl, ?_⟩) (by assumption) ?_
                    rotate_left 1
                    · (intro w' hSw; (try dsimp only at hSw); go_simp; try with_reducible rfl)
                    try simp only [Act.put, qqA, qqB, qqC]
                    refine wtk (i := 22) (oi := oVoS22) (v := ?_) rfl (Or.inl ⟨by rfl, ?_⟩) (by assumption) ?_
                    rotate_left 1
                    · (intro w' hSw; (try dsimp only at hSw); go_simp; try with_reducible rfl)
                    try simp only [Act.put, qqA, qqB, qqC]
                    refine wtk (i := 23) (oi := oVoS23) (v := ?_) rfl (Or.inl ⟨by rfl, ?_⟩) (by assumption) ?_
                    rotate_left 1
                    · (intro w' hSw; (try dsimp only at hSw); go_simp; try with_reducible rfl)
                    try simp only [Act.put, qqA, qqB, qqC]
                    refine wtk (i := 24) (oi := oVoS24) (v := ?_) rfl (Or.inl ⟨by rfl, ?_⟩) (by assumption) ?_
                    rotate_left 1
                    · (intro w' hSw; (try dsimp only at hSw); go_simp; try with_reducible rfl)
                    try simp only [Act.put, qqA, qqB, qqC]
                    refine wpAnyH_take (i := 25) (oi := oVoS25) (v := .bool true) rfl (by kernel_rfl) (by kernel_rfl) (by kernel_rfl) (fun _ _ _ h => h) (Or.inl ⟨by rfl, ?_⟩) (by assumption) ?_
                    · (intro w' hSw; have hkz := unhide HKZ; go_simp)
                    try simp only [Act.put, qqA, qqB, qqC]
                    refine wtk (i := 26) (oi := oVoS26) (v := ?_) rfl (Or.inl ⟨by rfl, ?_⟩) (by assumption) ?_
                    rotate_left 1
                    · (intro w' hSw; (try dsimp only at hSw); go_simp; try with_reducible rfl)
                    try simp only [Act.put, qqA, qqB, qqC]
                    refine wtk (i := 27) (oi := oVoS27) (v := ?_) rfl (Or.inl ⟨by rfl, ?_⟩) (by assumption) ?_
                    rotate_left 1
                    · (intro w' hSw; (try dsimp only at hSw); go_simp; try with_reducible rfl)
                    try simp only [Act.put, qqA, qqB, qqC]
                    refine wtk (i := 28) (oi := oVoS28) (v := ?_) rfl (Or.inl ⟨by rfl, ?_⟩) (by assumption) ?_
                    rotate_left 1
                    · (intro w' hSw; (try dsimp only at hSw); go_simp; try with_reducible rfl)
                    try simp only [Act.put, qqA, qqB, qqC]
                    refine wtk (i := 29) (oi := oVoS29) (v := ?_) rfl (Or.inl ⟨by rfl, ?_⟩) (by assumption) ?_
                    rotate_left 1
                    · (intro w' hSw; (try dsimp only at hSw); go_simp; try with_reducible rfl)
                    try simp only [Act.put, qqA, qqB, qqC]
                    refine wtk (i := 30) (oi := oVoS30) (v := ?_) rfl (Or.inl ⟨by rfl, ?_⟩) (by assumption) ?_
                    rotate_left 1
                    · (intro w' hSw; (try dsimp only at hSw); go_simp; try with_reducible rfl)
                    try simp only [Act.put, qqA, qqB, qqC]
                    refine wtk (i := 31) (oi := oVoS31) (v := ?_) rfl (Or.inl ⟨by rfl, ?_⟩) (by assumption) ?_
                    rotate_left 1
                    · (intro w' hSw; (try dsimp only at hSw); go_simp; try with_reducible rfl)
                    try simp only [Act.put, qqA, qqB, qqC]
                    refine wtk (i := 32) (oi := oVoS32) (v := ?_) rfl (Or.inl ⟨by rfl, ?_⟩) (by assumption) ?_
                    rotate_left 1
                    · (intro w' hSw; (try dsimp only at hSw); go_simp; try with_reducible rfl)
                    try simp only [Act.put, qqA, qqB, qqC]
                    refine wtk (i := 33) (oi := oVoS33) (v := ?_) rfl (Or.inl ⟨by rfl, ?_⟩) (by assumption) ?_
                    rotate_left 1
                    · (intro w' hSw; (try dsimp only at hSw); go_simp; try with_reducible rfl)
                    try simp only [Act.put, qqA, qqB, qqC]
                    refine wtk (i := 34) (oi := oVoS34) (v := ?_) rfl (Or.inl ⟨by rfl, ?_⟩) (by assumption) ?_
                    rotate_left 1
                    · (intro w' hSw; (try dsimp only at hSw); go_simp; try with_reducible rfl)
                    try simp only [Act.put, qqA, qqB, qqC]
                    refine wtk (i := 35) (oi := oVoS35) (v := ?_) rfl (Or.inl ⟨by rfl, ?_⟩) (by assumption) ?_
                    rotate_left 1
                    · (intro w' hSw; (try dsimp only at hSw); go_simp; try with_reducible rfl)
                    try simp only [Act.put, qqA, qqB, qqC]
                    refine wtk (i := 36) (oi := oVoS36) (v := ?_) rfl (Or.inl ⟨by rfl, ?_⟩) (by assumption) ?_
                    rotate_left 1
                    · (intro w' hSw; (try dsimp only at hSw); go_simp; try with_reducible rfl)
                    try simp only [Act.put, qqA, qqB, qqC]
                    refine wtk (i := 37) (oi := oVoS37) (v := ?_) rfl (Or.inl ⟨by rfl, ?_⟩) (by assumption) ?_
                    rotate_left 1
                    · (intro w' hSw; (try dsimp only at hSw); go_simp; try with_reducible rfl)
                    try simp only [Act.put, qqA, qqB, qqC]
                    refine wtk (i := 38) (oi := oVoS38) (v := ?_) rfl (Or.inl ⟨by rfl, ?_⟩) (by assumption) ?_
                    rotate_left 1
                    · (intro w' hSw; (try dsimp only at hSw); go_simp; try with_reducible rfl)
                    try simp only [Act.put, qqA, qqB, qqC]
                    refine wtk (i := 39) (oi := oVoS39) (v := ?_) rfl (Or.inl ⟨by rfl, ?_⟩) (by assumption) ?_
                    rotate_left 1
                    · (intro w' hSw; (try dsimp only at hSw); go_simp; try with_reducible rfl)
                    try simp only [Act.put, qqA, qqB, qqC]
                    refine wtk (i := 40) (oi := oVoS40) (v := ?_) rfl (Or.inl ⟨by rfl, ?_⟩) (by assumption) ?_
                    rotate_left 1
                    · (intro w' hSw; (try dsimp only at hSw); go_simp; try with_reducible rfl)
                    try simp only [Act.put, qqA, qqB, qqC]
                    refine wtk (i := 41) (oi := oVoS41) (v := ?_) rfl (Or.inl ⟨by rfl, ?_⟩) (by assumption) ?_
                    rotate_left 1
                    · (intro w' hSw; (try dsimp only at hSw); go_simp; try with_reducible rfl)
                    try simp only [Act.put, qqA, qqB, qqC]
                    refine wtk (i := 42) (oi := oVoS42) (v := ?_) rfl (Or.inl ⟨by rfl, ?_⟩) (by assumption) ?_
                    rotate_left 1
                    · (intro w' hSw; (try dsimp only at hSw); go_simp; try with_reducible rfl)
                    try simp only [Act.put, qqA, qqB, qqC]
                    refine wpAnyH_done (by kernel_rfl) ?_ _
                    clear HF
                    go_wp2_with fail
                    go_ret
                    exact ⟨rfl, unhide HB3⟩
          · obtain rfl : k = n := by omega
            have hri : riseB (H : Int) l = true := rise_yes fun i hi => (unhide HF i (by have := unhide HN; omega)).1
            have hal : (celL l).all (rowB W) = true := all_take fun q hq => by
              have h := (unhide HF q (by rw [celL_len] at hq; have := unhide HN; omega)).2
              rwa [rowAt_at W _ q hq] at h
            have HQ3 : Hid (Q = if fu then decide (fr = 0) && decide ((k : Int) = (H : Int)) else inB fr 0 (nb - 1)) := by show _ = _; rw [unhide HQ2, hri, hal, unhide HN]; rfl
            have kA := (unhide HA).S
            have hkk : ¬ (k : Int) < (k : Int) := by omega
            clear hri hal HQ2 HF
            cases fu with
            | false =>
              obtain ⟨c5, hc5⟩ : ∃ c, c = inB fr 0 60 := ⟨_, rfl⟩
              have HC5 := hide hc5
              cases c5 with
              | false =>
                obtain rfl : Q = false := by
                  have h : Q = inB fr 0 (nb - 1) := unhide HQ3
                  have h2 : ¬ (0 ≤ fr ∧ fr ≤ 60) := of_decide_eq_false hc5.symm
                  rw [h]; exact decide_eq_false (by omega)
                clear hc5
                go_wp2_with (go_at_call 22; refine (sin fr 0 60 _).mono ?_; rintro e w6 ⟨rfl, rfl⟩; rw [← unhide HC5])
                go_ret
                exact ⟨rfl, unhide HB⟩
              | true =>
                have hq : decide (fr < nb) = Q := by
                  have h : Q = inB fr 0 (nb - 1) := unhide HQ3
                  have h2 : 0 ≤ fr ∧ fr ≤ 60 := of_decide_eq_true hc5.symm
                  rw [h]; unfold inB; rw [Bool.eq_iff_iff]; simp only [decide_eq_true_eq]; omega
                clear hc5
                go_wp2_with (go_at_call 22; refine (sin fr 0 60 _).mono ?_; rintro e w6 ⟨rfl, rfl⟩; rw [← unhide HC5])
                go_ret
                exact ⟨rfl, unhide HB⟩
            | true =>
              by_cases h5 : fr = 0
              · subst h5
                have htp : ((k : Int) == (H : Int)) = Q := by
                  have h : Q = (decide ((0 : Int) = 0) && decide ((k : Int) = (H : Int))) := unhide HQ3
                  rw [h, Bool.eq_iff_iff]
                  simp
                go_wp2_with fail
                go_ret
                exact ⟨rfl, unhide HB⟩
              · have h5' : (fr == 0) = false := by simpa using h5
                obtain rfl : Q = false := by have h := unhide HQ3; rw [decide_eq_false h5] at h; simpa using h
                clear h5
                go_wp2_with fail
                go_ret
                exact ⟨rfl, unhide HB⟩
end Go.Proofs.YtblhediekdeffaaDoor
