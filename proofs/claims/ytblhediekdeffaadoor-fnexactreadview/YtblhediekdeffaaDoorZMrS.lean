/- MirrorOK: what the specification answers. -/
import Derived.Test.YtblhediekdeffaaDoorZG13
import Derived.Test.YtblhediekdeffaaDoorZG40
import Derived.Test.YtblhediekdeffaaDoorZNumS
import Derived.Deep.RegionHeld3
namespace Go.Proofs.YtblhediekdeffaaDoor
open Go.ChangeShapes Go.WideShapes Go.ChangeAt Go.RowKit
set_option linter.unusedVariables false
theorem c4_parts (r : ByteArray) (j b c : Nat) (hb : b = 4 * j) (hc : c = 4 * j + 3) (h : c < r.size) : c4 r.data.toList j = (((ofBE (r.extract b c).data.toList : Nat) : Int), (r[c].toNat : Int)) := by
  subst hb hc
  unfold c4
  have e1 : (r.extract (4 * j) (4 * j + 3)).data.toList = (r.data.toList.drop (4 * j)).take 3 := by simp
  have e2 : (r.data.toList.drop (4 * j + 3)).take 1 = [r[4 * j + 3]] := by
    rw [List.take_one, List.head?_drop, List.getElem?_eq_getElem (by simpa using h)]
    simp [ByteArray.getElem_eq_getElem_data]
  rw [e1, e2]
  simp [ofBE]
set_option maxHeartbeats 4000000 in
set_option maxRecDepth 100000 in
theorem srow (W : Nat) (hW : W ≤ 24) (r : ByteArray) (hr : r.size ≤ 1048576) (Q : Bool) (HQ : Hid (Q = rowB W r)) (w : World) :
    Calls Tryd.prog 37 #[.int .i64 (W : Int), .string r] w fun e w' => e = .returned (.bool Q) ∧ Below w.heap.size w w' := by
  obtain ⟨m, hm⟩ : ∃ m, m = 4 * W := ⟨_, rfl⟩
  have m1 : 4 * (W : Int) = (m : Int) := by omega
  have m2 : IntKind.i64.wrap (m : Int) = (m : Int) := wrapi _ (by omega) (by omega)
  have HM := hide hm
  have B0 := hide (Below.refl w.heap.size w)
  clear hm
  by_cases hsz : r.size = m
  · have hne : ((r.size : Int) != (m : Int)) = false := by rw [hsz]; simp
    have HSZ := hide hsz
    have HCL4 := hide (cells4_len r.data.toList W)
    clear hsz
    go_enter Tryd.func37, Tryd.ntmps37
    go_wp2_with fail
    go_loopw [5] (fun i wr => ∃ j : Nat, j ≤ W ∧ i = .int .i64 (j : Int) ∧ Hid (∀ q (h : q < (cells4 r.data.toList W).length), q < j → cellB (cells4 r.data.toList W)[q] = true) ∧ Hid (Below w.heap.size w wr)) (fun i _ => W - (intOf i).toNat)
    case atStart => exact ⟨0, by omega, rfl, fun q _ h => absurd h (Nat.not_lt_zero _), B0⟩
    case round =>
      obtain ⟨j, hj, rfl, HF, HB⟩ := hrel
      by_cases hlt : j < W
      · have hlt' : (j : Int) < (W : Int) := by omega
        have hj4 : j < (cells4 r.data.toList W).length := by rw [unhide HCL4]; exact hlt
        obtain ⟨b, hb⟩ : ∃ b, b = 4 * j := ⟨_, rfl⟩
        obtain ⟨c, hc⟩ : ∃ c, c = 4 * j + 3 := ⟨_, rfl⟩
        have hcs : c < r.size := by rw [unhide HSZ, unhide HM]; omega
        have a1 : 4 * (j : Int) = (b : Int) := by omega
        have a2 : IntKind.i64.wrap (b : Int) = (b : Int) := wrapi _ (by omega) (by omega)
        have a3 : (b : Int) + 3 = (c : Int) := by omega
        have a4 : IntKind.i64.wrap (c : Int) = (c : Int) := wrapi _ (by omega) (by omega)
        have a5 : (c : Int) ≤ (r.size : Int) := by omega
        have a6 : (b : Int) ≤ (c : Int) := by omega
        have a7 : b ≤ c := by omega
        have a8 : (c : Int) < (r.size : Int) := by omega
        have HE : Hid ((r.extract b c).size ≤ 4) := by show _ ≤ _; rw [ByteArray.size_extract]; omega
        obtain ⟨x, hx⟩ : ∃ x : Int, x = ((ofBE (r.extract b c).data.toList : Nat) : Int) := ⟨_, rfl⟩
        obtain ⟨y, hy⟩ : ∃ y : Int, y = (r[c].toNat : Int) := ⟨_, rfl⟩
        have HXY : Hid (cellB (cells4 r.data.toList W)[j] = (runeB x && inB y 0 127)) := by
          show _ = _
          have e : (cells4 r.data.toList W)[j] = (x, y) := by rw [hx, hy, ← c4_parts r j b c hb hc hcs]; simp [cells4]
          rw [e]; rfl
        obtain ⟨C, hC⟩ : ∃ C, C = (runeB x && inB y 0 127) := ⟨_, rfl⟩
        have HC := hide hC
        have HX := hide hx
        have hy2 : (r[c].toNat : Int) = y := hy.symm
        have a9 : IntKind.i64.wrap y = y := by have h8 := r[c].toNat_lt; exact wrapi _ (by rw [hy]; omega) (by rw [hy]; omega)
        clear hb hc hx hC hy
        go_wp2_with fail
        --@replay
        refine wp_region_held_drew (S := fun _ => True) (by kernel_rfl) trivial (fun hHeld => ?_)
        refine wtk (i := 0) (oi := { dst := some 16, op := .move (.tmp 1), type := 9, pos := "l11_view.go:23", after := #[], guard := none }) (v := ?_) rfl (Or.inl ⟨by rfl, ?_⟩) (by assumption) ?_
        rotate_left 1
        · (intro w' hSw; (try dsimp only at hSw); go_simp; try with_reducible rfl)
        try simp only [Act.put, qqA, qqB, qqC]
        refine wtk (i := 1) (oi := { dst := some 17, op := .move (.tmp 5), type := 3, pos := "l11_view.go:23", after := #[], guard := none }) (v := ?_) rfl (Or.inl ⟨by rfl, ?_⟩) (by assumption) ?_
        rotate_left 1
        · (intro w' hSw; (try dsimp only at hSw); go_simp; try with_reducible rfl)
        try simp only [Act.put, qqA, qqB, qqC]
        refine wtk (i := 2) (oi := { dst := some 18, op := .binOp .mul 3 (.const (.int .i64 4)) (.tmp 17) 3, type := 3, pos := "l11_view.go:23", after := #[{ on := 1, ground := .data }], guard := none }) (v := ?_) rfl (Or.inl ⟨by rfl, ?_⟩) (by assumption) ?_
        rotate_left 1
        · (intro w' hSw; (try dsimp only at hSw); go_simp; try with_reducible rfl)
        try simp only [Act.put, qqA, qqB, qqC]
        refine wtk (i := 3) (oi := { dst := some 19, op := .move (.tmp 5), type := 3, pos := "l11_view.go:23", after := #[], guard := none }) (v := ?_) rfl (Or.inl ⟨by rfl, ?_⟩) (by assumption) ?_
        rotate_left 1
        · (intro w' hSw; (try dsimp only at hSw); go_simp; try with_reducible rfl)
        try simp only [Act.put, qqA, qqB, qqC]
        refine wtk (i := 4) (oi := { dst := some 20, op := .binOp .mul 3 (.const (.int .i64 4)) (.tmp 19) 3, type := 3, pos := "l11_view.go:23", after := #[{ on := 3, ground := .data }], guard := none }) (v := ?_) rfl (Or.inl ⟨by rfl, ?_⟩) (by assumption) ?_
        rotate_left 1
        · (intro w' hSw; (try dsimp only at hSw); go_simp; try with_reducible rfl)
        try simp only [Act.put, qqA, qqB, qqC]
        refine wtk (i := 5) (oi := { dst := some 21, op := .binOp .add 3 (.tmp 20) (.const (.int .i64 3)) 3, type := 3, pos := "l11_view.go:23", after := #[{ on := 4, ground := .data }], guard := none }) (v := ?_) rfl (Or.inl ⟨by rfl, ?_⟩) (by assumption) ?_
        rotate_left 1
        · (intro w' hSw; (try dsimp only at hSw); go_simp; try with_reducible rfl)
        try simp only [Act.put, qqA, qqB, qqC]
        refine wtk (i := 6) (oi := { dst := some 22, op := .slice 9 (.tmp 16) (some (.tmp 18)) (some (.tmp 21)) none, type := 9, pos := "l11_view.go:23", after := #[{ on := 0, ground := .data }, { on := 2, ground := .data }, { on := 5, ground := .data }], guard := none }) (v := ?_) rfl (Or.inl ⟨by rfl, ?_⟩) (by assumption) ?_
        rotate_left 1
        · (intro w' hSw; (try dsimp only at hSw); go_simp; try with_reducible rfl)
        try simp only [Act.put, qqA, qqB, qqC]
        refine wtk (i := 8) (oi := { dst := some 24, op := .move (.tmp 1), type := 9, pos := "l11_view.go:23", after := #[], guard := none }) (v := ?_) rfl (Or.inl ⟨by rfl, ?_⟩) (by assumption) ?_
        rotate_left 1
        · (intro w' hSw; (try dsimp only at hSw); go_simp; try with_reducible rfl)
        try simp only [Act.put, qqA, qqB, qqC]
        refine wtk (i := 9) (oi := { dst := some 25, op := .move (.tmp 5), type := 3, pos := "l11_view.go:23", after := #[], guard := none }) (v := ?_) rfl (Or.inl ⟨by rfl, ?_⟩) (by assumption) ?_
        rotate_left 1
        · (intro w' hSw; (try dsimp only at hSw); go_simp; try with_reducible rfl)
        try simp only [Act.put, qqA, qqB, qqC]
        refine wtk (i := 10) (oi := { dst := some 26, op := .binOp .mul 3 (.const (.int .i64 4)) (.tmp 25) 3, type := 3, pos := "l11_view.go:23", after := #[{ on := 9, ground := .data }], guard := none }) (v := ?_) rfl (Or.inl ⟨by rfl, ?_⟩) (by assumption) ?_
        rotate_left 1
        · (intro w' hSw; (try dsimp only at hSw); go_simp; try with_reducible rfl)
        try simp only [Act.put, qqA, qqB, qqC]
        refine wtk (i := 11) (oi := { dst := some 27, op := .binOp .add 3 (.tmp 26) (.const (.int .i64 3)) 3, type := 3, pos := "l11_view.go:23", after := #[{ on := 10, ground := .data }], guard := none }) (v := ?_) rfl (Or.inl ⟨by rfl, ?_⟩) (by assumption) ?_
        rotate_left 1
        · (intro w' hSw; (try dsimp only at hSw); go_simp; try with_reducible rfl)
        try simp only [Act.put, qqA, qqB, qqC]
        refine wtk (i := 12) (oi := { dst := some 28, op := .index 9 (.tmp 24) (.tmp 27), type := 5, pos := "l11_view.go:23", after := #[{ on := 8, ground := .data }, { on := 11, ground := .data }], guard := none }) (v := ?_) rfl (Or.inl ⟨by rfl, ?_⟩) (by assumption) ?_
        rotate_left 1
        · (intro w' hSw; (try dsimp only at hSw); go_simp; try with_reducible rfl)
        try simp only [Act.put, qqA, qqB, qqC]
        refine wtk (i := 13) (oi := { dst := some 29, op := .convert 5 3 (.tmp 28), type := 3, pos := "l11_view.go:23", after := #[{ on := 12, ground := .data }], guard := none }) (v := ?_) rfl (Or.inl ⟨by rfl, ?_⟩) (by assumption) ?_
        rotate_left 1
        · (intro w' hSw; (try dsimp only at hSw); go_simp; try with_reducible rfl)
        try simp only [Act.put, qqA, qqB, qqC]
        refine wpAnyH_ready (rs := [7]) (by kernel_rfl) (by simp) ?_
        refine AllReadyH.cons (o := { dst := some 23, op := .call { callee := .value (.func 35), args := #[.tmp 22], argTypes := #[9] }, type := 3, pos := "l11_view.go:23", after := #[{ on := 6, ground := .data }], guard := none }) rfl (fun K hK => ?_) AllReadyH.nil
        go_simp
        refine (snumberOf (r.extract b c) (unhide HE) _).mono ?_
        rintro e w2 ⟨rfl, hw⟩
        subst w2
        rw [← unhide HX]
        go_wp2_with fail
        refine hK.out _ _ ?_ (fun hHeld7 => ?_)
        · trivial
        clear hK K
        try simp only [Act.put, qqA, qqB, qqC]
        refine wtk (i := 14) (oi := { dst := some 30, op := .build 92 #[(0, .tmp 23), (1, .tmp 29)], type := 92, pos := "l11_view.go:23", after := #[{ on := 7, ground := .data }, { on := 13, ground := .data }], guard := none }) (v := ?_) rfl (Or.inl ⟨by rfl, ?_⟩) (by assumption) ?_
        rotate_left 1
        · (intro w' hSw; (try dsimp only at hSw); go_simp; try with_reducible rfl)
        try simp only [Act.put, qqA, qqB, qqC]
        refine wpAnyH_ready (rs := [15]) (by kernel_rfl) (by simp) ?_
        refine AllReadyH.cons (o := { dst := some 31, op := .call { callee := .value (.func 52), args := #[.tmp 30], argTypes := #[92] }, type := 4, pos := "l11_view.go:23", after := #[{ on := 14, ground := .data }, { on := 7, ground := .chain }], guard := none }) rfl (fun K hK => ?_) AllReadyH.nil
        go_simp
        refine (scell x y _).mono ?_
        rintro e w3 ⟨rfl, hb3⟩
        rw [← unhide HC]
        have HB3 := hide ((unhide HB).trans ((below_undrew hb3).mono (unhide HB).size))
        clear hb3
        go_wp2_with fail
        refine hK.out _ _ ?_ (fun hHeld15 => ?_)
        · trivial
        clear hK K
        try simp only [Act.put, qqA, qqB, qqC]
        refine wtk (i := 16) (oi := { dst := some 32, op := .unOp .not 4 (.tmp 31), type := 4, pos := "l11_view.go:23", after := #[{ on := 15, ground := .data }], guard := none }) (v := ?_) rfl (Or.inl ⟨by rfl, ?_⟩) (by assumption) ?_
        rotate_left 1
        · (intro w' hSw; (try dsimp only at hSw); go_simp; try with_reducible rfl)
        try simp only [Act.put, qqA, qqB, qqC]
        refine wpAnyH_done (by kernel_rfl) ?_ _
        cases C with
        | false =>
          have HV : Hid (Q = false) := by show _ = _; rw [unhide HQ]; exact rowB_no hj4 ((unhide HXY).trans (unhide HC).symm)
          obtain rfl : Q = false := unhide HV
          clear HF
          go_wp2_with fail
          go_ret
          exact ⟨rfl, unhide HB3⟩
        | true =>
          have HF2 : Hid (∀ q (h : q < (cells4 r.data.toList W).length), q < j + 1 → cellB (cells4 r.data.toList W)[q] = true) := fun q h hq => by
            by_cases e : q = j
            · subst e; exact (unhide HXY).trans (unhide HC).symm
            · exact unhide HF q h (by omega)
          clear HF
          go_wp2_with fail
          go_roundw
          case rel => exact ⟨j + 1, by omega, by go_num, HF2, HB3⟩
          case measure => simp [intOf]; omega
      · obtain rfl : j = W := by omega
        have HV : Hid (Q = true) := by show _ = _; rw [unhide HQ]; exact rowB_yes (by rw [unhide HSZ, unhide HM]) fun q hq => unhide HF q hq (by have := unhide HCL4; omega)
        obtain rfl : Q = true := unhide HV
        go_wp2_with fail
        go_ret
        exact ⟨rfl, unhide HB⟩
  · have hne : ((r.size : Int) != (m : Int)) = true := by rw [bne_iff_ne]; omega
    obtain rfl : Q = false := by rw [unhide HQ]; exact rowB_len (by rw [← unhide HM]; exact hsz)
    clear hsz HQ
    go_enter Tryd.func37, Tryd.ntmps37
    go_wp2_with fail
    go_ret
    exact ⟨rfl, unhide B0⟩
end Go.Proofs.YtblhediekdeffaaDoor
