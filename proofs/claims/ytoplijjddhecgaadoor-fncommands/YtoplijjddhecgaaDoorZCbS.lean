/- The bytes of a command: what the specification answers. -/
import Derived.Test.YtoplijjddhecgaaDoorZCbM
import Derived.Test.YtoplijjddhecgaaDoorZCmdS
import Derived.Test.YtoplijjddhecgaaDoorZG38
import Derived.Test.YtoplijjddhecgaaDoorZFieldsS
namespace Go.Proofs.YtoplijjddhecgaaDoor
open Go.ChangeShapes Go.WideShapes Go.ChangeAt Go.RowKit
set_option linter.unusedVariables false
theorem sbit (r : Bool) (w : World) : Calls Tryd.prog 37 #[.bool r] w fun e w' => e = .returned (.int .i64 (bitI r)) ∧ w' = w := by
  cases r
  all_goals
    go_enter Tryd.func37, Tryd.ntmps37
    go_wp2_with fail
    go_ret
    exact ⟨rfl, rfl⟩
set_option maxHeartbeats 2000000 in
set_option maxRecDepth 100000 in
theorem sl06b (k cl sq p n ep : Int) (r : Bool) (nm dt : ByteArray) (hok : cmdB k cl sq p n ep r nm dt = true) (L : List UInt8) (hL : L = cbL k cl sq p n ep r nm dt) (w : World) : Calls Tryd.prog 17 #[.agg #[.int .i64 k, .int .i64 cl, .int .i64 sq, .int .i64 p, .int .i64 n, .int .i64 ep, .bool r, .string nm, .string dt]] w fun e w' => e = .returned (.string ⟨L.toArray⟩) ∧ Below w.heap.size w w' := by
  have HB := hide (Go.Joins.below_alloc1 w (.cells #[.int .i64 k, .int .i64 cl, .int .i64 sq, .int .i64 p, .int .i64 n, .int .i64 ep, .bool r, .string nm, .string dt] 24))
  have BX := hide (BF.new w #[.int .i64 k, .int .i64 cl, .int .i64 sq, .int .i64 p, .int .i64 n, .int .i64 ep, .bool r, .string nm, .string dt] 24)
  have hcp := cmd_parts hok
  have n1 : -100 ≤ n := hcp.2.2.2.2.1.1
  have n2 : n ≤ 200 := hcp.2.2.2.2.1.2
  have HFIT := hide (cb_fit hok)
  obtain ⟨N1, hN1⟩ : ∃ N1, N1 = (⟨(numsL (cbN k cl sq p n ep r)).toArray⟩ : ByteArray) := ⟨_, rfl⟩
  have hF : cbF k cl sq p n ep r nm dt = [N1, nm, dt] := by rw [hN1]; rfl
  have hsz := cb_sizes hok
  rw [hF] at hsz
  have hLf : be [N1, nm, dt].length 1 ++ fieldsL [N1, nm, dt] = L := by rw [hL]; unfold cbL; rw [hF]; rfl
  have T2 := hide (fun a cap w hr => sfields24 a cap [N1, nm, dt] (by simp) (short_of hsz (by decide)) (fsum_of (n := 3) hsz (by simp) (by decide)) w hr)
  rw [hLf] at T2
  have HN1 := hide hN1
  clear hok hcp hN1 hF hsz hLf hL
  have c1 := (unhide BX).S
  go_enter Tryd.func17, Tryd.ntmps17
  go_wp2_with fail
  refine wp_region_held_drew (S := fun w' => ∀ o, w'.cell? ⟨w.heap.size, o, none⟩ = (#[.int .i64 k, .int .i64 cl, .int .i64 sq, .int .i64 p, .int .i64 n, .int .i64 ep, .bool r, .string nm, .string dt] : Array Value)[o]?) (by kernel_rfl) c1 (fun hHeld => ?_)
  refine wpAnyH_take (i := 0) (oi := { dst := some 3, op := .fieldAddr 24 (.tmp 1) 0, type := 0, pos := "l06_mux.go:42", after := #[], guard := none }) (v := ?_) rfl (by kernel_rfl) (by kernel_rfl) (by kernel_rfl) (fun _ _ _ h => h) (Or.inl ⟨by rfl, ?_⟩) (by assumption) ?_
  rotate_left 1
  · (intro w' hSw; (try dsimp only at hSw); go_simp; try with_reducible rfl)
  try simp only [Act.put, List.setIfInBounds_toArray, List.set_cons_zero, List.set_cons_succ]
  refine wpAnyH_take (i := 1) (oi := { dst := some 4, op := .load 3 (.tmp 3), type := 3, pos := "l06_mux.go:42", after := #[{ on := 0, ground := .data }], guard := none }) (v := ?_) rfl (by kernel_rfl) (by kernel_rfl) (by kernel_rfl) (fun _ _ _ h => h) (Or.inl ⟨by rfl, ?_⟩) (by assumption) ?_
  rotate_left 1
  · (intro w' hSw; (try dsimp only at hSw); go_simp; try with_reducible rfl)
  try simp only [Act.put, List.setIfInBounds_toArray, List.set_cons_zero, List.set_cons_succ]
  refine wpAnyH_take (i := 2) (oi := { dst := some 5, op := .fieldAddr 24 (.tmp 1) 1, type := 0, pos := "l06_mux.go:42", after := #[], guard := none }) (v := ?_) rfl (by kernel_rfl) (by kernel_rfl) (by kernel_rfl) (fun _ _ _ h => h) (Or.inl ⟨by rfl, ?_⟩) (by assumption) ?_
  rotate_left 1
  · (intro w' hSw; (try dsimp only at hSw); go_simp; try with_reducible rfl)
  try simp only [Act.put, List.setIfInBounds_toArray, List.set_cons_zero, List.set_cons_succ]
  refine wpAnyH_take (i := 3) (oi := { dst := some 6, op := .load 3 (.tmp 5), type := 3, pos := "l06_mux.go:42", after := #[{ on := 2, ground := .data }], guard := none }) (v := ?_) rfl (by kernel_rfl) (by kernel_rfl) (by kernel_rfl) (fun _ _ _ h => h) (Or.inl ⟨by rfl, ?_⟩) (by assumption) ?_
  rotate_left 1
  · (intro w' hSw; (try dsimp only at hSw); go_simp; try with_reducible rfl)
  try simp only [Act.put, List.setIfInBounds_toArray, List.set_cons_zero, List.set_cons_succ]
  refine wpAnyH_take (i := 4) (oi := { dst := some 7, op := .fieldAddr 24 (.tmp 1) 2, type := 0, pos := "l06_mux.go:42", after := #[], guard := none }) (v := ?_) rfl (by kernel_rfl) (by kernel_rfl) (by kernel_rfl) (fun _ _ _ h => h) (Or.inl ⟨by rfl, ?_⟩) (by assumption) ?_
  rotate_left 1
  · (intro w' hSw; (try dsimp only at hSw); go_simp; try with_reducible rfl)
  try simp only [Act.put, List.setIfInBounds_toArray, List.set_cons_zero, List.set_cons_succ]
  refine wpAnyH_take (i := 5) (oi := { dst := some 8, op := .load 3 (.tmp 7), type := 3, pos := "l06_mux.go:42", after := #[{ on := 4, ground := .data }], guard := none }) (v := ?_) rfl (by kernel_rfl) (by kernel_rfl) (by kernel_rfl) (fun _ _ _ h => h) (Or.inl ⟨by rfl, ?_⟩) (by assumption) ?_
  rotate_left 1
  · (intro w' hSw; (try dsimp only at hSw); go_simp; try with_reducible rfl)
  try simp only [Act.put, List.setIfInBounds_toArray, List.set_cons_zero, List.set_cons_succ]
  refine wpAnyH_take (i := 6) (oi := { dst := some 9, op := .fieldAddr 24 (.tmp 1) 3, type := 0, pos := "l06_mux.go:42", after := #[], guard := none }) (v := ?_) rfl (by kernel_rfl) (by kernel_rfl) (by kernel_rfl) (fun _ _ _ h => h) (Or.inl ⟨by rfl, ?_⟩) (by assumption) ?_
  rotate_left 1
  · (intro w' hSw; (try dsimp only at hSw); go_simp; try with_reducible rfl)
  try simp only [Act.put, List.setIfInBounds_toArray, List.set_cons_zero, List.set_cons_succ]
  refine wpAnyH_take (i := 7) (oi := { dst := some 10, op := .load 3 (.tmp 9), type := 3, pos := "l06_mux.go:42", after := #[{ on := 6, ground := .data }], guard := none }) (v := ?_) rfl (by kernel_rfl) (by kernel_rfl) (by kernel_rfl) (fun _ _ _ h => h) (Or.inl ⟨by rfl, ?_⟩) (by assumption) ?_
  rotate_left 1
  · (intro w' hSw; (try dsimp only at hSw); go_simp; try with_reducible rfl)
  try simp only [Act.put, List.setIfInBounds_toArray, List.set_cons_zero, List.set_cons_succ]
  refine wpAnyH_take (i := 8) (oi := { dst := some 11, op := .fieldAddr 24 (.tmp 1) 4, type := 0, pos := "l06_mux.go:42", after := #[], guard := none }) (v := ?_) rfl (by kernel_rfl) (by kernel_rfl) (by kernel_rfl) (fun _ _ _ h => h) (Or.inl ⟨by rfl, ?_⟩) (by assumption) ?_
  rotate_left 1
  · (intro w' hSw; (try dsimp only at hSw); go_simp; try with_reducible rfl)
  try simp only [Act.put, List.setIfInBounds_toArray, List.set_cons_zero, List.set_cons_succ]
  refine wpAnyH_take (i := 9) (oi := { dst := some 12, op := .load 3 (.tmp 11), type := 3, pos := "l06_mux.go:42", after := #[{ on := 8, ground := .data }], guard := none }) (v := ?_) rfl (by kernel_rfl) (by kernel_rfl) (by kernel_rfl) (fun _ _ _ h => h) (Or.inl ⟨by rfl, ?_⟩) (by assumption) ?_
  rotate_left 1
  · (intro w' hSw; (try dsimp only at hSw); go_simp; try with_reducible rfl)
  try simp only [Act.put, List.setIfInBounds_toArray, List.set_cons_zero, List.set_cons_succ]
  refine wpAnyH_take (i := 10) (oi := { dst := some 13, op := .binOp .add 3 (.tmp 12) (.const (.int .i64 1000)) 3, type := 3, pos := "l06_mux.go:42", after := #[{ on := 9, ground := .data }], guard := none }) (v := ?_) rfl (by kernel_rfl) (by kernel_rfl) (by kernel_rfl) (fun _ _ _ h => h) (Or.inl ⟨by rfl, ?_⟩) (by assumption) ?_
  rotate_left 1
  · (intro w' hSw; (try dsimp only at hSw); go_simp; try with_reducible rfl)
  try simp only [Act.put, List.setIfInBounds_toArray, List.set_cons_zero, List.set_cons_succ]
  refine wpAnyH_take (i := 11) (oi := { dst := some 14, op := .fieldAddr 24 (.tmp 1) 5, type := 0, pos := "l06_mux.go:42", after := #[], guard := none }) (v := ?_) rfl (by kernel_rfl) (by kernel_rfl) (by kernel_rfl) (fun _ _ _ h => h) (Or.inl ⟨by rfl, ?_⟩) (by assumption) ?_
  rotate_left 1
  · (intro w' hSw; (try dsimp only at hSw); go_simp; try with_reducible rfl)
  try simp only [Act.put, List.setIfInBounds_toArray, List.set_cons_zero, List.set_cons_succ]
  refine wpAnyH_take (i := 12) (oi := { dst := some 15, op := .load 3 (.tmp 14), type := 3, pos := "l06_mux.go:42", after := #[{ on := 11, ground := .data }], guard := none }) (v := ?_) rfl (by kernel_rfl) (by kernel_rfl) (by kernel_rfl) (fun _ _ _ h => h) (Or.inl ⟨by rfl, ?_⟩) (by assumption) ?_
  rotate_left 1
  · (intro w' hSw; (try dsimp only at hSw); go_simp; try with_reducible rfl)
  try simp only [Act.put, List.setIfInBounds_toArray, List.set_cons_zero, List.set_cons_succ]
  refine wpAnyH_take (i := 13) (oi := { dst := some 16, op := .fieldAddr 24 (.tmp 1) 6, type := 0, pos := "l06_mux.go:42", after := #[], guard := none }) (v := ?_) rfl (by kernel_rfl) (by kernel_rfl) (by kernel_rfl) (fun _ _ _ h => h) (Or.inl ⟨by rfl, ?_⟩) (by assumption) ?_
  rotate_left 1
  · (intro w' hSw; (try dsimp only at hSw); go_simp; try with_reducible rfl)
  try simp only [Act.put, List.setIfInBounds_toArray, List.set_cons_zero, List.set_cons_succ]
  refine wpAnyH_take (i := 14) (oi := { dst := some 17, op := .load 4 (.tmp 16), type := 4, pos := "l06_mux.go:42", after := #[{ on := 13, ground := .data }], guard := none }) (v := ?_) rfl (by kernel_rfl) (by kernel_rfl) (by kernel_rfl) (fun _ _ _ h => h) (Or.inl ⟨by rfl, ?_⟩) (by assumption) ?_
  rotate_left 1
  · (intro w' hSw; (try dsimp only at hSw); go_simp; try with_reducible rfl)
  try simp only [Act.put, List.setIfInBounds_toArray, List.set_cons_zero, List.set_cons_succ]
  refine wpAnyH_take (i := 19) (oi := { dst := some 22, op := .fieldAddr 24 (.tmp 1) 7, type := 0, pos := "l06_mux.go:42", after := #[], guard := none }) (v := ?_) rfl (by kernel_rfl) (by kernel_rfl) (by kernel_rfl) (fun _ _ _ h => h) (Or.inl ⟨by rfl, ?_⟩) (by assumption) ?_
  rotate_left 1
  · (intro w' hSw; (try dsimp only at hSw); go_simp; try with_reducible rfl)
  try simp only [Act.put, List.setIfInBounds_toArray, List.set_cons_zero, List.set_cons_succ]
  refine wpAnyH_take (i := 20) (oi := { dst := some 23, op := .load 9 (.tmp 22), type := 9, pos := "l06_mux.go:42", after := #[{ on := 19, ground := .data }], guard := none }) (v := ?_) rfl (by kernel_rfl) (by kernel_rfl) (by kernel_rfl) (fun _ _ _ h => h) (Or.inl ⟨by rfl, ?_⟩) (by assumption) ?_
  rotate_left 1
  · (intro w' hSw; (try dsimp only at hSw); go_simp; try with_reducible rfl)
  try simp only [Act.put, List.setIfInBounds_toArray, List.set_cons_zero, List.set_cons_succ]
  refine wpAnyH_take (i := 21) (oi := { dst := some 24, op := .fieldAddr 24 (.tmp 1) 8, type := 0, pos := "l06_mux.go:42", after := #[], guard := none }) (v := ?_) rfl (by kernel_rfl) (by kernel_rfl) (by kernel_rfl) (fun _ _ _ h => h) (Or.inl ⟨by rfl, ?_⟩) (by assumption) ?_
  rotate_left 1
  · (intro w' hSw; (try dsimp only at hSw); go_simp; try with_reducible rfl)
  try simp only [Act.put, List.setIfInBounds_toArray, List.set_cons_zero, List.set_cons_succ]
  refine wpAnyH_take (i := 22) (oi := { dst := some 25, op := .load 9 (.tmp 24), type := 9, pos := "l06_mux.go:42", after := #[{ on := 21, ground := .data }], guard := none }) (v := ?_) rfl (by kernel_rfl) (by kernel_rfl) (by kernel_rfl) (fun _ _ _ h => h) (Or.inl ⟨by rfl, ?_⟩) (by assumption) ?_
  rotate_left 1
  · (intro w' hSw; (try dsimp only at hSw); go_simp; try with_reducible rfl)
  try simp only [Act.put, List.setIfInBounds_toArray, List.set_cons_zero, List.set_cons_succ]
  rw [show IntKind.i64.wrap (n + 1000) = n + 1000 from wrapi _ (by omega) (by omega)]
  have BX2 := hide (unhide BX).drew
  have HB2 := hide (unhide HB).drew
  generalize (w.alloc _).drew = w2 at BX2 HB2 hHeld ⊢
  refine wpAnyH_ready (rs := [15]) (by kernel_rfl) (by simp) ?_
  refine AllReadyH.cons (o := { dst := some 18, op := .call { callee := .value (.func 37), args := #[.tmp 17], argTypes := #[4] }, type := 3, pos := "l06_mux.go:42", after := #[{ on := 14, ground := .data }], guard := none }) rfl (fun K hK => ?_) AllReadyH.nil
  go_simp
  refine (sbit r _).mono ?_
  rintro e w3 ⟨rfl, hw⟩
  subst hw
  go_wp2_with fail
  refine hK.out _ _ ?_ (fun hHeld15 => ?_)
  · exact (unhide BX2).S
  clear hK K
  try simp only [Act.put, List.setIfInBounds_toArray, List.set_cons_zero, List.set_cons_succ]
  refine wpAnyH_ready (rs := [16]) (by kernel_rfl) (by simp) ?_
  refine AllReadyH.cons (o := { dst := some 19, op := .buildSlice 55 7 #[(0, .tmp 4), (1, .tmp 6), (2, .tmp 8), (3, .tmp 10), (4, .tmp 13), (5, .tmp 15), (6, .tmp 18)], type := 55, pos := "l06_mux.go:42", after := #[{ on := 1, ground := .data }, { on := 3, ground := .data }, { on := 5, ground := .data }, { on := 7, ground := .data }, { on := 10, ground := .data }, { on := 12, ground := .data }, { on := 15, ground := .data }], guard := none }) rfl (fun K hK => ?_) AllReadyH.nil
  have BX4 := hide ((unhide BX2).alloc (.cells #[.int .i64 k, .int .i64 cl, .int .i64 sq, .int .i64 p, .int .i64 (n + 1000), .int .i64 ep, .int .i64 (bitI r)] 3))
  have HB4 := hide ((unhide HB2).alloc (unhide HB2).size (.cells #[.int .i64 k, .int .i64 cl, .int .i64 sq, .int .i64 p, .int .i64 (n + 1000), .int .i64 ep, .int .i64 (bitI r)] 3))
  have HN4 : Hid (RowV (w3.alloc (.cells #[.int .i64 k, .int .i64 cl, .int .i64 sq, .int .i64 p, .int .i64 (n + 1000), .int .i64 ep, .int .i64 (bitI r)] 3)) (some ⟨w3.heap.size, 0, none⟩) (cI (cbN k cl sq p n ep r))) := rowZ_at (z := 1) (base := w3.heap.size) (n := 7) (cap := 7) (World.ownsRow_lit (e := 3) (base := w3.heap.size) (size := 1) w3 #[.int .i64 k, .int .i64 cl, .int .i64 sq, .int .i64 p, .int .i64 (n + 1000), .int .i64 ep, .int .i64 (bitI r)] 7 (Nat.le_refl _) (by unfold maxLen; omega) rfl)
  go_simp
  refine hK.out _ _ ?_ (fun hHeld16 => ?_)
  · exact (unhide BX4).S
  clear hK K
  try simp only [Act.put, List.setIfInBounds_toArray, List.set_cons_zero, List.set_cons_succ]
  generalize w3.alloc (.cells #[.int .i64 k, .int .i64 cl, .int .i64 sq, .int .i64 p, .int .i64 (n + 1000), .int .i64 ep, .int .i64 (bitI r)] 3) = w4 at BX4 HB4 HN4 hHeld16 ⊢
  refine wpAnyH_ready (rs := [17]) (by kernel_rfl) (by simp) ?_
  refine AllReadyH.cons (o := { dst := some 20, op := .call { callee := .value (.func 36), args := #[.tmp 19], argTypes := #[55] }, type := 22, pos := "l06_mux.go:42", after := #[{ on := 16, ground := .data }, { on := 15, ground := .chain }], guard := none }) rfl (fun K hK => ?_) AllReadyH.nil
  go_simp
  refine (snums _ 7 (cbN k cl sq p n ep r) (by simp [cbN]) (unhide HFIT) _ (unhide HN4)).mono ?_
  rintro e w5 ⟨v5, rfl, ho5, hb5⟩
  have hcv := conv_own (P := Tryd.prog) Tryd.underlying22 Tryd.underlying5 Tryd.underlying9 ho5
  rw [← unhide HN1] at hcv
  obtain ⟨a5, c5, rfl, -⟩ := own_rowV ho5
  have BX5 := hide ((unhide BX4).below hb5)
  have HB5 := hide ((unhide HB4).trans (hb5.mono (unhide HB4).size))
  clear hb5 ho5
  go_wp2_with fail
  refine hK.out _ _ ?_ (fun hHeld17 => ?_)
  · exact (unhide BX5).S
  clear hK K
  try simp only [Act.put, List.setIfInBounds_toArray, List.set_cons_zero, List.set_cons_succ]
  refine wpAnyH_ready (rs := [18]) (by kernel_rfl) (by simp) ?_
  refine AllReadyH.cons (o := { dst := some 21, op := .convert 22 9 (.tmp 20), type := 9, pos := "l06_mux.go:42", after := #[{ on := 17, ground := .data }], guard := none }) rfl (fun K hK => ?_) AllReadyH.nil
  go_simp
  clear hcv
  refine hK.out _ _ ?_ (fun hHeld18 => ?_)
  · exact (unhide BX5).S
  clear hK K
  try simp only [Act.put, List.setIfInBounds_toArray, List.set_cons_zero, List.set_cons_succ]
  refine wpAnyH_ready (rs := [23]) (by kernel_rfl) (by simp) ?_
  refine AllReadyH.cons (o := { dst := some 26, op := .buildSlice 39 3 #[(0, .tmp 21), (1, .tmp 23), (2, .tmp 25)], type := 39, pos := "l06_mux.go:42", after := #[{ on := 18, ground := .data }, { on := 20, ground := .data }, { on := 22, ground := .data }], guard := none }) rfl (fun K hK => ?_) AllReadyH.nil
  have BX6 := hide ((unhide BX5).alloc (.cells #[.string N1, .string nm, .string dt] 9))
  have HN6 : Hid (RowV (w5.alloc (.cells #[.string N1, .string nm, .string dt] 9)) (some ⟨w5.heap.size, 0, none⟩) (cS [N1, nm, dt])) := rowZ_at (z := 1) (base := w5.heap.size) (n := 3) (cap := 3) (World.ownsRow_lit (e := 9) (base := w5.heap.size) (size := 1) w5 #[.string N1, .string nm, .string dt] 3 (Nat.le_refl _) (by unfold maxLen; omega) rfl)
  have HB6 := hide ((unhide HB5).alloc (unhide HB5).size (.cells #[.string N1, .string nm, .string dt] 9))
  go_simp
  refine hK.out _ _ ?_ (fun hHeld23 => ?_)
  · exact (unhide BX6).S
  clear hK K
  try simp only [Act.put, List.setIfInBounds_toArray, List.set_cons_zero, List.set_cons_succ]
  generalize w5.alloc (.cells #[.string N1, .string nm, .string dt] 9) = w6 at BX6 HB6 HN6 hHeld23 ⊢
  refine wpAnyH_ready (rs := [24]) (by kernel_rfl) (by simp) ?_
  refine AllReadyH.cons (o := { dst := some 27, op := .call { callee := .value (.func 35), args := #[.tmp 26], argTypes := #[39] }, type := 22, pos := "l06_mux.go:42", after := #[{ on := 23, ground := .data }, { on := 17, ground := .chain }], guard := none }) rfl (fun K hK => ?_) AllReadyH.nil
  go_simp
  refine (unhide T2 _ _ _ (unhide HN6)).mono ?_
  rintro e w7 ⟨v7, rfl, ho7, hb7⟩
  have hcv := conv_own (P := Tryd.prog) Tryd.underlying22 Tryd.underlying5 Tryd.underlying9 ho7
  obtain ⟨a7, c7, rfl, -⟩ := own_rowV ho7
  have BX7 := hide ((unhide BX6).below hb7)
  have HB7 := hide ((unhide HB6).trans (hb7.mono (unhide HB6).size))
  clear hb7 ho7
  go_wp2_with fail
  refine hK.out _ _ ?_ (fun hHeld24 => ?_)
  · exact (unhide BX7).S
  clear hK K
  try simp only [Act.put, List.setIfInBounds_toArray, List.set_cons_zero, List.set_cons_succ]
  refine wpAnyH_ready (rs := [25]) (by kernel_rfl) (by simp) ?_
  refine AllReadyH.cons (o := { dst := some 28, op := .convert 22 9 (.tmp 27), type := 9, pos := "l06_mux.go:42", after := #[{ on := 24, ground := .data }], guard := none }) rfl (fun K hK => ?_) AllReadyH.nil
  go_simp
  clear hcv
  refine hK.out _ _ ?_ (fun hHeld25 => ?_)
  · exact (unhide BX7).S
  clear hK K
  try simp only [Act.put, List.setIfInBounds_toArray, List.set_cons_zero, List.set_cons_succ]
  refine wpAnyH_take (i := 26) (oi := { dst := some 2, op := .assign (.tmp 28), type := 9, pos := "l06_mux.go:42", after := #[{ on := 25, ground := .data }, { on := 24, ground := .chain }, { on := 0, ground := .phase }, { on := 1, ground := .phase }, { on := 2, ground := .phase }, { on := 3, ground := .phase }, { on := 4, ground := .phase }, { on := 5, ground := .phase }, { on := 6, ground := .phase }, { on := 7, ground := .phase }, { on := 8, ground := .phase }, { on := 9, ground := .phase }, { on := 10, ground := .phase }, { on := 11, ground := .phase }, { on := 12, ground := .phase }, { on := 13, ground := .phase }, { on := 14, ground := .phase }, { on := 15, ground := .phase }, { on := 16, ground := .phase }, { on := 17, ground := .phase }, { on := 18, ground := .phase }, { on := 19, ground := .phase }, { on := 20, ground := .phase }, { on := 21, ground := .phase }, { on := 22, ground := .phase }, { on := 23, ground := .phase }, { on := 24, ground := .phase }, { on := 25, ground := .phase }], guard := none }) (v := ?_) rfl (by kernel_rfl) (by kernel_rfl) (by kernel_rfl) (fun _ _ _ h => h) (Or.inl ⟨by rfl, ?_⟩) (by assumption) ?_
  rotate_left 1
  · (intro w' hSw; (try dsimp only at hSw); go_simp; try with_reducible rfl)
  try simp only [Act.put, List.setIfInBounds_toArray, List.set_cons_zero, List.set_cons_succ]
  refine wpAnyH_done (by kernel_rfl) ?_ _
  clear hHeld hHeld15 hHeld16 hHeld17 hHeld18 hHeld23 hHeld24 hHeld25 c1
  go_wp2_with fail
  go_ret
  exact ⟨rfl, unhide HB7⟩
set_option maxHeartbeats 2000000 in
set_option maxRecDepth 100000 in
theorem scmdb (k cl sq p n ep : Int) (r : Bool) (nm dt : ByteArray) (HNM : Hid (nm.size ≤ 1048576)) (HDT : Hid (dt.size ≤ 1048576)) (ok : Bool) (HOK : Hid (ok = cmdB k cl sq p n ep r nm dt)) (L : List UInt8) (HL : Hid (L = cbV ok k cl sq p n ep r nm dt)) (c : Int) (HC : Hid (c = cbC ok)) (w : World) : Calls Tryd.prog 7 #[.agg #[.int .i64 k, .int .i64 cl, .int .i64 sq, .int .i64 p, .int .i64 n, .int .i64 ep, .bool r, .string nm, .string dt]] w fun e w' => ∃ a' cap', e = .returned (.tuple #[.slice a' L.length cap', .int .i64 c]) ∧ RowIn w' w.heap.size w'.heap.size a' (B8 L) ∧ Below w.heap.size w w' := by
  have HB := hide (Go.Joins.below_alloc1 w (.cells #[.int .i64 k, .int .i64 cl, .int .i64 sq, .int .i64 p, .int .i64 n, .int .i64 ep, .bool r, .string nm, .string dt] 24))
  have BX := hide (BF.new w #[.int .i64 k, .int .i64 cl, .int .i64 sq, .int .i64 p, .int .i64 n, .int .i64 ep, .bool r, .string nm, .string dt] 24)
  have T := hide (fun w => scmd k cl sq p n ep r nm dt HNM HDT ok HOK w)
  have c0 := (unhide BX).S
  cases ok
  · have hc : c = 1 := unhide HC
    have hl : L = [] := unhide HL
    subst hc hl
    go_enter Tryd.func7, Tryd.ntmps7
    go_wp2_with fail
    refine (unhide T _).mono ?_
    rintro e w1 ⟨rfl, hb1⟩
    have HB1 := hide ((unhide HB).trans (hb1.mono (unhide HB).size))
    clear hb1 HB T
    go_wp2_with fail
    go_ret2
    exact ⟨_, _, rfl, ⟨.inl rfl, fun b off h => (by injection h with h; injection h with h1 h2; have := (unhide HB1).size; simp; omega), Nat.le_refl _⟩, (unhide HB1).alloc (unhide HB1).size _⟩
  · have hc : c = 0 := unhide HC
    have hok : cmdB k cl sq p n ep r nm dt = true := (unhide HOK).symm
    have hl : L = cbL k cl sq p n ep r nm dt := unhide HL
    have T2 := hide (fun w => sl06b k cl sq p n ep r nm dt hok L hl w)
    subst hc
    clear hok hl HL HC HOK
    go_enter Tryd.func7, Tryd.ntmps7
    go_wp2_with fail
    refine (unhide T _).mono ?_
    rintro e w1 ⟨rfl, hb1⟩
    have HB1 := hide ((unhide HB).trans (hb1.mono (unhide HB).size))
    have BX1 := hide ((unhide BX).below hb1)
    clear hb1 HB BX T c0
    have c1 := (unhide BX1).S
    go_wp2_with fail
    refine (unhide T2 _).mono ?_
    rintro e w3 ⟨rfl, hb3⟩
    have HB3 := hide ((unhide HB1).trans (hb3.mono (unhide HB1).size))
    obtain ⟨w4, c4, hcv, hin, hb4⟩ := to_in w3 L
    have HIN := hide hin
    have HB4 := hide ((unhide HB3).trans (hb4.mono (unhide HB3).size))
    have HZ3 : Hid (w.heap.size ≤ w3.heap.size) := (unhide HB3).size
    clear hb3 hb4 hin T2 HB1 HB3 c1
    go_wp2_with fail
    go_ret2
    have hin := unhide HIN
    have hlt := unhide HZ3
    exact ⟨_, _, rfl, ⟨hin.row, fun b off h => (by have := hin.blk b off h; omega), Nat.le_refl _⟩, unhide HB4⟩
end Go.Proofs.YtoplijjddhecgaaDoor
