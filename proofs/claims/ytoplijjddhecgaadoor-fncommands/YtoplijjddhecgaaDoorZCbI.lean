/- The bytes of a command: what the program answers. -/
import Derived.Test.YtoplijjddhecgaaDoorZCbM
import Derived.Test.YtoplijjddhecgaaDoorZCmdI
import Derived.Test.YtoplijjddhecgaaDoorZG23
import Derived.Test.YtoplijjddhecgaaDoorZFieldsI
namespace Go.Proofs.YtoplijjddhecgaaDoor
open Go.ChangeShapes Go.WideShapes Go.ChangeAt Go.RowKit
set_option linter.unusedVariables false
theorem ibit (r : Bool) (w : World) : Calls Tryd.prog 14 #[.bool r] w fun e w' => e = .returned (.int .i64 (bitI r)) ∧ w' = w := by
  cases r
  all_goals
    go_enter Tryd.func14, Tryd.ntmps14
    go_wp2_with fail
    go_ret
    exact ⟨rfl, rfl⟩
set_option maxHeartbeats 2000000 in
set_option maxRecDepth 100000 in
theorem icmdb (k cl sq p n ep : Int) (r : Bool) (nm dt : ByteArray) (HNM : Hid (nm.size ≤ 1048576)) (HDT : Hid (dt.size ≤ 1048576)) (ok : Bool) (HOK : Hid (ok = cmdB k cl sq p n ep r nm dt)) (L : List UInt8) (HL : Hid (L = cbV ok k cl sq p n ep r nm dt)) (c : Int) (HC : Hid (c = cbC ok)) (w : World) : Calls Tryd.prog 6 #[.agg #[.int .i64 k, .int .i64 cl, .int .i64 sq, .int .i64 p, .int .i64 n, .int .i64 ep, .bool r, .string nm, .string dt]] w fun e w' => ∃ v, e = .returned (.tuple #[v, .int .i64 c]) ∧ w'.ownsRow w.heap.size 5 1 v L.length (B8 L) ∧ Below w.heap.size w w' := by
  have HB := hide (Go.Joins.below_alloc1 w (.cells #[.int .i64 k, .int .i64 cl, .int .i64 sq, .int .i64 p, .int .i64 n, .int .i64 ep, .bool r, .string nm, .string dt] 24))
  have BX := hide (BF.new w #[.int .i64 k, .int .i64 cl, .int .i64 sq, .int .i64 p, .int .i64 n, .int .i64 ep, .bool r, .string nm, .string dt] 24)
  have T := hide (fun w => icmd k cl sq p n ep r nm dt HNM HDT ok HOK w)
  have c0 := (unhide BX).S
  cases ok
  · have hc : c = 1 := unhide HC
    have hl : L = [] := unhide HL
    subst hc hl
    go_enter Tryd.func6, Tryd.ntmps6
    go_wp2_with fail
    refine (unhide T _).mono ?_
    rintro e w1 ⟨rfl, hb1⟩
    have HB1 := hide ((unhide HB).trans (hb1.mono (unhide HB).size))
    clear hb1 HB T
    go_wp2_with fail
    go_ret2
    exact ⟨_, rfl, World.ownsRow_nil _ _ _ _, unhide HB1⟩
  · have hc : c = 0 := unhide HC
    have hok : cmdB k cl sq p n ep r nm dt = true := (unhide HOK).symm
    have hcp := cmd_parts hok
    have n1 : -100 ≤ n := hcp.2.2.2.2.1.1
    have n2 : n ≤ 200 := hcp.2.2.2.2.1.2
    have HFIT := hide (cb_fit hok)
    obtain ⟨N1, hN1⟩ : ∃ N1, N1 = (⟨(numsL (cbN k cl sq p n ep r)).toArray⟩ : ByteArray) := ⟨_, rfl⟩
    have hF : cbF k cl sq p n ep r nm dt = [N1, nm, dt] := by rw [hN1]; rfl
    have hsz := cb_sizes hok
    rw [hF] at hsz
    have hfb := fb_ok (l := [N1, nm, dt]) (by simp) (short_of hsz (by decide)) (fsum_of (n := 3) hsz (by simp) (by decide))
    have hLf : L = fbL [N1, nm, dt] := by rw [hfb.1, unhide HL]; unfold cbV cbL; rw [if_pos rfl, hF]; rfl
    have T2 := hide (fun a cap w hr => ifieldsH a cap [N1, nm, dt] L 0 hLf hfb.2.symm (by simp) (fun k h => Nat.le_trans (hsz _ (List.getElem_mem h)) (by decide)) w hr)
    have HN1 := hide hN1
    subst hc
    clear hok hcp hN1 hF hsz hfb hLf HL HC HOK
    go_enter Tryd.func6, Tryd.ntmps6
    go_wp2_with fail
    refine (unhide T _).mono ?_
    rintro e w1 ⟨rfl, hb1⟩
    have HB1 := hide ((unhide HB).trans (hb1.mono (unhide HB).size))
    have BX1 := hide ((unhide BX).below hb1)
    clear hb1 HB BX T c0
    have c1 := (unhide BX1).S
    go_wp2_with fail
    refine wp_region_held_drew (S := fun w' => ∀ o, w'.cell? ⟨w.heap.size, o, none⟩ = (#[.int .i64 k, .int .i64 cl, .int .i64 sq, .int .i64 p, .int .i64 n, .int .i64 ep, .bool r, .string nm, .string dt] : Array Value)[o]?) (by kernel_rfl) c1 (fun hHeld => ?_)
    refine wpAnyH_take (i := 0) (oi := { dst := some 8, op := .fieldAddr 24 (.tmp 1) 0, type := 0, pos := "l06_mux.go:245", after := #[], guard := none }) (v := ?_) rfl (by kernel_rfl) (by kernel_rfl) (by kernel_rfl) (fun _ _ _ h => h) (Or.inl ⟨by rfl, ?_⟩) (by assumption) ?_
    rotate_left 1
    · (intro w' hSw; (try dsimp only at hSw); go_simp; try with_reducible rfl)
    try simp only [Act.put, List.setIfInBounds_toArray, List.set_cons_zero, List.set_cons_succ]
    refine wpAnyH_take (i := 1) (oi := { dst := some 9, op := .load 3 (.tmp 8), type := 3, pos := "l06_mux.go:245", after := #[{ on := 0, ground := .data }], guard := none }) (v := ?_) rfl (by kernel_rfl) (by kernel_rfl) (by kernel_rfl) (fun _ _ _ h => h) (Or.inl ⟨by rfl, ?_⟩) (by assumption) ?_
    rotate_left 1
    · (intro w' hSw; (try dsimp only at hSw); go_simp; try with_reducible rfl)
    try simp only [Act.put, List.setIfInBounds_toArray, List.set_cons_zero, List.set_cons_succ]
    refine wpAnyH_take (i := 2) (oi := { dst := some 10, op := .fieldAddr 24 (.tmp 1) 1, type := 0, pos := "l06_mux.go:245", after := #[], guard := none }) (v := ?_) rfl (by kernel_rfl) (by kernel_rfl) (by kernel_rfl) (fun _ _ _ h => h) (Or.inl ⟨by rfl, ?_⟩) (by assumption) ?_
    rotate_left 1
    · (intro w' hSw; (try dsimp only at hSw); go_simp; try with_reducible rfl)
    try simp only [Act.put, List.setIfInBounds_toArray, List.set_cons_zero, List.set_cons_succ]
    refine wpAnyH_take (i := 3) (oi := { dst := some 11, op := .load 3 (.tmp 10), type := 3, pos := "l06_mux.go:245", after := #[{ on := 2, ground := .data }], guard := none }) (v := ?_) rfl (by kernel_rfl) (by kernel_rfl) (by kernel_rfl) (fun _ _ _ h => h) (Or.inl ⟨by rfl, ?_⟩) (by assumption) ?_
    rotate_left 1
    · (intro w' hSw; (try dsimp only at hSw); go_simp; try with_reducible rfl)
    try simp only [Act.put, List.setIfInBounds_toArray, List.set_cons_zero, List.set_cons_succ]
    refine wpAnyH_take (i := 4) (oi := { dst := some 12, op := .fieldAddr 24 (.tmp 1) 2, type := 0, pos := "l06_mux.go:245", after := #[], guard := none }) (v := ?_) rfl (by kernel_rfl) (by kernel_rfl) (by kernel_rfl) (fun _ _ _ h => h) (Or.inl ⟨by rfl, ?_⟩) (by assumption) ?_
    rotate_left 1
    · (intro w' hSw; (try dsimp only at hSw); go_simp; try with_reducible rfl)
    try simp only [Act.put, List.setIfInBounds_toArray, List.set_cons_zero, List.set_cons_succ]
    refine wpAnyH_take (i := 5) (oi := { dst := some 13, op := .load 3 (.tmp 12), type := 3, pos := "l06_mux.go:245", after := #[{ on := 4, ground := .data }], guard := none }) (v := ?_) rfl (by kernel_rfl) (by kernel_rfl) (by kernel_rfl) (fun _ _ _ h => h) (Or.inl ⟨by rfl, ?_⟩) (by assumption) ?_
    rotate_left 1
    · (intro w' hSw; (try dsimp only at hSw); go_simp; try with_reducible rfl)
    try simp only [Act.put, List.setIfInBounds_toArray, List.set_cons_zero, List.set_cons_succ]
    refine wpAnyH_take (i := 6) (oi := { dst := some 14, op := .fieldAddr 24 (.tmp 1) 3, type := 0, pos := "l06_mux.go:245", after := #[], guard := none }) (v := ?_) rfl (by kernel_rfl) (by kernel_rfl) (by kernel_rfl) (fun _ _ _ h => h) (Or.inl ⟨by rfl, ?_⟩) (by assumption) ?_
    rotate_left 1
    · (intro w' hSw; (try dsimp only at hSw); go_simp; try with_reducible rfl)
    try simp only [Act.put, List.setIfInBounds_toArray, List.set_cons_zero, List.set_cons_succ]
    refine wpAnyH_take (i := 7) (oi := { dst := some 15, op := .load 3 (.tmp 14), type := 3, pos := "l06_mux.go:245", after := #[{ on := 6, ground := .data }], guard := none }) (v := ?_) rfl (by kernel_rfl) (by kernel_rfl) (by kernel_rfl) (fun _ _ _ h => h) (Or.inl ⟨by rfl, ?_⟩) (by assumption) ?_
    rotate_left 1
    · (intro w' hSw; (try dsimp only at hSw); go_simp; try with_reducible rfl)
    try simp only [Act.put, List.setIfInBounds_toArray, List.set_cons_zero, List.set_cons_succ]
    refine wpAnyH_take (i := 8) (oi := { dst := some 16, op := .fieldAddr 24 (.tmp 1) 4, type := 0, pos := "l06_mux.go:245", after := #[], guard := none }) (v := ?_) rfl (by kernel_rfl) (by kernel_rfl) (by kernel_rfl) (fun _ _ _ h => h) (Or.inl ⟨by rfl, ?_⟩) (by assumption) ?_
    rotate_left 1
    · (intro w' hSw; (try dsimp only at hSw); go_simp; try with_reducible rfl)
    try simp only [Act.put, List.setIfInBounds_toArray, List.set_cons_zero, List.set_cons_succ]
    refine wpAnyH_take (i := 9) (oi := { dst := some 17, op := .load 3 (.tmp 16), type := 3, pos := "l06_mux.go:245", after := #[{ on := 8, ground := .data }], guard := none }) (v := ?_) rfl (by kernel_rfl) (by kernel_rfl) (by kernel_rfl) (fun _ _ _ h => h) (Or.inl ⟨by rfl, ?_⟩) (by assumption) ?_
    rotate_left 1
    · (intro w' hSw; (try dsimp only at hSw); go_simp; try with_reducible rfl)
    try simp only [Act.put, List.setIfInBounds_toArray, List.set_cons_zero, List.set_cons_succ]
    refine wpAnyH_take (i := 10) (oi := { dst := some 18, op := .binOp .add 3 (.tmp 17) (.const (.int .i64 1000)) 3, type := 3, pos := "l06_mux.go:245", after := #[{ on := 9, ground := .data }], guard := none }) (v := ?_) rfl (by kernel_rfl) (by kernel_rfl) (by kernel_rfl) (fun _ _ _ h => h) (Or.inl ⟨by rfl, ?_⟩) (by assumption) ?_
    rotate_left 1
    · (intro w' hSw; (try dsimp only at hSw); go_simp; try with_reducible rfl)
    try simp only [Act.put, List.setIfInBounds_toArray, List.set_cons_zero, List.set_cons_succ]
    refine wpAnyH_take (i := 11) (oi := { dst := some 19, op := .fieldAddr 24 (.tmp 1) 5, type := 0, pos := "l06_mux.go:245", after := #[], guard := none }) (v := ?_) rfl (by kernel_rfl) (by kernel_rfl) (by kernel_rfl) (fun _ _ _ h => h) (Or.inl ⟨by rfl, ?_⟩) (by assumption) ?_
    rotate_left 1
    · (intro w' hSw; (try dsimp only at hSw); go_simp; try with_reducible rfl)
    try simp only [Act.put, List.setIfInBounds_toArray, List.set_cons_zero, List.set_cons_succ]
    refine wpAnyH_take (i := 12) (oi := { dst := some 20, op := .load 3 (.tmp 19), type := 3, pos := "l06_mux.go:245", after := #[{ on := 11, ground := .data }], guard := none }) (v := ?_) rfl (by kernel_rfl) (by kernel_rfl) (by kernel_rfl) (fun _ _ _ h => h) (Or.inl ⟨by rfl, ?_⟩) (by assumption) ?_
    rotate_left 1
    · (intro w' hSw; (try dsimp only at hSw); go_simp; try with_reducible rfl)
    try simp only [Act.put, List.setIfInBounds_toArray, List.set_cons_zero, List.set_cons_succ]
    refine wpAnyH_take (i := 13) (oi := { dst := some 21, op := .fieldAddr 24 (.tmp 1) 6, type := 0, pos := "l06_mux.go:245", after := #[], guard := none }) (v := ?_) rfl (by kernel_rfl) (by kernel_rfl) (by kernel_rfl) (fun _ _ _ h => h) (Or.inl ⟨by rfl, ?_⟩) (by assumption) ?_
    rotate_left 1
    · (intro w' hSw; (try dsimp only at hSw); go_simp; try with_reducible rfl)
    try simp only [Act.put, List.setIfInBounds_toArray, List.set_cons_zero, List.set_cons_succ]
    refine wpAnyH_take (i := 14) (oi := { dst := some 22, op := .load 4 (.tmp 21), type := 4, pos := "l06_mux.go:245", after := #[{ on := 13, ground := .data }], guard := none }) (v := ?_) rfl (by kernel_rfl) (by kernel_rfl) (by kernel_rfl) (fun _ _ _ h => h) (Or.inl ⟨by rfl, ?_⟩) (by assumption) ?_
    rotate_left 1
    · (intro w' hSw; (try dsimp only at hSw); go_simp; try with_reducible rfl)
    try simp only [Act.put, List.setIfInBounds_toArray, List.set_cons_zero, List.set_cons_succ]
    rw [show IntKind.i64.wrap (n + 1000) = n + 1000 from wrapi _ (by omega) (by omega)]
    have BX2 := hide (unhide BX1).drew
    have HB2 := hide (unhide HB1).drew
    generalize w1.drew = w2 at BX2 HB2 hHeld ⊢
    refine wpAnyH_ready (rs := [15]) (by kernel_rfl) (by simp) ?_
    refine AllReadyH.cons (o := { dst := some 23, op := .call { callee := .value (.func 14), args := #[.tmp 22], argTypes := #[4] }, type := 3, pos := "l06_mux.go:245", after := #[{ on := 14, ground := .data }], guard := none }) rfl (fun K hK => ?_) AllReadyH.nil
    go_simp
    refine (ibit r _).mono ?_
    rintro e w3 ⟨rfl, hw⟩
    subst hw
    go_wp2_with fail
    refine hK.out _ _ ?_ (fun hHeld15 => ?_)
    · exact (unhide BX2).S
    clear hK K
    try simp only [Act.put, List.setIfInBounds_toArray, List.set_cons_zero, List.set_cons_succ]
    refine wpAnyH_ready (rs := [16]) (by kernel_rfl) (by simp) ?_
    refine AllReadyH.cons (o := { dst := some 24, op := .buildSlice 55 7 #[(0, .tmp 9), (1, .tmp 11), (2, .tmp 13), (3, .tmp 15), (4, .tmp 18), (5, .tmp 20), (6, .tmp 23)], type := 55, pos := "l06_mux.go:245", after := #[{ on := 1, ground := .data }, { on := 3, ground := .data }, { on := 5, ground := .data }, { on := 7, ground := .data }, { on := 10, ground := .data }, { on := 12, ground := .data }, { on := 15, ground := .data }], guard := none }) rfl (fun K hK => ?_) AllReadyH.nil
    have BX4 := hide ((unhide BX2).alloc (.cells #[.int .i64 k, .int .i64 cl, .int .i64 sq, .int .i64 p, .int .i64 (n + 1000), .int .i64 ep, .int .i64 (bitI r)] 3))
    have HB4 := hide ((unhide HB2).alloc (unhide HB2).size (.cells #[.int .i64 k, .int .i64 cl, .int .i64 sq, .int .i64 p, .int .i64 (n + 1000), .int .i64 ep, .int .i64 (bitI r)] 3))
    have HN4 : Hid (RowV (w3.alloc (.cells #[.int .i64 k, .int .i64 cl, .int .i64 sq, .int .i64 p, .int .i64 (n + 1000), .int .i64 ep, .int .i64 (bitI r)] 3)) (some ⟨w3.heap.size, 0, none⟩) (cI (cbN k cl sq p n ep r))) := rowZ_at (z := 1) (base := w3.heap.size) (n := 7) (cap := 7) (World.ownsRow_lit (e := 3) (base := w3.heap.size) (size := 1) w3 #[.int .i64 k, .int .i64 cl, .int .i64 sq, .int .i64 p, .int .i64 (n + 1000), .int .i64 ep, .int .i64 (bitI r)] 7 (Nat.le_refl _) (by unfold maxLen; omega) rfl)
    go_simp
    refine hK.out _ _ ?_ (fun hHeld16 => ?_)
    · exact (unhide BX4).S
    clear hK K
    try simp only [Act.put, List.setIfInBounds_toArray, List.set_cons_zero, List.set_cons_succ]
    generalize w3.alloc (.cells #[.int .i64 k, .int .i64 cl, .int .i64 sq, .int .i64 p, .int .i64 (n + 1000), .int .i64 ep, .int .i64 (bitI r)] 3) = w4 at BX4 HB4 HN4 hHeld16 ⊢
    refine wpAnyH_ready (rs := [17]) (by kernel_rfl) (by simp) ?_
    refine AllReadyH.cons (o := { dst := some 25, op := .call { callee := .value (.func 13), args := #[.tmp 24], argTypes := #[55] }, type := 9, pos := "l06_mux.go:245", after := #[{ on := 16, ground := .data }, { on := 15, ground := .chain }], guard := none }) rfl (fun K hK => ?_) AllReadyH.nil
    go_simp
    refine (inumtext _ 7 (cbN k cl sq p n ep r) (unhide HFIT) (by simp [cbN]) _ (unhide HN4)).mono ?_
    rintro e w5 ⟨rfl, hb5⟩
    rw [← unhide HN1]
    have BX5 := hide ((unhide BX4).below hb5)
    have HB5 := hide ((unhide HB4).trans (hb5.mono (unhide HB4).size))
    clear hb5
    go_wp2_with fail
    refine hK.out _ _ ?_ (fun hHeld17 => ?_)
    · exact (unhide BX5).S
    clear hK K
    try simp only [Act.put, List.setIfInBounds_toArray, List.set_cons_zero, List.set_cons_succ]
    refine wpAnyH_take (i := 18) (oi := { dst := some 4, op := .assign (.tmp 25), type := 9, pos := "l06_mux.go:245", after := #[{ on := 17, ground := .data }, { on := 17, ground := .chain }, { on := 0, ground := .phase }, { on := 1, ground := .phase }, { on := 2, ground := .phase }, { on := 3, ground := .phase }, { on := 4, ground := .phase }, { on := 5, ground := .phase }, { on := 6, ground := .phase }, { on := 7, ground := .phase }, { on := 8, ground := .phase }, { on := 9, ground := .phase }, { on := 10, ground := .phase }, { on := 11, ground := .phase }, { on := 12, ground := .phase }, { on := 13, ground := .phase }, { on := 14, ground := .phase }, { on := 15, ground := .phase }, { on := 16, ground := .phase }, { on := 17, ground := .phase }], guard := none }) (v := ?_) rfl (by kernel_rfl) (by kernel_rfl) (by kernel_rfl) (fun _ _ _ h => h) (Or.inl ⟨by rfl, ?_⟩) (by assumption) ?_
    rotate_left 1
    · (intro w' hSw; (try dsimp only at hSw); go_simp; try with_reducible rfl)
    try simp only [Act.put, List.setIfInBounds_toArray, List.set_cons_zero, List.set_cons_succ]
    refine wpAnyH_done (by kernel_rfl) ?_ _
    clear hHeld hHeld15 hHeld16 hHeld17 c1
    have c5 := (unhide BX5).S
    have HN6 : Hid (RowV (w5.alloc (.cells #[.string N1, .string nm, .string dt] 9)) (some ⟨w5.heap.size, 0, none⟩) (cS [N1, nm, dt])) := rowZ_at (z := 1) (base := w5.heap.size) (n := 3) (cap := 3) (World.ownsRow_lit (e := 9) (base := w5.heap.size) (size := 1) w5 #[.string N1, .string nm, .string dt] 3 (Nat.le_refl _) (by unfold maxLen; omega) rfl)
    have HB6 := hide ((unhide HB5).alloc (unhide HB5).size (.cells #[.string N1, .string nm, .string dt] 9))
    go_wp2_with fail
    refine (unhide T2 _ _ _ (unhide HN6)).mono ?_
    rintro e w7 ⟨v7, rfl, ho7, hb7⟩
    have HO7 := hide (Go.Joins.ownsRow_le ho7 (unhide HB6).size)
    have HB7 := hide ((unhide HB6).trans (hb7.mono (unhide HB6).size))
    clear ho7 hb7
    go_wp2_with fail
    go_ret2
    exact ⟨_, rfl, unhide HO7, unhide HB7⟩
end Go.Proofs.YtoplijjddhecgaaDoor
