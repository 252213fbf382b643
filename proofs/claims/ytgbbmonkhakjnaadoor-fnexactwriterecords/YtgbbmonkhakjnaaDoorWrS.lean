/- Records written: what the specification answers. -/
import Derived.Test.YtgbbmonkhakjnaaDoorWrM
import Derived.Test.YtgbbmonkhakjnaaDoorStoS
import Derived.Test.YtgbbmonkhakjnaaDoorFrbS
import Derived.Test.YtgbbmonkhakjnaaDoorStrS
import Derived.Test.YtgbbmonkhakjnaaDoorBf
import Derived.Lib.SmallJoins
namespace Go.Proofs.YtgbbmonkhakjnaaDoor
open Go.ChangeShapes Go.WideShapes Go.ChangeAt Go.RowKit
set_option linter.unusedVariables false
set_option maxHeartbeats 4000000 in
set_option maxRecDepth 100000 in
theorem sl07w (d : ByteArray) (s : Int) (a : Option Addr) (cap n : Nat) (l : List ByteArray) (HN : Hid (l.length = n)) (hn : n ≤ 4096) (hrok : Hid (rokB l = true)) (D : Nat) (HD : Hid (d.size = D)) (hd : D ≤ 60000) (w : World) (hr : RowV w a (cS l)) :
    Calls Tryd.prog 14 #[.agg #[.string d, .int .i64 s], .slice a n cap] w fun e w' => (e = .returned (.tuple #[.agg #[.string (wrD d l), .int .i64 s], .int .i64 0]) ∧ D + (wrL l).length ≤ 60000 ∧ Below w.heap.size w w') ∨ (∃ d', e = .returned (.tuple #[.agg #[.string d', .int .i64 s], .int .i64 7]) ∧ 60000 < D + (wrL l).length ∧ Below w.heap.size w w') := by
  have B0 := hide (Go.Joins.below_alloc2 w (.cells #[.string d, .int .i64 s] 27) (.cells #[.string ⟨#[]⟩, .int .i64 0] 27))
  have A0 := hide ((BF.new w #[.string d, .int .i64 s] 27).alloc (.cells #[.string ⟨#[]⟩, .int .i64 0] 27))
  have Z0 := hide (BF.new (w.alloc (.cells #[.string d, .int .i64 s] 27)) #[.string ⟨#[]⟩, .int .i64 0] 27)
  rw [show (w.alloc (.cells #[.string d, .int .i64 s] 27)).heap.size = w.heap.size + 1 from by simp] at Z0
  have HR := hide hr
  have HCL := hide (cS_len l)
  clear hr
  go_enter Tryd.func14, Tryd.ntmps14
  go_wp2_with fail
  go_loopw [6] (fun i wr => ∃ (k : Nat) (dd : ByteArray) (DD : Nat), k ≤ n ∧ i = .int .i64 k ∧ Hid (dd = wrD d (l.take k)) ∧ Hid (dd.size = DD) ∧ DD ≤ 60000 ∧ Hid (BF w.heap.size #[.string dd, .int .i64 s] wr) ∧ Hid (BF (w.heap.size + 1) #[.string ⟨#[]⟩, .int .i64 0] wr) ∧ Hid (Below w.heap.size w wr)) (fun i _ => n - (intOf i).toNat)
  case atStart => exact ⟨0, d, D, by omega, rfl, by show d = wrD d (l.take 0); simp [wrD, wrL], HD, hd, A0, Z0, B0⟩
  case round =>
    clear A0 Z0 B0
    obtain ⟨k, dd, DD, hk, rfl, HDD, HDZ, hDD, A1, Z1, B1⟩ := hrel
    by_cases hlt : k < n
    · have hlk : k < l.length := by rw [unhide HN]; exact hlt
      obtain ⟨b, off, ha, hblt, hc⟩ := (unhide HR).at (by rw [unhide HCL, unhide HN]; omega)
      subst ha
      obtain ⟨t, et⟩ : ∃ t, t = l[k] := ⟨_, rfl⟩
      have x0' := hc k _ (cS_at l k hlk)
      rw [← et] at x0'
      have HX0 := hide x0'
      have hx : wr.cell? ⟨b, off + k, none⟩ = some (.string t) := ((unhide B1).cell (p := ⟨b, off + k, none⟩) hblt).trans x0'
      have hb := in_bounds ((rok_iff l).1 (unhide hrok) k hlk)
      rw [← et] at hb
      have HTB := hide hb
      obtain ⟨X, hX⟩ : ∃ X : ByteArray, (⟨(frmB t.data.toList).toArray⟩ : ByteArray) = X := ⟨_, rfl⟩
      have HFL := hide hX
      obtain ⟨FN, hFN⟩ : ∃ FN, (frmB t.data.toList).length = FN := ⟨_, rfl⟩
      have HFN := hide hFN
      obtain ⟨dn, hdn⟩ : ∃ dn, dd ++ X = dn := ⟨_, rfl⟩
      have HDE : Hid (dn = wrD d (l.take (k + 1))) := by
        show _ = _
        rw [← hdn, unhide HDD, ← hX]
        unfold wrD
        rw [wrL_snoc l k hlk, ← et, ← List.append_assoc, str_app]
      obtain ⟨DN, hDN⟩ : ∃ DN, dn.size = DN := ⟨_, rfl⟩
      have HDS := hide hDN
      have ldn : (dn.size : Int) = (DN : Int) := by rw [hDN]
      have HDT : Hid (DN ≤ D + (wrL l).length) := by
        show _ ≤ _
        rw [← hDN, unhide HDE]
        have e1 : (wrD d (l.take (k + 1))).size = d.size + (wrL (l.take (k + 1))).length := by
          show (d.data.toList ++ wrL (l.take (k + 1))).toArray.size = _
          simp only [List.size_toArray, List.length_append]; rw [sizeT]
        have e2 : (wrL (l.take (k + 1))).length ≤ (wrL l).length := by
          have := List.take_append_drop (k + 1) l
          have h2 : wrL l = wrL (l.take (k + 1)) ++ wrL (l.drop (k + 1)) := by unfold wrL; rw [← List.flatMap_append, this]
          rw [h2, List.length_append]; omega
        rw [e1, unhide HD]; omega
      have i1 : (k : Int) < (n : Int) := by omega
      have i0 : (0 : Int) ≤ (k : Int) := by omega
      have hXs : X.size = 7 + t.size := by rw [← hX]; show (frmB t.data.toList).toArray.size = _; rw [List.size_toArray, frmB_len, sizeT]
      have hcat : ¬ 9223372036854775807 < dd.size + X.size := by rw [unhide HDZ, hXs]; omega
      clear hc et x0' hb hX hFN hDN HDD HDZ hXs
      go_wp2_with fail
      refine wp_region_held_drew (S := fun w' => w'.cell? ⟨b, off + k, none⟩ = some (.string t)) (by kernel_rfl) hx (fun hHeld => ?_)
      refine wpAnyH_take (i := 0) (oi := { dst := some 13, op := .fieldAddr 27 (.tmp 2) 0, type := 0, pos := "l07_store.go:102", after := #[], guard := none }) (v := ?_) rfl (by kernel_rfl) (by kernel_rfl) (by kernel_rfl) (fun _ _ _ h => h) (Or.inl ⟨by rfl, ?_⟩) (by assumption) ?_
      rotate_left 1
      · (intro w' hSw; (try dsimp only at hSw); go_simp; try with_reducible rfl)
      try simp only [Act.put, List.setIfInBounds_toArray, List.set_cons_zero, List.set_cons_succ]
      refine wpAnyH_take (i := 2) (oi := { dst := some 15, op := .move (.tmp 1), type := 24, pos := "l07_store.go:102", after := #[], guard := none }) (v := ?_) rfl (by kernel_rfl) (by kernel_rfl) (by kernel_rfl) (fun _ _ _ h => h) (Or.inl ⟨by rfl, ?_⟩) (by assumption) ?_
      rotate_left 1
      · (intro w' hSw; (try dsimp only at hSw); go_simp; try with_reducible rfl)
      try simp only [Act.put, List.setIfInBounds_toArray, List.set_cons_zero, List.set_cons_succ]
      refine wpAnyH_take (i := 3) (oi := { dst := some 16, op := .move (.tmp 6), type := 3, pos := "l07_store.go:102", after := #[], guard := none }) (v := ?_) rfl (by kernel_rfl) (by kernel_rfl) (by kernel_rfl) (fun _ _ _ h => h) (Or.inl ⟨by rfl, ?_⟩) (by assumption) ?_
      rotate_left 1
      · (intro w' hSw; (try dsimp only at hSw); go_simp; try with_reducible rfl)
      try simp only [Act.put, List.setIfInBounds_toArray, List.set_cons_zero, List.set_cons_succ]
      refine wpAnyH_take (i := 4) (oi := { dst := some 17, op := .indexAddr 24 (.tmp 15) (.tmp 16), type := 0, pos := "l07_store.go:102", after := #[{ on := 2, ground := .data }, { on := 3, ground := .data }], guard := none }) (v := ?_) rfl (by kernel_rfl) (by kernel_rfl) (by kernel_rfl) (fun _ _ _ h => h) (Or.inl ⟨by rfl, ?_⟩) (by assumption) ?_
      rotate_left 1
      · (intro w' hSw; (try dsimp only at hSw); go_simp; try with_reducible rfl)
      try simp only [Act.put, List.setIfInBounds_toArray, List.set_cons_zero, List.set_cons_succ]
      refine wpAnyH_take (i := 5) (oi := { dst := some 18, op := .load 9 (.tmp 17), type := 9, pos := "l07_store.go:102", after := #[{ on := 4, ground := .data }], guard := none }) (v := ?_) rfl (by kernel_rfl) (by kernel_rfl) (by kernel_rfl) (fun _ _ _ h => h) (Or.inl ⟨by rfl, ?_⟩) (by assumption) ?_
      rotate_left 1
      · (intro w' hSw; (try dsimp only at hSw); go_simp; try with_reducible rfl)
      try simp only [Act.put, List.setIfInBounds_toArray, List.set_cons_zero, List.set_cons_succ]
      have A2 := hide (unhide A1).drew
      have Z2 := hide (unhide Z1).drew
      have B2 := hide (unhide B1).drew
      generalize wr.drew = q2 at A2 Z2 B2 hHeld ⊢
      refine wpAnyH_ready (rs := [1, 6]) (by kernel_rfl) (by simp) ?_
      refine AllReadyH.cons (o := { dst := some 14, op := .load 9 (.tmp 13), type := 9, pos := "l07_store.go:102", after := #[{ on := 0, ground := .data }], guard := none }) rfl (fun K hK => ?_) (AllReadyH.cons (o := { dst := some 19, op := .call { callee := .value (.func 19), args := #[.tmp 18], argTypes := #[9] }, type := 42, pos := "l07_store.go:102", after := #[{ on := 5, ground := .data }], guard := none }) rfl (fun K hK => ?_) AllReadyH.nil)
      · have kA := (unhide A2).S
        go_simp
        clear kA
        refine hK.out _ _ ?_ (fun hHeld1 => ?_)
        · exact ((unhide B2).cell (p := ⟨b, off + k, none⟩) hblt).trans (unhide HX0)
        clear hK K
        try simp only [Act.put, List.setIfInBounds_toArray, List.set_cons_zero, List.set_cons_succ]
        refine wpAnyH_ready (rs := [6]) (by kernel_rfl) (by simp) ?_
        refine AllReadyH.cons (o := { dst := some 19, op := .call { callee := .value (.func 19), args := #[.tmp 18], argTypes := #[9] }, type := 42, pos := "l07_store.go:102", after := #[{ on := 5, ground := .data }], guard := none }) rfl (fun K hK => ?_) AllReadyH.nil
        go_simp
        refine (sframe1 t (unhide HTB).1 (Nat.le_trans (unhide HTB).2 (by decide)) _).mono ?_
        rintro e q3 ⟨vn, rfl, hon, hb⟩
        have hcv := conv_own (P := Tryd.prog) Tryd.underlying42 Tryd.underlying5 Tryd.underlying9 hon
        rw [unhide HFL] at hcv
        obtain ⟨an, cn, rfl, -⟩ := own_rowV hon
        rw [unhide HFN]
        rw [unhide HFN] at hcv
        have A3 := hide ((unhide A2).below hb)
        have Z3 := hide ((unhide Z2).below hb)
        have B3 := hide ((unhide B2).trans (hb.mono (unhide B2).size))
        clear hb hon A2 Z2 B2
        go_wp2_with fail
        refine hK.out _ _ ?_ (fun hHeld6 => ?_)
        · exact ((unhide B3).cell (p := ⟨b, off + k, none⟩) hblt).trans (unhide HX0)
        clear hK K
        try simp only [Act.put, List.setIfInBounds_toArray, List.set_cons_zero, List.set_cons_succ]
        refine wpAnyH_ready (rs := [7]) (by kernel_rfl) (by simp) ?_
        refine AllReadyH.cons (o := { dst := some 20, op := .convert 42 9 (.tmp 19), type := 9, pos := "l07_store.go:102", after := #[{ on := 6, ground := .data }], guard := none }) rfl (fun K hK => ?_) AllReadyH.nil
        go_simp
        clear hcv
        refine hK.out _ _ ?_ (fun hHeld7 => ?_)
        · exact ((unhide B3).cell (p := ⟨b, off + k, none⟩) hblt).trans (unhide HX0)
        clear hK K
        try simp only [Act.put, List.setIfInBounds_toArray, List.set_cons_zero, List.set_cons_succ]
        refine wpAnyH_take (i := 8) (oi := { dst := some 21, op := .binOp .add 9 (.tmp 14) (.tmp 20) 9, type := 9, pos := "l07_store.go:102", after := #[{ on := 1, ground := .data }, { on := 7, ground := .data }], guard := none }) (v := ?_) rfl (by kernel_rfl) (by kernel_rfl) (by kernel_rfl) (fun _ _ _ h => h) (Or.inl ⟨by rfl, ?_⟩) (by assumption) ?_
        rotate_left 1
        · (intro w' hSw; (try dsimp only at hSw); go_simp; try with_reducible rfl)
        try simp only [Act.put, List.setIfInBounds_toArray, List.set_cons_zero, List.set_cons_succ]
        refine wpAnyH_take (i := 9) (oi := { dst := some 22, op := .fieldAddr 27 (.tmp 2) 0, type := 0, pos := "l07_store.go:102", after := #[{ on := 0, ground := .phase }, { on := 1, ground := .phase }, { on := 2, ground := .phase }, { on := 3, ground := .phase }, { on := 4, ground := .phase }, { on := 5, ground := .phase }, { on := 6, ground := .phase }, { on := 7, ground := .phase }, { on := 8, ground := .phase }], guard := none }) (v := ?_) rfl (by kernel_rfl) (by kernel_rfl) (by kernel_rfl) (fun _ _ _ h => h) (Or.inl ⟨by rfl, ?_⟩) (by assumption) ?_
        rotate_left 1
        · (intro w' hSw; (try dsimp only at hSw); go_simp; try with_reducible rfl)
        try simp only [Act.put, List.setIfInBounds_toArray, List.set_cons_zero, List.set_cons_succ]
        refine wpAnyH_ready (rs := [10]) (by kernel_rfl) (by simp) ?_
        refine AllReadyH.cons (o := { dst := none, op := .store 9 (.tmp 22) (.tmp 21), type := 0, pos := "l07_store.go:102", after := #[{ on := 9, ground := .data }, { on := 8, ground := .data }, { on := 6, ground := .chain }, { on := 0, ground := .phase }, { on := 1, ground := .phase }, { on := 2, ground := .phase }, { on := 3, ground := .phase }, { on := 4, ground := .phase }, { on := 5, ground := .phase }, { on := 6, ground := .phase }, { on := 7, ground := .phase }, { on := 8, ground := .phase }], guard := none }) rfl (fun K hK => ?_) AllReadyH.nil
        have kA := (unhide A3).S
        have kF := (unhide A3).F
        have A4 := hide ((unhide A3).set 0 (by simp) (.string dn))
        have Z4 := hide ((unhide Z3).far ⟨w.heap.size, 0, none⟩ (.string dn) (by show w.heap.size ≠ w.heap.size + 1; omega))
        have B4 := hide ((unhide B3).setCell (p := ⟨w.heap.size, 0, none⟩) (Nat.le_refl _) (.string dn))
        go_simp
        clear kA kF
        refine hK.out _ _ ?_ (fun hHeld10 => ?_)
        · exact ((unhide B4).cell (p := ⟨b, off + k, none⟩) hblt).trans (unhide HX0)
        clear hK K
        try simp only [Act.put, List.setIfInBounds_toArray, List.set_cons_zero, List.set_cons_succ]
        refine wpAnyH_done (by kernel_rfl) ?_ _
        generalize q3.setCell ⟨w.heap.size, 0, none⟩ (.string dn) = q4 at A4 Z4 B4 ⊢
        clear hdn
        have kA := (unhide A4).S
        have kZ := (unhide Z4).S
        have kZF := (unhide Z4).F
        by_cases hbig : 60000 < DN
        · have hbig' : (60000 : Int) < (DN : Int) := by omega
          go_wp2_with fail
          refine bodyPost_ret (v := .tuple #[.agg #[.string dn, .int .i64 s], .int .i64 7]) (by simp [results, Tryd.results14, go_sem, kZ]) rfl (.inr ⟨dn, rfl, ?_, ?_⟩)
          · have := unhide HDT; omega
          · repeat refine Below.setCell ?_ (by first | exact Nat.le_succ _ | exact Nat.le_refl _) _
            exact unhide B4
        · have hbig' : ¬ (60000 : Int) < (DN : Int) := by omega
          go_wp2_with fail
          go_roundw
          case rel => exact ⟨k + 1, dn, DN, by omega, by go_num, HDE, HDS, by omega, A4, Z4, B4⟩
          case measure => simp [intOf]; omega
      · go_simp
        refine (sframe1 t (unhide HTB).1 (Nat.le_trans (unhide HTB).2 (by decide)) _).mono ?_
        rintro e q3 ⟨vn, rfl, hon, hb⟩
        have hcv := conv_own (P := Tryd.prog) Tryd.underlying42 Tryd.underlying5 Tryd.underlying9 hon
        rw [unhide HFL] at hcv
        obtain ⟨an, cn, rfl, -⟩ := own_rowV hon
        rw [unhide HFN]
        rw [unhide HFN] at hcv
        have A3 := hide ((unhide A2).below hb)
        have Z3 := hide ((unhide Z2).below hb)
        have B3 := hide ((unhide B2).trans (hb.mono (unhide B2).size))
        clear hb hon A2 Z2 B2
        go_wp2_with fail
        refine hK.out _ _ ?_ (fun hHeld6 => ?_)
        · exact ((unhide B3).cell (p := ⟨b, off + k, none⟩) hblt).trans (unhide HX0)
        clear hK K
        try simp only [Act.put, List.setIfInBounds_toArray, List.set_cons_zero, List.set_cons_succ]
        refine wpAnyH_ready (rs := [1, 7]) (by kernel_rfl) (by simp) ?_
        refine AllReadyH.cons (o := { dst := some 14, op := .load 9 (.tmp 13), type := 9, pos := "l07_store.go:102", after := #[{ on := 0, ground := .data }], guard := none }) rfl (fun K hK => ?_) (AllReadyH.cons (o := { dst := some 20, op := .convert 42 9 (.tmp 19), type := 9, pos := "l07_store.go:102", after := #[{ on := 6, ground := .data }], guard := none }) rfl (fun K hK => ?_) AllReadyH.nil)
        · have kA := (unhide A3).S
          go_simp
          clear kA
          refine hK.out _ _ ?_ (fun hHeld1 => ?_)
          · exact ((unhide B3).cell (p := ⟨b, off + k, none⟩) hblt).trans (unhide HX0)
          clear hK K
          try simp only [Act.put, List.setIfInBounds_toArray, List.set_cons_zero, List.set_cons_succ]
          refine wpAnyH_ready (rs := [7]) (by kernel_rfl) (by simp) ?_
          refine AllReadyH.cons (o := { dst := some 20, op := .convert 42 9 (.tmp 19), type := 9, pos := "l07_store.go:102", after := #[{ on := 6, ground := .data }], guard := none }) rfl (fun K hK => ?_) AllReadyH.nil
          go_simp
          clear hcv
          refine hK.out _ _ ?_ (fun hHeld7 => ?_)
          · exact ((unhide B3).cell (p := ⟨b, off + k, none⟩) hblt).trans (unhide HX0)
          clear hK K
          try simp only [Act.put, List.setIfInBounds_toArray, List.set_cons_zero, List.set_cons_succ]
          refine wpAnyH_take (i := 8) (oi := { dst := some 21, op := .binOp .add 9 (.tmp 14) (.tmp 20) 9, type := 9, pos := "l07_store.go:102", after := #[{ on := 1, ground := .data }, { on := 7, ground := .data }], guard := none }) (v := ?_) rfl (by kernel_rfl) (by kernel_rfl) (by kernel_rfl) (fun _ _ _ h => h) (Or.inl ⟨by rfl, ?_⟩) (by assumption) ?_
          rotate_left 1
          · (intro w' hSw; (try dsimp only at hSw); go_simp; try with_reducible rfl)
          try simp only [Act.put, List.setIfInBounds_toArray, List.set_cons_zero, List.set_cons_succ]
          refine wpAnyH_take (i := 9) (oi := { dst := some 22, op := .fieldAddr 27 (.tmp 2) 0, type := 0, pos := "l07_store.go:102", after := #[{ on := 0, ground := .phase }, { on := 1, ground := .phase }, { on := 2, ground := .phase }, { on := 3, ground := .phase }, { on := 4, ground := .phase }, { on := 5, ground := .phase }, { on := 6, ground := .phase }, { on := 7, ground := .phase }, { on := 8, ground := .phase }], guard := none }) (v := ?_) rfl (by kernel_rfl) (by kernel_rfl) (by kernel_rfl) (fun _ _ _ h => h) (Or.inl ⟨by rfl, ?_⟩) (by assumption) ?_
          rotate_left 1
          · (intro w' hSw; (try dsimp only at hSw); go_simp; try with_reducible rfl)
          try simp only [Act.put, List.setIfInBounds_toArray, List.set_cons_zero, List.set_cons_succ]
          refine wpAnyH_ready (rs := [10]) (by kernel_rfl) (by simp) ?_
          refine AllReadyH.cons (o := { dst := none, op := .store 9 (.tmp 22) (.tmp 21), type := 0, pos := "l07_store.go:102", after := #[{ on := 9, ground := .data }, { on := 8, ground := .data }, { on := 6, ground := .chain }, { on := 0, ground := .phase }, { on := 1, ground := .phase }, { on := 2, ground := .phase }, { on := 3, ground := .phase }, { on := 4, ground := .phase }, { on := 5, ground := .phase }, { on := 6, ground := .phase }, { on := 7, ground := .phase }, { on := 8, ground := .phase }], guard := none }) rfl (fun K hK => ?_) AllReadyH.nil
          have kA := (unhide A3).S
          have kF := (unhide A3).F
          have A4 := hide ((unhide A3).set 0 (by simp) (.string dn))
          have Z4 := hide ((unhide Z3).far ⟨w.heap.size, 0, none⟩ (.string dn) (by show w.heap.size ≠ w.heap.size + 1; omega))
          have B4 := hide ((unhide B3).setCell (p := ⟨w.heap.size, 0, none⟩) (Nat.le_refl _) (.string dn))
          go_simp
          clear kA kF
          refine hK.out _ _ ?_ (fun hHeld10 => ?_)
          · exact ((unhide B4).cell (p := ⟨b, off + k, none⟩) hblt).trans (unhide HX0)
          clear hK K
          try simp only [Act.put, List.setIfInBounds_toArray, List.set_cons_zero, List.set_cons_succ]
          refine wpAnyH_done (by kernel_rfl) ?_ _
          generalize q3.setCell ⟨w.heap.size, 0, none⟩ (.string dn) = q4 at A4 Z4 B4 ⊢
          clear hdn
          have kA := (unhide A4).S
          have kZ := (unhide Z4).S
          have kZF := (unhide Z4).F
          by_cases hbig : 60000 < DN
          · have hbig' : (60000 : Int) < (DN : Int) := by omega
            go_wp2_with fail
            refine bodyPost_ret (v := .tuple #[.agg #[.string dn, .int .i64 s], .int .i64 7]) (by simp [results, Tryd.results14, go_sem, kZ]) rfl (.inr ⟨dn, rfl, ?_, ?_⟩)
            · have := unhide HDT; omega
            · repeat refine Below.setCell ?_ (by first | exact Nat.le_succ _ | exact Nat.le_refl _) _
              exact unhide B4
          · have hbig' : ¬ (60000 : Int) < (DN : Int) := by omega
            go_wp2_with fail
            go_roundw
            case rel => exact ⟨k + 1, dn, DN, by omega, by go_num, HDE, HDS, by omega, A4, Z4, B4⟩
            case measure => simp [intOf]; omega
        · go_simp
          clear hcv
          refine hK.out _ _ ?_ (fun hHeld7 => ?_)
          · exact ((unhide B3).cell (p := ⟨b, off + k, none⟩) hblt).trans (unhide HX0)
          clear hK K
          try simp only [Act.put, List.setIfInBounds_toArray, List.set_cons_zero, List.set_cons_succ]
          refine wpAnyH_ready (rs := [1]) (by kernel_rfl) (by simp) ?_
          refine AllReadyH.cons (o := { dst := some 14, op := .load 9 (.tmp 13), type := 9, pos := "l07_store.go:102", after := #[{ on := 0, ground := .data }], guard := none }) rfl (fun K hK => ?_) AllReadyH.nil
          have kA := (unhide A3).S
          go_simp
          clear kA
          refine hK.out _ _ ?_ (fun hHeld1 => ?_)
          · exact ((unhide B3).cell (p := ⟨b, off + k, none⟩) hblt).trans (unhide HX0)
          clear hK K
          try simp only [Act.put, List.setIfInBounds_toArray, List.set_cons_zero, List.set_cons_succ]
          refine wpAnyH_take (i := 8) (oi := { dst := some 21, op := .binOp .add 9 (.tmp 14) (.tmp 20) 9, type := 9, pos := "l07_store.go:102", after := #[{ on := 1, ground := .data }, { on := 7, ground := .data }], guard := none }) (v := ?_) rfl (by kernel_rfl) (by kernel_rfl) (by kernel_rfl) (fun _ _ _ h => h) (Or.inl ⟨by rfl, ?_⟩) (by assumption) ?_
          rotate_left 1
          · (intro w' hSw; (try dsimp only at hSw); go_simp; try with_reducible rfl)
          try simp only [Act.put, List.setIfInBounds_toArray, List.set_cons_zero, List.set_cons_succ]
          refine wpAnyH_take (i := 9) (oi := { dst := some 22, op := .fieldAddr 27 (.tmp 2) 0, type := 0, pos := "l07_store.go:102", after := #[{ on := 0, ground := .phase }, { on := 1, ground := .phase }, { on := 2, ground := .phase }, { on := 3, ground := .phase }, { on := 4, ground := .phase }, { on := 5, ground := .phase }, { on := 6, ground := .phase }, { on := 7, ground := .phase }, { on := 8, ground := .phase }], guard := none }) (v := ?_) rfl (by kernel_rfl) (by kernel_rfl) (by kernel_rfl) (fun _ _ _ h => h) (Or.inl ⟨by rfl, ?_⟩) (by assumption) ?_
          rotate_left 1
          · (intro w' hSw; (try dsimp only at hSw); go_simp; try with_reducible rfl)
          try simp only [Act.put, List.setIfInBounds_toArray, List.set_cons_zero, List.set_cons_succ]
          refine wpAnyH_ready (rs := [10]) (by kernel_rfl) (by simp) ?_
          refine AllReadyH.cons (o := { dst := none, op := .store 9 (.tmp 22) (.tmp 21), type := 0, pos := "l07_store.go:102", after := #[{ on := 9, ground := .data }, { on := 8, ground := .data }, { on := 6, ground := .chain }, { on := 0, ground := .phase }, { on := 1, ground := .phase }, { on := 2, ground := .phase }, { on := 3, ground := .phase }, { on := 4, ground := .phase }, { on := 5, ground := .phase }, { on := 6, ground := .phase }, { on := 7, ground := .phase }, { on := 8, ground := .phase }], guard := none }) rfl (fun K hK => ?_) AllReadyH.nil
          have kA := (unhide A3).S
          have kF := (unhide A3).F
          have A4 := hide ((unhide A3).set 0 (by simp) (.string dn))
          have Z4 := hide ((unhide Z3).far ⟨w.heap.size, 0, none⟩ (.string dn) (by show w.heap.size ≠ w.heap.size + 1; omega))
          have B4 := hide ((unhide B3).setCell (p := ⟨w.heap.size, 0, none⟩) (Nat.le_refl _) (.string dn))
          go_simp
          clear kA kF
          refine hK.out _ _ ?_ (fun hHeld10 => ?_)
          · exact ((unhide B4).cell (p := ⟨b, off + k, none⟩) hblt).trans (unhide HX0)
          clear hK K
          try simp only [Act.put, List.setIfInBounds_toArray, List.set_cons_zero, List.set_cons_succ]
          refine wpAnyH_done (by kernel_rfl) ?_ _
          generalize q3.setCell ⟨w.heap.size, 0, none⟩ (.string dn) = q4 at A4 Z4 B4 ⊢
          clear hdn
          have kA := (unhide A4).S
          have kZ := (unhide Z4).S
          have kZF := (unhide Z4).F
          by_cases hbig : 60000 < DN
          · have hbig' : (60000 : Int) < (DN : Int) := by omega
            go_wp2_with fail
            refine bodyPost_ret (v := .tuple #[.agg #[.string dn, .int .i64 s], .int .i64 7]) (by simp [results, Tryd.results14, go_sem, kZ]) rfl (.inr ⟨dn, rfl, ?_, ?_⟩)
            · have := unhide HDT; omega
            · repeat refine Below.setCell ?_ (by first | exact Nat.le_succ _ | exact Nat.le_refl _) _
              exact unhide B4
          · have hbig' : ¬ (60000 : Int) < (DN : Int) := by omega
            go_wp2_with fail
            go_roundw
            case rel => exact ⟨k + 1, dn, DN, by omega, by go_num, HDE, HDS, by omega, A4, Z4, B4⟩
            case measure => simp [intOf]; omega
    · have i1 : ¬ (k : Int) < (n : Int) := by omega
      have hdd : dd = wrD d l := by rw [unhide HDD, List.take_of_length_le (by rw [unhide HN]; omega)]
      have hfit : D + (wrL l).length ≤ 60000 := by
        have e1 : dd.size = d.size + (wrL l).length := by
          rw [hdd]
          show (d.data.toList ++ wrL l).toArray.size = _
          simp only [List.size_toArray, List.length_append]; rw [sizeT]
        rw [unhide HDZ, unhide HD] at e1; omega
      have HDW := hide hdd
      have HFT := hide hfit
      have kA := (unhide A1).S
      have kZ := (unhide Z1).S
      have kZF := (unhide Z1).F
      clear hdd hfit
      go_wp2_with fail
      refine bodyPost_ret (v := .tuple #[.agg #[.string dd, .int .i64 s], .int .i64 0]) (by simp [results, Tryd.results14, go_sem, kZ]) rfl (.inl ⟨by rw [unhide HDW], unhide HFT, ?_⟩)
      repeat refine Below.setCell ?_ (by first | exact Nat.le_succ _ | exact Nat.le_refl _) _
      exact unhide B1
end Go.Proofs.YtgbbmonkhakjnaaDoor
