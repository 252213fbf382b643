/- FullView: what the specification answers. -/
import Derived.Test.YtiacdkkcjdbjfaaDoorFvM
import Derived.Test.YtiacdkkcjdbjfaaDoorMrS
import Derived.Test.YtiacdkkcjdbjfaaDoorRwL
namespace Go.Proofs.YtiacdkkcjdbjfaaDoor
open Go.ChangeShapes Go.WideShapes Go.ChangeAt Go.RowKit
set_option linter.unusedVariables false
set_option maxHeartbeats 4000000 in
set_option maxRecDepth 100000 in
theorem sl11full (nb vw : Int) (H : Nat) (hH : H ≤ 10) (a : Option Addr) (cap n : Nat) (R : List ByteArray) (HN : Hid (R.length = n)) (HNH : Hid (n = H)) (w : World) (hr : RowV w a (cS R)) :
    Calls Tryd.prog 16 #[.int .i64 nb, .int .i64 vw, .int .i64 (H : Int), .slice a n cap] w fun e w' => ∃ v, e = .returned (.agg #[.int .i64 nb, .int .i64 0, .bool true, .int .i64 vw, .int .i64 (H : Int), v]) ∧ w'.ownsRow w.heap.size 49 2 v H (cE (pkL R (List.range H))) ∧ Below w.heap.size w w' := by
  have HR := hide hr
  have HCL := hide (cS_len R)
  have B0 := hide (Go.Joins.below_alloc3 w (.cells #[.int .i64 0, .int .i64 0, .bool false, .int .i64 0, .int .i64 0, .slice none 0 0] 26) (.cells #[] 49) (.cells #[.int .i64 nb, .int .i64 0, .bool true, .int .i64 vw, .int .i64 (H : Int), .slice (some ⟨w.heap.size + 1, 0, none⟩) 0 0] 26))
  have P0 := hide (BF.new ((w.alloc (.cells #[.int .i64 0, .int .i64 0, .bool false, .int .i64 0, .int .i64 0, .slice none 0 0] 26)).alloc (.cells #[] 49)) #[.int .i64 nb, .int .i64 0, .bool true, .int .i64 vw, .int .i64 (H : Int), .slice (some ⟨w.heap.size + 1, 0, none⟩) 0 0] 26)
  rw [show ((w.alloc (.cells #[.int .i64 0, .int .i64 0, .bool false, .int .i64 0, .int .i64 0, .slice none 0 0] 26)).alloc (.cells #[] 49)).heap.size = w.heap.size + 2 from by simp] at P0
  have Z0 := hide (((BF.new w #[.int .i64 0, .int .i64 0, .bool false, .int .i64 0, .int .i64 0, .slice none 0 0] 26).alloc (.cells #[] 49)).alloc (.cells #[.int .i64 nb, .int .i64 0, .bool true, .int .i64 vw, .int .i64 (H : Int), .slice (some ⟨w.heap.size + 1, 0, none⟩) 0 0] 26))
  have E0 : Hid ((((w.alloc (.cells #[.int .i64 0, .int .i64 0, .bool false, .int .i64 0, .int .i64 0, .slice none 0 0] 26)).alloc (.cells #[] 49)).alloc (.cells #[.int .i64 nb, .int .i64 0, .bool true, .int .i64 vw, .int .i64 (H : Int), .slice (some ⟨w.heap.size + 1, 0, none⟩) 0 0] 26)).ownsRow (w.heap.size + 1) 49 2 (.slice (some ⟨w.heap.size + 1, 0, none⟩) 0 0) 0 (cE (pkL R (List.range 0)))) := (lit_atE _ (w.heap.size + 1) (w.heap.size + 1) 49 (by simp) (Nat.le_refl _)).alloc _
  have LP : Hid (w.heap.size + 2 ≤ (w.heap.size + 2)) := Nat.le_refl _
  obtain ⟨i0, hi, hz0, hz1, hz2⟩ := info_parts Tryd.infL49
  clear hr
  go_enter Tryd.func16, Tryd.ntmps16
  go_wp2_with fail
  go_loopw [10] (fun i wr => ∃ (k : Nat) (aV : Option Addr) (cV : Nat), k ≤ H ∧ i = .int .i64 (k : Int) ∧ Hid (Below w.heap.size w wr) ∧ Hid (BF (w.heap.size + 2) #[.int .i64 nb, .int .i64 0, .bool true, .int .i64 vw, .int .i64 (H : Int), .slice aV k cV] wr) ∧ Hid (wr.ownsRow (w.heap.size + 1) 49 2 (.slice aV k cV) k (cE (pkL R (List.range k)))) ∧ Hid (∀ j, (Value.slice aV k cV).ownBlock = some j → w.heap.size + 1 ≤ j ∧ j ≠ (w.heap.size + 2)) ∧ Hid (BF w.heap.size #[.int .i64 0, .int .i64 0, .bool false, .int .i64 0, .int .i64 0, .slice none 0 0] wr)) (fun i _ => H - (intOf i).toNat)
  case atStart => exact ⟨0, _, _, by omega, rfl, B0, P0, E0, fun j hj => by have e : w.heap.size + 1 = j := Option.some.inj hj; omega, Z0⟩
  case round =>
    clear B0 P0 E0 Z0
    obtain ⟨k, aV, cV, hk, rfl, HB, HP, HE, HF, HZ⟩ := hrel
    by_cases hlt : k < H
    · have hlt' : (k : Int) < (H : Int) := by omega
      have hkn : (k : Int) < (n : Int) := by rw [unhide HNH]; exact hlt'
      have hkR : k < R.length := by rw [unhide HN, unhide HNH]; exact hlt
      obtain ⟨b1, off, ha, hblt, hc⟩ := (unhide HR).at (by rw [unhide HCL]; omega)
      subst ha
      obtain ⟨d, hd⟩ : ∃ d, d = R[k] := ⟨_, rfl⟩
      have HCS : Hid (w.cell? ⟨b1, off + k, none⟩ = some (.string d)) := by show _ = _; rw [hd]; exact hc k _ (cS_at R k hkR)
      have HSN : Hid (cE (pkL R (List.range (k + 1))) = cE (pkL R (List.range k)) ++ [.int .i64 (k : Int), .string d]) := by
        show _ = _
        rw [List.range_succ, pkL_snoc, cE_app, show R.getD k ⟨#[]⟩ = d from by rw [hd]; simp [hkR]]; rfl
      clear hc hd hkR
      go_wp2_with fail
      refine wp_region_held_drew (S := (fun w' => w'.cell? ⟨b1, off + k, none⟩ = some (.string d))) (by kernel_rfl) (((unhide HB).cell (p := ⟨b1, off + k, none⟩) hblt).trans (unhide HCS)) (fun hHeld => ?_)
      have B5 := hide ((unhide HB).drew)
      have P5 := hide ((unhide HP).drew)
      have E5 : Hid (wr.drew.ownsRow (w.heap.size + 1) 49 2 (.slice aV k cV) k (cE (pkL R (List.range k)))) := unhide HE
      have Z5 := hide ((unhide HZ).drew)
      clear HB HP HE HZ
      generalize wr.drew = w5 at B5 P5 E5 Z5 hHeld ⊢
      refine wpAnyH_take (i := 0) (oi := { dst := some 21, op := .fieldAddr 26 (.tmp 9) 5, type := 0, pos := "l11_view.go:33", after := #[], guard := none }) (v := ?_) rfl (by kernel_rfl) (by kernel_rfl) (by kernel_rfl) (fun _ _ _ h => h) (Or.inl ⟨by rfl, ?_⟩) (by assumption) ?_
      rotate_left 1
      · (intro w' hSw; (try dsimp only at hSw); go_simp; try with_reducible rfl)
      try simp only [Act.put, List.setIfInBounds_toArray, List.set_cons_zero, List.set_cons_succ]
      refine wpAnyH_take (i := 2) (oi := { dst := some 23, op := .move (.tmp 10), type := 3, pos := "l11_view.go:33", after := #[], guard := none }) (v := ?_) rfl (by kernel_rfl) (by kernel_rfl) (by kernel_rfl) (fun _ _ _ h => h) (Or.inl ⟨by rfl, ?_⟩) (by assumption) ?_
      rotate_left 1
      · (intro w' hSw; (try dsimp only at hSw); go_simp; try with_reducible rfl)
      try simp only [Act.put, List.setIfInBounds_toArray, List.set_cons_zero, List.set_cons_succ]
      refine wpAnyH_take (i := 3) (oi := { dst := some 24, op := .move (.tmp 3), type := 22, pos := "l11_view.go:33", after := #[], guard := none }) (v := ?_) rfl (by kernel_rfl) (by kernel_rfl) (by kernel_rfl) (fun _ _ _ h => h) (Or.inl ⟨by rfl, ?_⟩) (by assumption) ?_
      rotate_left 1
      · (intro w' hSw; (try dsimp only at hSw); go_simp; try with_reducible rfl)
      try simp only [Act.put, List.setIfInBounds_toArray, List.set_cons_zero, List.set_cons_succ]
      refine wpAnyH_take (i := 4) (oi := { dst := some 25, op := .move (.tmp 10), type := 3, pos := "l11_view.go:33", after := #[], guard := none }) (v := ?_) rfl (by kernel_rfl) (by kernel_rfl) (by kernel_rfl) (fun _ _ _ h => h) (Or.inl ⟨by rfl, ?_⟩) (by assumption) ?_
      rotate_left 1
      · (intro w' hSw; (try dsimp only at hSw); go_simp; try with_reducible rfl)
      try simp only [Act.put, List.setIfInBounds_toArray, List.set_cons_zero, List.set_cons_succ]
      refine wpAnyH_take (i := 5) (oi := { dst := some 26, op := .indexAddr 22 (.tmp 24) (.tmp 25), type := 0, pos := "l11_view.go:33", after := #[{ on := 3, ground := .data }, { on := 4, ground := .data }], guard := none }) (v := ?_) rfl (by kernel_rfl) (by kernel_rfl) (by kernel_rfl) (fun _ _ _ h => h) (Or.inl ⟨by rfl, ?_⟩) (by assumption) ?_
      rotate_left 1
      · (intro w' hSw; (try dsimp only at hSw); go_simp; try with_reducible rfl)
      try simp only [Act.put, List.setIfInBounds_toArray, List.set_cons_zero, List.set_cons_succ]
      refine wpAnyH_take (i := 6) (oi := { dst := some 27, op := .load 9 (.tmp 26), type := 9, pos := "l11_view.go:33", after := #[{ on := 5, ground := .data }], guard := none }) (v := ?_) rfl (by kernel_rfl) (by kernel_rfl) (by kernel_rfl) (fun _ _ _ h => h) (Or.inl ⟨by rfl, ?_⟩) (by assumption) ?_
      rotate_left 1
      · (intro w' hSw; (try dsimp only at hSw); go_simp; try with_reducible rfl)
      try simp only [Act.put, List.setIfInBounds_toArray, List.set_cons_zero, List.set_cons_succ]
      refine wpAnyH_take (i := 7) (oi := { dst := some 28, op := .build 49 #[(0, .tmp 23), (1, .tmp 27)], type := 49, pos := "l11_view.go:33", after := #[{ on := 2, ground := .data }, { on := 6, ground := .data }], guard := none }) (v := ?_) rfl (by kernel_rfl) (by kernel_rfl) (by kernel_rfl) (fun _ _ _ h => h) (Or.inl ⟨by rfl, ?_⟩) (by assumption) ?_
      rotate_left 1
      · (intro w' hSw; (try dsimp only at hSw); go_simp; try with_reducible rfl)
      try simp only [Act.put, List.setIfInBounds_toArray, List.set_cons_zero, List.set_cons_succ]
      refine wpAnyH_ready (rs := [1, 8]) (by kernel_rfl) (by simp) ?_
      refine AllReadyH.cons (o := { dst := some 22, op := .load 24 (.tmp 21), type := 24, pos := "l11_view.go:33", after := #[{ on := 0, ground := .data }], guard := none }) rfl (fun K hK => ?_) (AllReadyH.cons (o := { dst := some 29, op := .buildSlice 24 1 #[(0, .tmp 28)], type := 24, pos := "l11_view.go:33", after := #[{ on := 7, ground := .data }], guard := none }) rfl (fun K hK => ?_) AllReadyH.nil)
      · skip
        have kp := (unhide P5).S
        go_simp
        refine hK.out _ _ ?_ (fun hHeldL => ?_)
        · exact ((unhide B5).cell (p := ⟨b1, off + k, none⟩) hblt).trans (unhide HCS)
        clear hK K kp
        try simp only [Act.put, List.setIfInBounds_toArray, List.set_cons_zero, List.set_cons_succ]
        refine wpAnyH_ready (rs := [8]) (by kernel_rfl) (by simp) ?_
        refine AllReadyH.cons (o := { dst := some 29, op := .buildSlice 24 1 #[(0, .tmp 28)], type := 24, pos := "l11_view.go:33", after := #[{ on := 7, ground := .data }], guard := none }) rfl (fun K hK => ?_) AllReadyH.nil
        obtain ⟨G, hG⟩ : ∃ G, G = w5.heap.size := ⟨_, rfl⟩
        have hb6 : Below w5.heap.size w5 (w5.alloc (.cells #[.int .i64 (k : Int), .string d] 49)) := Go.Joins.below_alloc1 w5 (.cells #[.int .i64 (k : Int), .string d] 49)
        have R6 := hide (BF.new w5 #[.int .i64 (k : Int), .string d] 49)
        have P6 := hide ((unhide P5).below hb6)
        have B6 := hide ((unhide B5).trans (hb6.mono (unhide B5).size))
        have E6 := hide (((heldZ_of (unhide E5)).below hb6 (Nat.le_refl _)).own)
        have Z6 := hide ((unhide Z5).below hb6)
        have z6 : Hid ((w.heap.size + 2) < (w5.alloc (.cells #[.int .i64 (k : Int), .string d] 49)).heap.size) := (unhide P6).lt
        rw [← hG] at R6
        go_simp
        refine hK.out _ _ ?_ (fun hHeldB => ?_)
        · exact ((unhide B6).cell (p := ⟨b1, off + k, none⟩) hblt).trans (unhide HCS)
        clear hK K
        try simp only [Act.put, List.setIfInBounds_toArray, List.set_cons_zero, List.set_cons_succ]
        rw [← hG]
        clear hb6 hG
        generalize w5.alloc (.cells #[.int .i64 (k : Int), .string d] 49) = w6 at R6 P6 B6 E6 Z6 z6 hHeldB ⊢
        refine wpAnyH_ready (rs := [9]) (by kernel_rfl) (by simp) ?_
        refine AllReadyH.cons (o := { dst := some 30, op := .call { callee := .builtin Go.Builtin.append, args := #[.tmp 22, .tmp 29], argTypes := #[24, 24] }, type := 24, pos := "l11_view.go:33", after := #[{ on := 1, ground := .data }, { on := 8, ground := .data }], guard := none }) rfl (fun K hK => ?_) AllReadyH.nil
        refine step_append_lies w6 rfl (.tmp 22) (.tmp 29) 24 rfl (w.heap.size + 1) 49 i0 (.agg #[.int .i64 0, .string ⟨#[]⟩]) 2 24 Tryd.underlying24 hi hz0 hz1 hz2 rfl (by decide) (.slice aV k cV) k (cE (pkL R (List.range k))) rfl (unhide E6) ⟨G, 0, none⟩ 1 1 [.int .i64 (k : Int), .string d] rfl rfl (by intro j u hj; have e := (unhide R6).S j; rw [show (⟨G, 0, none⟩ : Addr).add j = ⟨G, j, none⟩ from (by unfold Addr.add; split <;> simp_all)]; rw [e]; simpa using hj) (by intro u hu; simp at hu; rcases hu with rfl | rfl <;> rfl) (by decide) (by unfold maxLen; omega) (by omega) (by have := unhide z6; have := unhide LP; omega) _ rfl ?_
        intro g7 c7 w7 ho7 hg7 hat7 hlt7
        have P7 := hide ((unhide P6).grown hg7 (fun h => (unhide HF _ h).2 rfl))
        have B7 := hide ((unhide B6).grown hg7 (unhide B6).size (fun j hj => by have := (unhide HF j hj).1; have := unhide LP; omega))
        have Z7 := hide ((unhide Z6).grown hg7 (fun h => by have := (unhide HF _ h).1; have := unhide LP; omega))
        have F7 : Hid ((w.heap.size + 1) ≤ g7 ∧ g7 ≠ (w.heap.size + 2)) := by
          show _ ∧ _
          rcases hat7 with h | h
          · exact unhide HF _ h
          · have := unhide z6; have := unhide LP; omega
        have E7 : Hid (w7.ownsRow (w.heap.size + 1) 49 2 (.slice (some ⟨g7, 0, none⟩) (k + 1) c7) (k + 1) (cE (pkL R (List.range (k + 1))))) := by show World.ownsRow _ _ _ _ _ _ _; rw [unhide HSN]; exact ho7
        clear ho7 hg7 hat7 hlt7 P6 B6 E6 Z6 R6 z6
        refine hK.out _ _ ?_ (fun hHeld9 => ?_)
        · exact ((unhide B7).cell (p := ⟨b1, off + k, none⟩) hblt).trans (unhide HCS)
        clear hK K
        try simp only [Act.put, List.setIfInBounds_toArray, List.set_cons_zero, List.set_cons_succ]
        refine wpAnyH_take (i := 10) (oi := { dst := some 31, op := .fieldAddr 26 (.tmp 9) 5, type := 0, pos := "l11_view.go:33", after := #[{ on := 0, ground := .phase }, { on := 1, ground := .phase }, { on := 2, ground := .phase }, { on := 3, ground := .phase }, { on := 4, ground := .phase }, { on := 5, ground := .phase }, { on := 6, ground := .phase }, { on := 7, ground := .phase }, { on := 8, ground := .phase }, { on := 9, ground := .phase }], guard := none }) (v := ?_) rfl (by kernel_rfl) (by kernel_rfl) (by kernel_rfl) (fun _ _ _ h => h) (Or.inl ⟨by rfl, ?_⟩) (by assumption) ?_
        rotate_left 1
        · (intro w' hSw; (try dsimp only at hSw); go_simp; try with_reducible rfl)
        try simp only [Act.put, List.setIfInBounds_toArray, List.set_cons_zero, List.set_cons_succ]
        refine wpAnyH_ready (rs := [11]) (by kernel_rfl) (by simp) ?_
        refine AllReadyH.cons (o := { dst := none, op := .store 24 (.tmp 31) (.tmp 30), type := 0, pos := "l11_view.go:33", after := #[{ on := 10, ground := .data }, { on := 9, ground := .data }, { on := 9, ground := .chain }, { on := 0, ground := .phase }, { on := 1, ground := .phase }, { on := 2, ground := .phase }, { on := 3, ground := .phase }, { on := 4, ground := .phase }, { on := 5, ground := .phase }, { on := 6, ground := .phase }, { on := 7, ground := .phase }, { on := 8, ground := .phase }, { on := 9, ground := .phase }], guard := none }) rfl (fun K hK => ?_) AllReadyH.nil
        have kp := (unhide P7).S
        have kpf := (unhide P7).F
        obtain ⟨w8, hw8⟩ : ∃ w8, w8 = w7.setCell ⟨(w.heap.size + 2), 5, none⟩ (.slice (some ⟨g7, 0, none⟩) (k + 1) c7) := ⟨_, rfl⟩
        have P8 : Hid (BF (w.heap.size + 2) #[.int .i64 nb, .int .i64 0, .bool true, .int .i64 vw, .int .i64 (H : Int), .slice (some ⟨g7, 0, none⟩) (k + 1) c7] w8) := by rw [hw8]; exact (unhide P7).set 5 (by simp) _
        have B8 : Hid (Below w.heap.size w w8) := by rw [hw8]; exact (unhide B7).setCell (p := ⟨(w.heap.size + 2), 5, none⟩) (by show w.heap.size ≤ (w.heap.size + 2); have := unhide LP; omega) _
        have E8 : Hid (w8.ownsRow (w.heap.size + 1) 49 2 (.slice (some ⟨g7, 0, none⟩) (k + 1) c7) (k + 1) (cE (pkL R (List.range (k + 1))))) := by rw [hw8]; exact own_keepBR (unhide E7) (Below.heap_setCell _ _ _ _ (unhide F7).2)
        have Z8 : Hid (BF w.heap.size #[.int .i64 0, .int .i64 0, .bool false, .int .i64 0, .int .i64 0, .slice none 0 0] w8) := by rw [hw8]; exact (unhide Z7).far _ _ (by show (w.heap.size + 2) ≠ w.heap.size; have := unhide LP; omega)
        have F8 : Hid (∀ j, (Value.slice (some ⟨g7, 0, none⟩) (k + 1) c7).ownBlock = some j → (w.heap.size + 1) ≤ j ∧ j ≠ (w.heap.size + 2)) := fun j hj => by have e : g7 = j := Option.some.inj hj; subst e; exact unhide F7
        go_simp
        rw [← hw8]
        refine hK.out _ _ ?_ (fun hHeld11 => ?_)
        · exact ((unhide B8).cell (p := ⟨b1, off + k, none⟩) hblt).trans (unhide HCS)
        clear hK K
        try simp only [Act.put, List.setIfInBounds_toArray, List.set_cons_zero, List.set_cons_succ]
        refine wpAnyH_done (by kernel_rfl) ?_ _
        clear kp kpf hw8 P7 B7 E7 F7 Z7
        go_wp2_with fail
        go_roundw
        case rel => exact ⟨k + 1, _, _, by omega, by go_num, B8, P8, E8, F8, Z8⟩
        case measure => simp [intOf]; omega
      · skip
        obtain ⟨G, hG⟩ : ∃ G, G = w5.heap.size := ⟨_, rfl⟩
        have hb6 : Below w5.heap.size w5 (w5.alloc (.cells #[.int .i64 (k : Int), .string d] 49)) := Go.Joins.below_alloc1 w5 (.cells #[.int .i64 (k : Int), .string d] 49)
        have R6 := hide (BF.new w5 #[.int .i64 (k : Int), .string d] 49)
        have P6 := hide ((unhide P5).below hb6)
        have B6 := hide ((unhide B5).trans (hb6.mono (unhide B5).size))
        have E6 := hide (((heldZ_of (unhide E5)).below hb6 (Nat.le_refl _)).own)
        have Z6 := hide ((unhide Z5).below hb6)
        have z6 : Hid ((w.heap.size + 2) < (w5.alloc (.cells #[.int .i64 (k : Int), .string d] 49)).heap.size) := (unhide P6).lt
        rw [← hG] at R6
        go_simp
        refine hK.out _ _ ?_ (fun hHeldB => ?_)
        · exact ((unhide B6).cell (p := ⟨b1, off + k, none⟩) hblt).trans (unhide HCS)
        clear hK K
        try simp only [Act.put, List.setIfInBounds_toArray, List.set_cons_zero, List.set_cons_succ]
        rw [← hG]
        clear hb6 hG
        generalize w5.alloc (.cells #[.int .i64 (k : Int), .string d] 49) = w6 at R6 P6 B6 E6 Z6 z6 hHeldB ⊢
        refine wpAnyH_ready (rs := [1]) (by kernel_rfl) (by simp) ?_
        refine AllReadyH.cons (o := { dst := some 22, op := .load 24 (.tmp 21), type := 24, pos := "l11_view.go:33", after := #[{ on := 0, ground := .data }], guard := none }) rfl (fun K hK => ?_) AllReadyH.nil
        have kp := (unhide P6).S
        go_simp
        refine hK.out _ _ ?_ (fun hHeldL => ?_)
        · exact ((unhide B6).cell (p := ⟨b1, off + k, none⟩) hblt).trans (unhide HCS)
        clear hK K kp
        try simp only [Act.put, List.setIfInBounds_toArray, List.set_cons_zero, List.set_cons_succ]
        refine wpAnyH_ready (rs := [9]) (by kernel_rfl) (by simp) ?_
        refine AllReadyH.cons (o := { dst := some 30, op := .call { callee := .builtin Go.Builtin.append, args := #[.tmp 22, .tmp 29], argTypes := #[24, 24] }, type := 24, pos := "l11_view.go:33", after := #[{ on := 1, ground := .data }, { on := 8, ground := .data }], guard := none }) rfl (fun K hK => ?_) AllReadyH.nil
        refine step_append_lies w6 rfl (.tmp 22) (.tmp 29) 24 rfl (w.heap.size + 1) 49 i0 (.agg #[.int .i64 0, .string ⟨#[]⟩]) 2 24 Tryd.underlying24 hi hz0 hz1 hz2 rfl (by decide) (.slice aV k cV) k (cE (pkL R (List.range k))) rfl (unhide E6) ⟨G, 0, none⟩ 1 1 [.int .i64 (k : Int), .string d] rfl rfl (by intro j u hj; have e := (unhide R6).S j; rw [show (⟨G, 0, none⟩ : Addr).add j = ⟨G, j, none⟩ from (by unfold Addr.add; split <;> simp_all)]; rw [e]; simpa using hj) (by intro u hu; simp at hu; rcases hu with rfl | rfl <;> rfl) (by decide) (by unfold maxLen; omega) (by omega) (by have := unhide z6; have := unhide LP; omega) _ rfl ?_
        intro g7 c7 w7 ho7 hg7 hat7 hlt7
        have P7 := hide ((unhide P6).grown hg7 (fun h => (unhide HF _ h).2 rfl))
        have B7 := hide ((unhide B6).grown hg7 (unhide B6).size (fun j hj => by have := (unhide HF j hj).1; have := unhide LP; omega))
        have Z7 := hide ((unhide Z6).grown hg7 (fun h => by have := (unhide HF _ h).1; have := unhide LP; omega))
        have F7 : Hid ((w.heap.size + 1) ≤ g7 ∧ g7 ≠ (w.heap.size + 2)) := by
          show _ ∧ _
          rcases hat7 with h | h
          · exact unhide HF _ h
          · have := unhide z6; have := unhide LP; omega
        have E7 : Hid (w7.ownsRow (w.heap.size + 1) 49 2 (.slice (some ⟨g7, 0, none⟩) (k + 1) c7) (k + 1) (cE (pkL R (List.range (k + 1))))) := by show World.ownsRow _ _ _ _ _ _ _; rw [unhide HSN]; exact ho7
        clear ho7 hg7 hat7 hlt7 P6 B6 E6 Z6 R6 z6
        refine hK.out _ _ ?_ (fun hHeld9 => ?_)
        · exact ((unhide B7).cell (p := ⟨b1, off + k, none⟩) hblt).trans (unhide HCS)
        clear hK K
        try simp only [Act.put, List.setIfInBounds_toArray, List.set_cons_zero, List.set_cons_succ]
        refine wpAnyH_take (i := 10) (oi := { dst := some 31, op := .fieldAddr 26 (.tmp 9) 5, type := 0, pos := "l11_view.go:33", after := #[{ on := 0, ground := .phase }, { on := 1, ground := .phase }, { on := 2, ground := .phase }, { on := 3, ground := .phase }, { on := 4, ground := .phase }, { on := 5, ground := .phase }, { on := 6, ground := .phase }, { on := 7, ground := .phase }, { on := 8, ground := .phase }, { on := 9, ground := .phase }], guard := none }) (v := ?_) rfl (by kernel_rfl) (by kernel_rfl) (by kernel_rfl) (fun _ _ _ h => h) (Or.inl ⟨by rfl, ?_⟩) (by assumption) ?_
        rotate_left 1
        · (intro w' hSw; (try dsimp only at hSw); go_simp; try with_reducible rfl)
        try simp only [Act.put, List.setIfInBounds_toArray, List.set_cons_zero, List.set_cons_succ]
        refine wpAnyH_ready (rs := [11]) (by kernel_rfl) (by simp) ?_
        refine AllReadyH.cons (o := { dst := none, op := .store 24 (.tmp 31) (.tmp 30), type := 0, pos := "l11_view.go:33", after := #[{ on := 10, ground := .data }, { on := 9, ground := .data }, { on := 9, ground := .chain }, { on := 0, ground := .phase }, { on := 1, ground := .phase }, { on := 2, ground := .phase }, { on := 3, ground := .phase }, { on := 4, ground := .phase }, { on := 5, ground := .phase }, { on := 6, ground := .phase }, { on := 7, ground := .phase }, { on := 8, ground := .phase }, { on := 9, ground := .phase }], guard := none }) rfl (fun K hK => ?_) AllReadyH.nil
        have kp := (unhide P7).S
        have kpf := (unhide P7).F
        obtain ⟨w8, hw8⟩ : ∃ w8, w8 = w7.setCell ⟨(w.heap.size + 2), 5, none⟩ (.slice (some ⟨g7, 0, none⟩) (k + 1) c7) := ⟨_, rfl⟩
        have P8 : Hid (BF (w.heap.size + 2) #[.int .i64 nb, .int .i64 0, .bool true, .int .i64 vw, .int .i64 (H : Int), .slice (some ⟨g7, 0, none⟩) (k + 1) c7] w8) := by rw [hw8]; exact (unhide P7).set 5 (by simp) _
        have B8 : Hid (Below w.heap.size w w8) := by rw [hw8]; exact (unhide B7).setCell (p := ⟨(w.heap.size + 2), 5, none⟩) (by show w.heap.size ≤ (w.heap.size + 2); have := unhide LP; omega) _
        have E8 : Hid (w8.ownsRow (w.heap.size + 1) 49 2 (.slice (some ⟨g7, 0, none⟩) (k + 1) c7) (k + 1) (cE (pkL R (List.range (k + 1))))) := by rw [hw8]; exact own_keepBR (unhide E7) (Below.heap_setCell _ _ _ _ (unhide F7).2)
        have Z8 : Hid (BF w.heap.size #[.int .i64 0, .int .i64 0, .bool false, .int .i64 0, .int .i64 0, .slice none 0 0] w8) := by rw [hw8]; exact (unhide Z7).far _ _ (by show (w.heap.size + 2) ≠ w.heap.size; have := unhide LP; omega)
        have F8 : Hid (∀ j, (Value.slice (some ⟨g7, 0, none⟩) (k + 1) c7).ownBlock = some j → (w.heap.size + 1) ≤ j ∧ j ≠ (w.heap.size + 2)) := fun j hj => by have e : g7 = j := Option.some.inj hj; subst e; exact unhide F7
        go_simp
        rw [← hw8]
        refine hK.out _ _ ?_ (fun hHeld11 => ?_)
        · exact ((unhide B8).cell (p := ⟨b1, off + k, none⟩) hblt).trans (unhide HCS)
        clear hK K
        try simp only [Act.put, List.setIfInBounds_toArray, List.set_cons_zero, List.set_cons_succ]
        refine wpAnyH_done (by kernel_rfl) ?_ _
        clear kp kpf hw8 P7 B7 E7 F7 Z7
        go_wp2_with fail
        go_roundw
        case rel => exact ⟨k + 1, _, _, by omega, by go_num, B8, P8, E8, F8, Z8⟩
        case measure => simp [intOf]; omega
    · obtain rfl : k = H := by omega
      have kp := (unhide HP).S
      have kz := (unhide HZ).S
      have kf := (unhide HZ).F
      have HEF := hide (Go.Joins.ownsRow_le (unhide HE) (Nat.le_refl _))
      go_wp2_with fail
      refine bodyPost_ret (v := .agg #[.int .i64 nb, .int .i64 0, .bool true, .int .i64 vw, .int .i64 (k : Int), .slice aV k cV]) (by simp [results, Tryd.results16, go_sem, kz]) rfl ?_
      refine ⟨_, rfl, ?_, ?_⟩
      · refine Go.Joins.ownsRow_le (base := w.heap.size + 1) ?_ (by omega)
        repeat refine ownsRow_setCell_below ?_ (by exact Nat.lt_succ_self _) _
        exact unhide HE
      · repeat refine Below.setCell ?_ (by exact Nat.le_refl _) _
        exact unhide HB
set_option maxHeartbeats 4000000 in
set_option maxRecDepth 100000 in
theorem sfull11 (nb vw vh : Int) (a : Option Addr) (cap n : Nat) (R : List ByteArray) (HN : Hid (R.length = n)) (hn : n ≤ 1048576) (HS : Hid (∀ k (h : k < R.length), R[k].size ≤ 1048576)) (nb2 : Int) (fu2 : Bool) (w2 h2 : Int) (L : List Rw) (c : Int) (HI : Hid (FvIs nb vw vh R nb2 fu2 w2 h2 L c)) (w : World) (hr : RowV w a (cS R)) :
    Calls Tryd.prog 5 #[.int .i64 nb, .int .i64 vw, .int .i64 vh, .slice a n cap] w fun e w' => ∃ v, e = .returned (.tuple #[.agg #[.int .i64 nb2, .int .i64 0, .bool fu2, .int .i64 w2, .int .i64 h2, v], .int .i64 c]) ∧ w'.ownsRow w.heap.size 49 2 v L.length (cE L) ∧ Below w.heap.size w w' := by
  have B0 := hide (Go.Joins.below_alloc1 w (.cells #[.int .i64 0, .int .i64 0, .bool false, .int .i64 0, .int .i64 0, .slice none 0 0] 26))
  have HZ0 := hide (BF.new w #[.int .i64 0, .int .i64 0, .bool false, .int .i64 0, .int .i64 0, .slice none 0 0] 26)
  have HR := hide hr
  have HNI := hide hn
  clear hr hn
  have hC : c = fvC nb vw vh R := (unhide HI).1
  by_cases hlong : (4096 : Int) < (n : Int)
  · have hc : c = 2 := by rw [hC]; unfold fvC; rw [unhide HN, if_pos (by omega)]
    obtain ⟨rfl, rfl, rfl, rfl, rfl⟩ := (unhide HI).2.2 (by rw [hc]; decide)
    subst hc
    clear hC HI
    go_enter Tryd.func5, Tryd.ntmps5
    go_wp2_with fail
    refine bodyPost_ret (v := .tuple #[.agg #[.int .i64 0, .int .i64 0, .bool false, .int .i64 0, .int .i64 0, .slice none 0 0], .int .i64 2]) (by simp [results, Tryd.results5, go_sem]) rfl ?_
    exact ⟨_, rfl, World.ownsRow_nil _ _ _ _, by (repeat refine Below.setCell ?_ (by exact Nat.le_refl _) _); exact unhide B0⟩
  · have hn4 : n ≤ 4096 := by omega
    have hC2 : c = if inB nb 0 60 && sizeB vw vh then (if rowsB vw.toNat vh.toNat R then 0 else 1) else 4 := by rw [hC]; unfold fvC; rw [unhide HN, if_neg (by omega)]
    clear hC
    obtain ⟨c1, hc1⟩ : ∃ c, c = inB nb 0 60 := ⟨_, rfl⟩
    have HC1 := hide hc1
    rw [← hc1] at hC2
    clear hc1
    cases c1 with
    | false =>
      have hc : c = 4 := hC2
      obtain ⟨rfl, rfl, rfl, rfl, rfl⟩ := (unhide HI).2.2 (by rw [hc]; decide)
      subst hc
      clear HI
      go_enter Tryd.func5, Tryd.ntmps5
      go_wp2_with (go_at_call 13; refine (sin _ 0 60 _).mono ?_; rintro e w3 ⟨rfl, rfl⟩; rw [← unhide HC1])
      refine bodyPost_ret (v := .tuple #[.agg #[.int .i64 0, .int .i64 0, .bool false, .int .i64 0, .int .i64 0, .slice none 0 0], .int .i64 4]) (by simp [results, Tryd.results5, go_sem]) rfl ?_
      exact ⟨_, rfl, World.ownsRow_nil _ _ _ _, by (repeat refine Below.setCell ?_ (by exact Nat.le_refl _) _); exact unhide B0⟩
    | true =>
      cases hc2 : sizeB vw vh with
      | false =>
        have hc : c = 4 := by rw [hC2, hc2]; rfl
        obtain ⟨rfl, rfl, rfl, rfl, rfl⟩ := (unhide HI).2.2 (by rw [hc]; decide)
        subst hc
        have HC2 := hide hc2
        clear HI hc2 hC2
        go_enter Tryd.func5, Tryd.ntmps5
        go_wp2_with (first | (go_at_call 13; refine (sin _ 0 60 _).mono ?_; rintro e w3 ⟨rfl, rfl⟩; rw [← unhide HC1]) | (go_at_call 14; refine (ssize _ _ _).mono ?_; rintro e w3 ⟨rfl, rfl⟩; rw [unhide HC2]))
        refine bodyPost_ret (v := .tuple #[.agg #[.int .i64 0, .int .i64 0, .bool false, .int .i64 0, .int .i64 0, .slice none 0 0], .int .i64 4]) (by simp [results, Tryd.results5, go_sem]) rfl ?_
        exact ⟨_, rfl, World.ownsRow_nil _ _ _ _, by (repeat refine Below.setCell ?_ (by exact Nat.le_refl _) _); exact unhide B0⟩
      | true =>
        obtain ⟨W, H, rfl, rfl, hW1, hW2, hH1, hH2⟩ := sizeB_nat hc2
        obtain ⟨c3, hc3⟩ : ∃ c, c = rowsB W H R := ⟨_, rfl⟩
        have HC3 := hide hc3
        have hC3 : c = if c3 then 0 else 1 := by rw [hC2, hc2, hc3]; simp
        have HC2 := hide hc2
        clear hc2 hC2 hc3
        cases c3 with
        | false =>
          have hc : c = 1 := hC3
          obtain ⟨rfl, rfl, rfl, rfl, rfl⟩ := (unhide HI).2.2 (by rw [hc]; decide)
          subst hc
          clear HI
          go_enter Tryd.func5, Tryd.ntmps5
          go_wp2_with (first | (go_at_call 13; refine (sin _ 0 60 _).mono ?_; rintro e w3 ⟨rfl, rfl⟩; rw [← unhide HC1]) | (go_at_call 14; refine (ssize _ _ _).mono ?_; rintro e w3 ⟨rfl, rfl⟩; rw [unhide HC2]) | (go_at_call 15; refine (srows a cap W H n hW2 hH2 R HN (unhide HNI) HS false HC3 _ ((unhide HR).below (unhide B0))).mono ?_; rintro e w4 ⟨rfl, hb4⟩; have HB4 := hide ((unhide B0).trans (hb4.mono (unhide B0).size)); have HZ4 := hide ((unhide HZ0).below hb4); have kz4 := (unhide HZ4).S; have kf4 := (unhide HZ4).F; clear hb4))
          refine bodyPost_ret (v := .tuple #[.agg #[.int .i64 0, .int .i64 0, .bool false, .int .i64 0, .int .i64 0, .slice none 0 0], .int .i64 1]) (by simp [results, Tryd.results5, go_sem, kz4]) rfl ?_
          exact ⟨_, rfl, World.ownsRow_nil _ _ _ _, by (repeat refine Below.setCell ?_ (by exact Nat.le_refl _) _); exact unhide HB4⟩
        | true =>
          have hc : c = 0 := hC3
          obtain ⟨e1, e2, e3, e4, e5⟩ := (unhide HI).2.1 hc
          have HE5 := hide e5
          subst e1 e2 e3 e4 hc
          clear HI hC3 e5
          have HL2 : Hid (L = pkL R (List.range H)) := by show _ = _; rw [unhide HE5]; simp
          have HNH : Hid (n = H) := by
            show _ = _
            have h := (unhide HC3).symm
            unfold rowsB at h
            rw [Bool.and_eq_true, decide_eq_true_eq] at h
            rw [← unhide HN]; exact h.1
          go_enter Tryd.func5, Tryd.ntmps5
          go_wp2_with (first | (go_at_call 13; refine (sin _ 0 60 _).mono ?_; rintro e w3 ⟨rfl, rfl⟩; rw [← unhide HC1]) | (go_at_call 14; refine (ssize _ _ _).mono ?_; rintro e w3 ⟨rfl, rfl⟩; rw [unhide HC2]) | (go_at_call 15; refine (srows a cap W H n hW2 hH2 R HN (unhide HNI) HS true HC3 _ ((unhide HR).below (unhide B0))).mono ?_; rintro e w4 ⟨rfl, hb4⟩; have HB4 := hide ((unhide B0).trans (hb4.mono (unhide B0).size)); have HZ4 := hide ((unhide HZ0).below hb4); have kz4 := (unhide HZ4).S; have kf4 := (unhide HZ4).F; clear hb4) | (go_at_call 16; refine (sl11full nb2 (W : Int) H hH2 a cap n R HN HNH _ ((unhide HR).below (unhide HB4))).mono ?_; rintro e w6 ⟨v6, rfl, ho6, hb6⟩; obtain ⟨a6, c6, rfl, -⟩ := ownZ_rowV ho6; have HB6 := hide ((unhide HB4).trans (hb6.mono (unhide HB4).size)); have HZ6 := hide ((unhide HZ4).below hb6); have kz6 := (unhide HZ6).S; have kf6 := (unhide HZ6).F; have z4 := (unhide HZ4).lt; have HO6 := hide (Go.Joins.ownsRow_le ho6 (Nat.succ_le_of_lt z4)); clear kz4 kf4 hb6 ho6))
          refine bodyPost_ret (v := .tuple #[.agg #[.int .i64 nb2, .int .i64 0, .bool true, .int .i64 (W : Int), .int .i64 (H : Int), .slice a6 H c6], .int .i64 0]) (by simp [results, Tryd.results5, go_sem, kz6]) rfl ?_
          refine ⟨_, rfl, ?_, ?_⟩
          · rw [unhide HL2, pkL_len, List.length_range]
            refine Go.Joins.ownsRow_le (base := w.heap.size + 1) ?_ (by omega)
            repeat refine ownsRow_setCell_below ?_ (by exact Nat.lt_succ_self _) _
            exact unhide HO6
          · repeat refine Below.setCell ?_ (by exact Nat.le_refl _) _
            exact unhide HB6
end Go.Proofs.YtiacdkkcjdbjfaaDoor
