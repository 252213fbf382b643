/- A new node: what the specification answers. -/
import Derived.Test.YthbkcijkokaoeaaNnM
import Derived.Test.YthbkcijkokaoeaaNnI
import Derived.Test.YthbkcijkokaoeaaIntS
import Derived.Test.YthbkcijkokaoeaaInS
import Derived.Laws.OwnMore
import Derived.Lib.SmallJoins
namespace Go.Proofs.Ythbkcijkokaoeaa
open Go.ChangeShapes Go.WideShapes Go.ChangeAt Go.RowKit
set_option linter.unusedVariables false
theorem put13 {p : Nat} (w : World) (h : BF p #[.int .i64 0, .int .i64 0, .int .i64 0, .int .i64 0, .int .i64 0, .bool false, .slice none 0 0, .int .i64 0, .int .i64 0, .int .i64 0, .slice none 0 0, .slice none 0 0, .slice none 0 0] w) (v0 v1 v2 v3 v4 v5 v6 v7 v8 v9 v10 v11 v12 : Value) :
    ∃ w', w' = (((((((((((((w.setCell ⟨p, 0, none⟩ v0).setCell ⟨p, 1, none⟩ v1).setCell ⟨p, 2, none⟩ v2).setCell ⟨p, 3, none⟩ v3).setCell ⟨p, 4, none⟩ v4).setCell ⟨p, 5, none⟩ v5).setCell ⟨p, 6, none⟩ v6).setCell ⟨p, 7, none⟩ v7).setCell ⟨p, 8, none⟩ v8).setCell ⟨p, 9, none⟩ v9).setCell ⟨p, 10, none⟩ v10).setCell ⟨p, 11, none⟩ v11).setCell ⟨p, 12, none⟩ v12) ∧ BF p #[v0, v1, v2, v3, v4, v5, v6, v7, v8, v9, v10, v11, v12] w' ∧ Outs p (p + 1) w w' := by
  refine ⟨_, rfl, ?_, ?_⟩
  · skip
    have q1 : BF p #[v0, .int .i64 0, .int .i64 0, .int .i64 0, .int .i64 0, .bool false, .slice none 0 0, .int .i64 0, .int .i64 0, .int .i64 0, .slice none 0 0, .slice none 0 0, .slice none 0 0] _ := h.set 0 (by simp) v0
    have q2 : BF p #[v0, v1, .int .i64 0, .int .i64 0, .int .i64 0, .bool false, .slice none 0 0, .int .i64 0, .int .i64 0, .int .i64 0, .slice none 0 0, .slice none 0 0, .slice none 0 0] _ := q1.set 1 (by simp) v1
    have q3 : BF p #[v0, v1, v2, .int .i64 0, .int .i64 0, .bool false, .slice none 0 0, .int .i64 0, .int .i64 0, .int .i64 0, .slice none 0 0, .slice none 0 0, .slice none 0 0] _ := q2.set 2 (by simp) v2
    have q4 : BF p #[v0, v1, v2, v3, .int .i64 0, .bool false, .slice none 0 0, .int .i64 0, .int .i64 0, .int .i64 0, .slice none 0 0, .slice none 0 0, .slice none 0 0] _ := q3.set 3 (by simp) v3
    have q5 : BF p #[v0, v1, v2, v3, v4, .bool false, .slice none 0 0, .int .i64 0, .int .i64 0, .int .i64 0, .slice none 0 0, .slice none 0 0, .slice none 0 0] _ := q4.set 4 (by simp) v4
    have q6 : BF p #[v0, v1, v2, v3, v4, v5, .slice none 0 0, .int .i64 0, .int .i64 0, .int .i64 0, .slice none 0 0, .slice none 0 0, .slice none 0 0] _ := q5.set 5 (by simp) v5
    have q7 : BF p #[v0, v1, v2, v3, v4, v5, v6, .int .i64 0, .int .i64 0, .int .i64 0, .slice none 0 0, .slice none 0 0, .slice none 0 0] _ := q6.set 6 (by simp) v6
    have q8 : BF p #[v0, v1, v2, v3, v4, v5, v6, v7, .int .i64 0, .int .i64 0, .slice none 0 0, .slice none 0 0, .slice none 0 0] _ := q7.set 7 (by simp) v7
    have q9 : BF p #[v0, v1, v2, v3, v4, v5, v6, v7, v8, .int .i64 0, .slice none 0 0, .slice none 0 0, .slice none 0 0] _ := q8.set 8 (by simp) v8
    have q10 : BF p #[v0, v1, v2, v3, v4, v5, v6, v7, v8, v9, .slice none 0 0, .slice none 0 0, .slice none 0 0] _ := q9.set 9 (by simp) v9
    have q11 : BF p #[v0, v1, v2, v3, v4, v5, v6, v7, v8, v9, v10, .slice none 0 0, .slice none 0 0] _ := q10.set 10 (by simp) v10
    have q12 : BF p #[v0, v1, v2, v3, v4, v5, v6, v7, v8, v9, v10, v11, .slice none 0 0] _ := q11.set 11 (by simp) v11
    have q13 : BF p #[v0, v1, v2, v3, v4, v5, v6, v7, v8, v9, v10, v11, v12] _ := q12.set 12 (by simp) v12
    exact q13
  · exact outs_set (outs_set (outs_set (outs_set (outs_set (outs_set (outs_set (outs_set (outs_set (outs_set (outs_set (outs_set (outs_set (Outs.of_below (Below.refl _ _))))))))))))))
set_option maxHeartbeats 4000000 in
set_option maxRecDepth 100000 in
theorem snew (id : Int) (m : Nat) (h1 : 1 ≤ m) (h5 : m ≤ 5) (h0 : 0 ≤ id) (h4 : id ≤ 4) (w : World) :
    Calls Try.prog 26 #[.int .i64 id, .int .i64 (m : Int), .agg #[.int .i64 0, .int .i64 (-1), .slice none 0 0]] w fun e w' => ∃ gL gV gM aN cN bN, e = .returned (.agg #[.int .i64 id, .int .i64 (m : Int), .int .i64 0, .int .i64 (-1), .int .i64 0, .bool true, .slice (some ⟨gL, 0, none⟩) 0 0, .int .i64 0, .int .i64 0, .int .i64 (5 + id), .slice (some ⟨gV, 0, none⟩) 0 0, .slice aN m cN, .slice (some ⟨gM, 0, none⟩) m m]) ∧ (HeldZ 2 w' gL (gL + 1) 67 (.slice (some ⟨gL, 0, none⟩) 0 0) 0 []) ∧ (Held w' gV (gV + 1) 3 (.slice (some ⟨gV, 0, none⟩) 0 0) 0 []) ∧ (Held w' gM (gM + 1) 3 (.slice (some ⟨gM, 0, none⟩) m m) m (cI (List.replicate m 0))) ∧ Held w' bN w'.heap.size 3 (.slice aN m cN) m (cI (List.replicate m 1)) ∧ (gL ≠ gV ∧ gL ≠ gM ∧ gV ≠ gM ∧ gL < bN ∧ gV < bN ∧ gM < bN ∧ w.heap.size < gL ∧ w.heap.size < gV ∧ w.heap.size < gM) ∧ Below w.heap.size w w' := by
  obtain ⟨i0, hi, hz0, hz1, hz2⟩ := info_parts Try.infL3
  have e2 : IntKind.i64.wrap (5 + id) = 5 + id := wrapi _ (by omega) (by omega)
  have B := hide (Go.Joins.below_alloc2 w (.cells #[.int .i64 0, .int .i64 (-1), .slice none 0 0] 51) (.cells #[.int .i64 0, .int .i64 0, .int .i64 0, .int .i64 0, .int .i64 0, .bool false, .slice none 0 0, .int .i64 0, .int .i64 0, .int .i64 0, .slice none 0 0, .slice none 0 0, .slice none 0 0] 38))
  have S := hide ((BF.new w #[.int .i64 0, .int .i64 (-1), .slice none 0 0] 51).alloc (.cells #[.int .i64 0, .int .i64 0, .int .i64 0, .int .i64 0, .int .i64 0, .bool false, .slice none 0 0, .int .i64 0, .int .i64 0, .int .i64 0, .slice none 0 0, .slice none 0 0, .slice none 0 0] 38))
  have R := hide (BF.new (w.alloc (.cells #[.int .i64 0, .int .i64 (-1), .slice none 0 0] 51)) #[.int .i64 0, .int .i64 0, .int .i64 0, .int .i64 0, .int .i64 0, .bool false, .slice none 0 0, .int .i64 0, .int .i64 0, .int .i64 0, .slice none 0 0, .slice none 0 0, .slice none 0 0] 38)
  simp only [World.size_alloc] at R
  have B0 := hide (unhide B).drew
  have S0 := hide (unhide S).drew
  have R0 := hide (unhide R).drew
  have k0 := (unhide S).S
  clear B S R
  go_enter Try.func26, Try.ntmps26
  go_wp2_with fail
  refine Code.wp_mono (Q := fun x a' v => match x with | .normal => (∃ gL gV gM gN, a' = ⟨#[.int .i64 id, .int .i64 (m : Int), .agg #[.int .i64 0, .int .i64 (-1), .slice none 0 0], undef, undef, .pointer (some ⟨w.heap.size, 0, none⟩), .pointer (some ⟨w.heap.size + 1, 0, none⟩), .pointer (some ⟨gN, 0, none⟩), undef, .int .i64 id, .int .i64 (m : Int), .pointer (some ⟨w.heap.size, 0, none⟩), .int .i64 0, .pointer (some ⟨w.heap.size, 1, none⟩), .int .i64 (-1), .slice (some ⟨gL, 0, none⟩) 0 0, .pointer (some ⟨w.heap.size, 2, none⟩), .slice none 0 0, .slice (some ⟨gL, 0, none⟩) 0 0, .int .i64 id, .int .i64 (5 + id), .slice (some ⟨gV, 0, none⟩) 0 0, .int .i64 (m : Int), .slice (some ⟨gM, 0, none⟩) m m, .agg #[.int .i64 id, .int .i64 (m : Int), .int .i64 0, .int .i64 (-1), .int .i64 0, .bool true, .slice (some ⟨gL, 0, none⟩) 0 0, .int .i64 0, .int .i64 0, .int .i64 (5 + id), .slice (some ⟨gV, 0, none⟩) 0 0, .slice none 0 0, .slice (some ⟨gM, 0, none⟩) m m], undef, undef, undef, undef, undef, undef, undef, undef, undef, undef, undef], []⟩ ∧ BF gN #[.int .i64 id, .int .i64 (m : Int), .int .i64 0, .int .i64 (-1), .int .i64 0, .bool true, .slice (some ⟨gL, 0, none⟩) 0 0, .int .i64 0, .int .i64 0, .int .i64 (5 + id), .slice (some ⟨gV, 0, none⟩) 0 0, .slice none 0 0, .slice (some ⟨gM, 0, none⟩) m m] v ∧ (HeldZ 2 v gL (gL + 1) 67 (.slice (some ⟨gL, 0, none⟩) 0 0) 0 []) ∧ (Held v gV (gV + 1) 3 (.slice (some ⟨gV, 0, none⟩) 0 0) 0 []) ∧ (Held v gM (gM + 1) 3 (.slice (some ⟨gM, 0, none⟩) m m) m (cI (List.replicate m 0))) ∧ BF (w.heap.size + 1) #[.int .i64 0, .int .i64 0, .int .i64 0, .int .i64 0, .int .i64 0, .bool false, .slice none 0 0, .int .i64 0, .int .i64 0, .int .i64 0, .slice none 0 0, .slice none 0 0, .slice none 0 0] v ∧ Below w.heap.size w v ∧ (gL ≠ gV ∧ gL ≠ gM ∧ gL ≠ gN ∧ gV ≠ gM ∧ gV ≠ gN ∧ gM ≠ gN ∧ w.heap.size + 1 < gL ∧ w.heap.size + 1 < gV ∧ w.heap.size + 1 < gM ∧ w.heap.size + 1 < gN)) | _ => False) ?_ ?_
  rotate_left
  · refine wp_region_held_drew (S := fun w' => ∀ o, w'.cell? ⟨w.heap.size, o, none⟩ = (#[.int .i64 0, .int .i64 (-1), .slice none 0 0] : Array Value)[o]?) (by kernel_rfl) k0 (fun hHeld => ?_)
    clear k0
    generalize ((w.alloc _).alloc _).drew = v0 at B0 S0 R0 hHeld ⊢
    refine wpAnyH_take (i := 0) (oi := { dst := some 9, op := .move (.tmp 0), type := 3, pos := "l08_raft.go:6", after := #[], guard := none }) (v := ?_) rfl (by kernel_rfl) (by kernel_rfl) (by kernel_rfl) (fun _ _ _ h => h) (Or.inl ⟨by rfl, ?_⟩) (by assumption) ?_
    rotate_left 1
    · (intro w' hSw; (try dsimp only at hSw); go_simp; try with_reducible rfl)
    try simp only [Act.put, List.setIfInBounds_toArray, List.set_cons_zero, List.set_cons_succ]
    refine wpAnyH_take (i := 1) (oi := { dst := some 10, op := .move (.tmp 1), type := 3, pos := "l08_raft.go:6", after := #[], guard := none }) (v := ?_) rfl (by kernel_rfl) (by kernel_rfl) (by kernel_rfl) (fun _ _ _ h => h) (Or.inl ⟨by rfl, ?_⟩) (by assumption) ?_
    rotate_left 1
    · (intro w' hSw; (try dsimp only at hSw); go_simp; try with_reducible rfl)
    try simp only [Act.put, List.setIfInBounds_toArray, List.set_cons_zero, List.set_cons_succ]
    refine wpAnyH_take (i := 2) (oi := { dst := some 11, op := .fieldAddr 51 (.tmp 5) 0, type := 0, pos := "l08_raft.go:6", after := #[], guard := none }) (v := ?_) rfl (by kernel_rfl) (by kernel_rfl) (by kernel_rfl) (fun _ _ _ h => h) (Or.inl ⟨by rfl, ?_⟩) (by assumption) ?_
    rotate_left 1
    · (intro w' hSw; (try dsimp only at hSw); go_simp; try with_reducible rfl)
    try simp only [Act.put, List.setIfInBounds_toArray, List.set_cons_zero, List.set_cons_succ]
    refine wpAnyH_take (i := 3) (oi := { dst := some 12, op := .load 3 (.tmp 11), type := 3, pos := "l08_raft.go:6", after := #[{ on := 2, ground := .data }], guard := none }) (v := ?_) rfl (by kernel_rfl) (by kernel_rfl) (by kernel_rfl) (fun _ _ _ h => h) (Or.inl ⟨by rfl, ?_⟩) (by assumption) ?_
    rotate_left 1
    · (intro w' hSw; (try dsimp only at hSw); go_simp; try with_reducible rfl)
    try simp only [Act.put, List.setIfInBounds_toArray, List.set_cons_zero, List.set_cons_succ]
    refine wpAnyH_take (i := 4) (oi := { dst := some 13, op := .fieldAddr 51 (.tmp 5) 1, type := 0, pos := "l08_raft.go:6", after := #[], guard := none }) (v := ?_) rfl (by kernel_rfl) (by kernel_rfl) (by kernel_rfl) (fun _ _ _ h => h) (Or.inl ⟨by rfl, ?_⟩) (by assumption) ?_
    rotate_left 1
    · (intro w' hSw; (try dsimp only at hSw); go_simp; try with_reducible rfl)
    try simp only [Act.put, List.setIfInBounds_toArray, List.set_cons_zero, List.set_cons_succ]
    refine wpAnyH_take (i := 5) (oi := { dst := some 14, op := .load 3 (.tmp 13), type := 3, pos := "l08_raft.go:6", after := #[{ on := 4, ground := .data }], guard := none }) (v := ?_) rfl (by kernel_rfl) (by kernel_rfl) (by kernel_rfl) (fun _ _ _ h => h) (Or.inl ⟨by rfl, ?_⟩) (by assumption) ?_
    rotate_left 1
    · (intro w' hSw; (try dsimp only at hSw); go_simp; try with_reducible rfl)
    try simp only [Act.put, List.setIfInBounds_toArray, List.set_cons_zero, List.set_cons_succ]
    refine wpAnyH_take (i := 7) (oi := { dst := some 16, op := .fieldAddr 51 (.tmp 5) 2, type := 0, pos := "l08_raft.go:6", after := #[], guard := none }) (v := ?_) rfl (by kernel_rfl) (by kernel_rfl) (by kernel_rfl) (fun _ _ _ h => h) (Or.inl ⟨by rfl, ?_⟩) (by assumption) ?_
    rotate_left 1
    · (intro w' hSw; (try dsimp only at hSw); go_simp; try with_reducible rfl)
    try simp only [Act.put, List.setIfInBounds_toArray, List.set_cons_zero, List.set_cons_succ]
    refine wpAnyH_take (i := 8) (oi := { dst := some 17, op := .load 35 (.tmp 16), type := 35, pos := "l08_raft.go:6", after := #[{ on := 7, ground := .data }], guard := none }) (v := ?_) rfl (by kernel_rfl) (by kernel_rfl) (by kernel_rfl) (fun _ _ _ h => h) (Or.inl ⟨by rfl, ?_⟩) (by assumption) ?_
    rotate_left 1
    · (intro w' hSw; (try dsimp only at hSw); go_simp; try with_reducible rfl)
    try simp only [Act.put, List.setIfInBounds_toArray, List.set_cons_zero, List.set_cons_succ]
    refine wpAnyH_take (i := 10) (oi := { dst := some 19, op := .move (.tmp 0), type := 3, pos := "l08_raft.go:6", after := #[], guard := none }) (v := ?_) rfl (by kernel_rfl) (by kernel_rfl) (by kernel_rfl) (fun _ _ _ h => h) (Or.inl ⟨by rfl, ?_⟩) (by assumption) ?_
    rotate_left 1
    · (intro w' hSw; (try dsimp only at hSw); go_simp; try with_reducible rfl)
    try simp only [Act.put, List.setIfInBounds_toArray, List.set_cons_zero, List.set_cons_succ]
    refine wpAnyH_take (i := 11) (oi := { dst := some 20, op := .binOp .add 3 (.const (.int .i64 5)) (.tmp 19) 3, type := 3, pos := "l08_raft.go:6", after := #[{ on := 10, ground := .data }], guard := none }) (v := ?_) rfl (by kernel_rfl) (by kernel_rfl) (by kernel_rfl) (fun _ _ _ h => h) (Or.inl ⟨by rfl, ?_⟩) (by assumption) ?_
    rotate_left 1
    · (intro w' hSw; (try dsimp only at hSw); go_simp; try with_reducible rfl)
    try simp only [Act.put, List.setIfInBounds_toArray, List.set_cons_zero, List.set_cons_succ]
    refine wpAnyH_take (i := 13) (oi := { dst := some 22, op := .move (.tmp 1), type := 3, pos := "l08_raft.go:6", after := #[], guard := none }) (v := ?_) rfl (by kernel_rfl) (by kernel_rfl) (by kernel_rfl) (fun _ _ _ h => h) (Or.inl ⟨by rfl, ?_⟩) (by assumption) ?_
    rotate_left 1
    · (intro w' hSw; (try dsimp only at hSw); go_simp; try with_reducible rfl)
    try simp only [Act.put, List.setIfInBounds_toArray, List.set_cons_zero, List.set_cons_succ]
    refine wpAnyH_ready (rs := [6, 12, 14, 16]) (by kernel_rfl) (by simp) ?_
    refine AllReadyH.cons (o := { dst := some 15, op := .buildSlice 35 0 #[], type := 35, pos := "l08_raft.go:6", after := #[], guard := none }) rfl (fun K hK => ?_) (AllReadyH.cons (o := { dst := some 21, op := .buildSlice 36 0 #[], type := 36, pos := "l08_raft.go:6", after := #[], guard := none }) rfl (fun K hK => ?_) (AllReadyH.cons (o := { dst := some 23, op := .makeSlice 36 (.tmp 22) (.tmp 22), type := 36, pos := "l08_raft.go:6", after := #[{ on := 13, ground := .data }, { on := 13, ground := .data }], guard := none }) rfl (fun K hK => ?_) (AllReadyH.cons (o := { dst := some 7, op := .alloc 38, type := 0, pos := "l08_raft.go:6", after := #[], guard := none }) rfl (fun K hK => ?_) (AllReadyH.nil))))
    · skip
      obtain ⟨gL, hgL⟩ : ∃ g, g = v0.heap.size := ⟨_, rfl⟩
      have BSL : Hid (w.heap.size + 1 < gL) := by show _ < _; rw [hgL]; exact (unhide R0).lt
      have hb : Below v0.heap.size v0 (v0.alloc (.cells #[] 67)) := Go.Joins.below_alloc1 v0 (.cells #[] 67)
      have L1 : Hid (HeldZ 2 (v0.alloc (.cells #[] 67)) gL (gL + 1) 67 (.slice (some ⟨gL, 0, none⟩) 0 0) 0 []) := by rw [hgL]; exact ⟨World.ownsRow_lit (e := 67) (base := v0.heap.size) (size := 2) v0 #[] 0 (Nat.le_refl _) (by unfold maxLen; omega) rfl, (fun k hk => by have e : v0.heap.size = k := Option.some.inj hk; omega), by simp⟩
      have B1 := hide ((unhide B0).trans (hb.mono (unhide B0).size))
      have S1 := hide ((unhide S0).below hb)
      have R1 := hide ((unhide R0).below hb)
      clear hb B0 S0 R0 
      go_simp
      refine hK.out _ _ ?_ (fun hHeld6 => ?_)
      · exact (unhide S1).S
      clear hK K
      try simp only [Act.put, List.setIfInBounds_toArray, List.set_cons_zero, List.set_cons_succ]
      rw [← hgL]
      clear hgL
      generalize v0.alloc (.cells #[] 67) = v1 at B1 S1 R1 L1  hHeld6 ⊢
      refine wpAnyH_take (i := 9) (oi := { dst := some 18, op := .call { callee := .builtin Go.Builtin.append, args := #[.tmp 15, .tmp 17], argTypes := #[35, 35] }, type := 35, pos := "l08_raft.go:6", after := #[{ on := 6, ground := .data }, { on := 8, ground := .data }], guard := none }) (v := ?_) rfl (by kernel_rfl) (by kernel_rfl) (by kernel_rfl) (fun _ _ _ h => h) (Or.inl ⟨by rfl, ?_⟩) (by assumption) ?_
      rotate_left 1
      · (intro w' hSw; (try dsimp only at hSw); go_simp; try with_reducible rfl)
      try simp only [Act.put, List.setIfInBounds_toArray, List.set_cons_zero, List.set_cons_succ]
      refine wpAnyH_ready (rs := [12, 14, 16]) (by kernel_rfl) (by simp) ?_
      refine AllReadyH.cons (o := { dst := some 21, op := .buildSlice 36 0 #[], type := 36, pos := "l08_raft.go:6", after := #[], guard := none }) rfl (fun K hK => ?_) (AllReadyH.cons (o := { dst := some 23, op := .makeSlice 36 (.tmp 22) (.tmp 22), type := 36, pos := "l08_raft.go:6", after := #[{ on := 13, ground := .data }, { on := 13, ground := .data }], guard := none }) rfl (fun K hK => ?_) (AllReadyH.cons (o := { dst := some 7, op := .alloc 38, type := 0, pos := "l08_raft.go:6", after := #[], guard := none }) rfl (fun K hK => ?_) (AllReadyH.nil)))
      · skip
        obtain ⟨gV, hgV⟩ : ∃ g, g = v1.heap.size := ⟨_, rfl⟩
        have NELV : Hid (gL < gV) := by show _ < _; rw [hgV]; exact (unhide L1).le
        have BSV : Hid (w.heap.size + 1 < gV) := by show _ < _; rw [hgV]; exact (unhide R1).lt
        have hb : Below v1.heap.size v1 (v1.alloc (.cells #[] 3)) := Go.Joins.below_alloc1 v1 (.cells #[] 3)
        have V2 : Hid (Held (v1.alloc (.cells #[] 3)) gV (gV + 1) 3 (.slice (some ⟨gV, 0, none⟩) 0 0) 0 []) := by rw [hgV]; exact ⟨World.ownsRow_lit (e := 3) (base := v1.heap.size) (size := 1) v1 #[] 0 (Nat.le_refl _) (by unfold maxLen; omega) rfl, (fun k hk => by have e : v1.heap.size = k := Option.some.inj hk; omega), by simp⟩
        have L2 := hide ((unhide L1).below hb (unhide L1).le)
        have B2 := hide ((unhide B1).trans (hb.mono (unhide B1).size))
        have S2 := hide ((unhide S1).below hb)
        have R2 := hide ((unhide R1).below hb)
        clear hb B1 S1 R1 L1
        go_simp
        refine hK.out _ _ ?_ (fun hHeld12 => ?_)
        · exact (unhide S2).S
        clear hK K
        try simp only [Act.put, List.setIfInBounds_toArray, List.set_cons_zero, List.set_cons_succ]
        rw [← hgV]
        clear hgV
        generalize v1.alloc (.cells #[] 3) = v2 at B2 S2 R2 V2 L2 hHeld12 ⊢
        refine wpAnyH_ready (rs := [14, 16]) (by kernel_rfl) (by simp) ?_
        refine AllReadyH.cons (o := { dst := some 23, op := .makeSlice 36 (.tmp 22) (.tmp 22), type := 36, pos := "l08_raft.go:6", after := #[{ on := 13, ground := .data }, { on := 13, ground := .data }], guard := none }) rfl (fun K hK => ?_) (AllReadyH.cons (o := { dst := some 7, op := .alloc 38, type := 0, pos := "l08_raft.go:6", after := #[], guard := none }) rfl (fun K hK => ?_) (AllReadyH.nil))
        · skip
          obtain ⟨gM, hgM⟩ : ∃ g, g = v2.heap.size := ⟨_, rfl⟩
          have NELM : Hid (gL < gM) := by show _ < _; rw [hgM]; exact (unhide L2).le
          have NEVM : Hid (gV < gM) := by show _ < _; rw [hgM]; exact (unhide V2).le
          have BSM : Hid (w.heap.size + 1 < gM) := by show _ < _; rw [hgM]; exact (unhide R2).lt
          obtain ⟨v3, hrun, ho, hgr⟩ := run_make_full (P := Try.prog) (w := v2) v2.heap.size 36 3 i0 (.int .i64 0) 1 Try.underlying36 hi hz0 hz1 .i64 .i64 m (by rw [hz2]; omega) (by unfold maxLen; omega) (Nat.le_refl _)
          have hb : Below v2.heap.size v2 v3 := (Below.refl _ _).grown hgr (Nat.le_refl _) (fun k hk => by cases hk)
          rw [show (madeCells (Value.int .i64 0).cells (m * 1)).toList = cI (List.replicate m 0) from by rw [show (Value.int .i64 0).cells = #[.int .i64 0] from rfl, toList_madeCells_one]; simp [cI]] at ho
          have M3 : Hid (Held v3 gM (gM + 1) 3 (.slice (some ⟨gM, 0, none⟩) m m) m (cI (List.replicate m 0))) := by rw [hgM]; exact ⟨ho, (fun k hk => by have e : v2.heap.size = k := Option.some.inj hk; omega), (ho.lt v2.heap.size rfl).2⟩
          rw [← hgM] at hrun
          have L3 := hide ((unhide L2).below hb (unhide L2).le)
          have V3 := hide ((unhide V2).below hb (unhide V2).le)
          have B3 := hide ((unhide B2).trans (hb.mono (unhide B2).size))
          have S3 := hide ((unhide S2).below hb)
          have R3 := hide ((unhide R2).below hb)
          clear hb B2 S2 R2 L2 V2 ho hgr hgM
          go_simp
          refine hK.out _ _ ?_ (fun hHeld14 => ?_)
          · exact (unhide S3).S
          clear hK K
          try simp only [Act.put, List.setIfInBounds_toArray, List.set_cons_zero, List.set_cons_succ]
          clear hrun
          refine wpAnyH_take (i := 15) (oi := { dst := some 24, op := .build 38 #[(0, .tmp 9), (1, .tmp 10), (2, .tmp 12), (3, .tmp 14), (5, .const (.bool true)), (6, .tmp 18), (9, .tmp 20), (10, .tmp 21), (12, .tmp 23)], type := 38, pos := "l08_raft.go:6", after := #[{ on := 0, ground := .data }, { on := 1, ground := .data }, { on := 3, ground := .data }, { on := 5, ground := .data }, { on := 9, ground := .data }, { on := 11, ground := .data }, { on := 12, ground := .data }, { on := 14, ground := .data }], guard := none }) (v := ?_) rfl (by kernel_rfl) (by kernel_rfl) (by kernel_rfl) (fun _ _ _ h => h) (Or.inl ⟨by rfl, ?_⟩) (by assumption) ?_
          rotate_left 1
          · (intro w' hSw; (try dsimp only at hSw); go_simp; try with_reducible rfl)
          try simp only [Act.put, List.setIfInBounds_toArray, List.set_cons_zero, List.set_cons_succ]
          refine wpAnyH_ready (rs := [16]) (by kernel_rfl) (by simp) ?_
          refine AllReadyH.cons (o := { dst := some 7, op := .alloc 38, type := 0, pos := "l08_raft.go:6", after := #[], guard := none }) rfl (fun K hK => ?_) (AllReadyH.nil)
          obtain ⟨gN, hgN⟩ : ∃ g, g = v3.heap.size := ⟨_, rfl⟩
          have NELN : Hid (gL < gN) := by show _ < _; rw [hgN]; exact (unhide L3).le
          have NEVN : Hid (gV < gN) := by show _ < _; rw [hgN]; exact (unhide V3).le
          have NEMN : Hid (gM < gN) := by show _ < _; rw [hgN]; exact (unhide M3).le
          have BSN : Hid (w.heap.size + 1 < gN) := by show _ < _; rw [hgN]; exact (unhide R3).lt
          have hb : Below v3.heap.size v3 (v3.alloc (.cells #[.int .i64 0, .int .i64 0, .int .i64 0, .int .i64 0, .int .i64 0, .bool false, .slice none 0 0, .int .i64 0, .int .i64 0, .int .i64 0, .slice none 0 0, .slice none 0 0, .slice none 0 0] 38)) := Go.Joins.below_alloc1 v3 (.cells #[.int .i64 0, .int .i64 0, .int .i64 0, .int .i64 0, .int .i64 0, .bool false, .slice none 0 0, .int .i64 0, .int .i64 0, .int .i64 0, .slice none 0 0, .slice none 0 0, .slice none 0 0] 38)
          have N4 : Hid (BF gN #[.int .i64 0, .int .i64 0, .int .i64 0, .int .i64 0, .int .i64 0, .bool false, .slice none 0 0, .int .i64 0, .int .i64 0, .int .i64 0, .slice none 0 0, .slice none 0 0, .slice none 0 0] (v3.alloc (.cells #[.int .i64 0, .int .i64 0, .int .i64 0, .int .i64 0, .int .i64 0, .bool false, .slice none 0 0, .int .i64 0, .int .i64 0, .int .i64 0, .slice none 0 0, .slice none 0 0, .slice none 0 0] 38))) := by rw [hgN]; exact BF.new v3 #[.int .i64 0, .int .i64 0, .int .i64 0, .int .i64 0, .int .i64 0, .bool false, .slice none 0 0, .int .i64 0, .int .i64 0, .int .i64 0, .slice none 0 0, .slice none 0 0, .slice none 0 0] 38
          have L4 := hide ((unhide L3).below hb (unhide L3).le)
          have V4 := hide ((unhide V3).below hb (unhide V3).le)
          have M4 := hide ((unhide M3).below hb (unhide M3).le)
          have B4 := hide ((unhide B3).trans (hb.mono (unhide B3).size))
          have S4 := hide ((unhide S3).below hb)
          have R4 := hide ((unhide R3).below hb)
          clear hb B3 S3 R3 L3 V3 M3
          go_simp
          refine hK.out _ _ ?_ (fun hHeld16 => ?_)
          · exact (unhide S4).S
          clear hK K
          try simp only [Act.put, List.setIfInBounds_toArray, List.set_cons_zero, List.set_cons_succ]
          rw [← hgN]
          clear hgN
          generalize v3.alloc (.cells #[.int .i64 0, .int .i64 0, .int .i64 0, .int .i64 0, .int .i64 0, .bool false, .slice none 0 0, .int .i64 0, .int .i64 0, .int .i64 0, .slice none 0 0, .slice none 0 0, .slice none 0 0] 38) = v4 at B4 S4 R4 N4 L4 V4 M4 hHeld16 ⊢
          refine wpAnyH_ready (rs := [17]) (by kernel_rfl) (by simp) ?_
          refine AllReadyH.cons (o := { dst := none, op := .store 38 (.tmp 7) (.tmp 24), type := 0, pos := "l08_raft.go:6", after := #[{ on := 16, ground := .data }, { on := 15, ground := .data }, { on := 9, ground := .chain }, { on := 0, ground := .phase }, { on := 1, ground := .phase }, { on := 2, ground := .phase }, { on := 3, ground := .phase }, { on := 4, ground := .phase }, { on := 5, ground := .phase }, { on := 6, ground := .phase }, { on := 7, ground := .phase }, { on := 8, ground := .phase }, { on := 9, ground := .phase }, { on := 10, ground := .phase }, { on := 11, ground := .phase }, { on := 12, ground := .phase }, { on := 13, ground := .phase }, { on := 14, ground := .phase }, { on := 15, ground := .phase }, { on := 16, ground := .phase }], guard := none }) rfl (fun K hK => ?_) (AllReadyH.nil)
          have cp := (unhide N4).S
          have cf := (unhide N4).F
          have DI : gL ≠ gV ∧ gL ≠ gM ∧ gL ≠ gN ∧ gV ≠ gM ∧ gV ≠ gN ∧ gM ≠ gN ∧ w.heap.size + 1 < gL ∧ w.heap.size + 1 < gV ∧ w.heap.size + 1 < gM ∧ w.heap.size + 1 < gN := by have := unhide BSL; have := unhide BSV; have := unhide BSM; have := unhide BSN; have := unhide NELV; have := unhide NELM; have := unhide NELN; have := unhide NEVM; have := unhide NEVN; have := unhide NEMN; omega
          obtain ⟨vz, hvz, hFN⟩ := put13 v4 (unhide N4) (.int .i64 id) (.int .i64 (m : Int)) (.int .i64 0) (.int .i64 (-1)) (.int .i64 0) (.bool true) (.slice (some ⟨gL, 0, none⟩) 0 0) (.int .i64 0) (.int .i64 0) (.int .i64 (5 + id)) (.slice (some ⟨gV, 0, none⟩) 0 0) (.slice none 0 0) (.slice (some ⟨gM, 0, none⟩) m m)
          obtain ⟨hFN, hO⟩ := hFN
          go_simp
          rw [← hvz]
          refine hK.out _ _ ?_ (fun hHeld17 => ?_)
          · exact ((unhide S4).outs hO (by omega)).S
          clear hK K
          try simp only [Act.put, List.setIfInBounds_toArray, List.set_cons_zero, List.set_cons_succ]
          refine wpAnyH_done (by kernel_rfl) ?_ _
          exact ⟨gL, gV, gM, gN, rfl, hFN, (unhide L4).outs hO (by omega), (unhide V4).outs hO (by omega), (unhide M4).outs hO (by omega), (unhide R4).outs hO (by omega), Below.outs (unhide B4) (unhide B4).size hO (by omega), DI⟩
        · skip
          obtain ⟨gN, hgN⟩ : ∃ g, g = v2.heap.size := ⟨_, rfl⟩
          have NELN : Hid (gL < gN) := by show _ < _; rw [hgN]; exact (unhide L2).le
          have NEVN : Hid (gV < gN) := by show _ < _; rw [hgN]; exact (unhide V2).le
          have BSN : Hid (w.heap.size + 1 < gN) := by show _ < _; rw [hgN]; exact (unhide R2).lt
          have hb : Below v2.heap.size v2 (v2.alloc (.cells #[.int .i64 0, .int .i64 0, .int .i64 0, .int .i64 0, .int .i64 0, .bool false, .slice none 0 0, .int .i64 0, .int .i64 0, .int .i64 0, .slice none 0 0, .slice none 0 0, .slice none 0 0] 38)) := Go.Joins.below_alloc1 v2 (.cells #[.int .i64 0, .int .i64 0, .int .i64 0, .int .i64 0, .int .i64 0, .bool false, .slice none 0 0, .int .i64 0, .int .i64 0, .int .i64 0, .slice none 0 0, .slice none 0 0, .slice none 0 0] 38)
          have N3 : Hid (BF gN #[.int .i64 0, .int .i64 0, .int .i64 0, .int .i64 0, .int .i64 0, .bool false, .slice none 0 0, .int .i64 0, .int .i64 0, .int .i64 0, .slice none 0 0, .slice none 0 0, .slice none 0 0] (v2.alloc (.cells #[.int .i64 0, .int .i64 0, .int .i64 0, .int .i64 0, .int .i64 0, .bool false, .slice none 0 0, .int .i64 0, .int .i64 0, .int .i64 0, .slice none 0 0, .slice none 0 0, .slice none 0 0] 38))) := by rw [hgN]; exact BF.new v2 #[.int .i64 0, .int .i64 0, .int .i64 0, .int .i64 0, .int .i64 0, .bool false, .slice none 0 0, .int .i64 0, .int .i64 0, .int .i64 0, .slice none 0 0, .slice none 0 0, .slice none 0 0] 38
          have L3 := hide ((unhide L2).below hb (unhide L2).le)
          have V3 := hide ((unhide V2).below hb (unhide V2).le)
          have B3 := hide ((unhide B2).trans (hb.mono (unhide B2).size))
          have S3 := hide ((unhide S2).below hb)
          have R3 := hide ((unhide R2).below hb)
          clear hb B2 S2 R2 L2 V2
          go_simp
          refine hK.out _ _ ?_ (fun hHeld16 => ?_)
          · exact (unhide S3).S
          clear hK K
          try simp only [Act.put, List.setIfInBounds_toArray, List.set_cons_zero, List.set_cons_succ]
          rw [← hgN]
          clear hgN
          generalize v2.alloc (.cells #[.int .i64 0, .int .i64 0, .int .i64 0, .int .i64 0, .int .i64 0, .bool false, .slice none 0 0, .int .i64 0, .int .i64 0, .int .i64 0, .slice none 0 0, .slice none 0 0, .slice none 0 0] 38) = v3 at B3 S3 R3 N3 L3 V3 hHeld16 ⊢
          refine wpAnyH_ready (rs := [14]) (by kernel_rfl) (by simp) ?_
          refine AllReadyH.cons (o := { dst := some 23, op := .makeSlice 36 (.tmp 22) (.tmp 22), type := 36, pos := "l08_raft.go:6", after := #[{ on := 13, ground := .data }, { on := 13, ground := .data }], guard := none }) rfl (fun K hK => ?_) (AllReadyH.nil)
          obtain ⟨gM, hgM⟩ : ∃ g, g = v3.heap.size := ⟨_, rfl⟩
          have NELM : Hid (gL < gM) := by show _ < _; rw [hgM]; exact (unhide L3).le
          have NEVM : Hid (gV < gM) := by show _ < _; rw [hgM]; exact (unhide V3).le
          have NENM : Hid (gN < gM) := by show _ < _; rw [hgM]; exact (unhide N3).lt
          have BSM : Hid (w.heap.size + 1 < gM) := by show _ < _; rw [hgM]; exact (unhide R3).lt
          obtain ⟨v4, hrun, ho, hgr⟩ := run_make_full (P := Try.prog) (w := v3) v3.heap.size 36 3 i0 (.int .i64 0) 1 Try.underlying36 hi hz0 hz1 .i64 .i64 m (by rw [hz2]; omega) (by unfold maxLen; omega) (Nat.le_refl _)
          have hb : Below v3.heap.size v3 v4 := (Below.refl _ _).grown hgr (Nat.le_refl _) (fun k hk => by cases hk)
          rw [show (madeCells (Value.int .i64 0).cells (m * 1)).toList = cI (List.replicate m 0) from by rw [show (Value.int .i64 0).cells = #[.int .i64 0] from rfl, toList_madeCells_one]; simp [cI]] at ho
          have M4 : Hid (Held v4 gM (gM + 1) 3 (.slice (some ⟨gM, 0, none⟩) m m) m (cI (List.replicate m 0))) := by rw [hgM]; exact ⟨ho, (fun k hk => by have e : v3.heap.size = k := Option.some.inj hk; omega), (ho.lt v3.heap.size rfl).2⟩
          rw [← hgM] at hrun
          have L4 := hide ((unhide L3).below hb (unhide L3).le)
          have V4 := hide ((unhide V3).below hb (unhide V3).le)
          have N4 := hide ((unhide N3).below hb)
          have B4 := hide ((unhide B3).trans (hb.mono (unhide B3).size))
          have S4 := hide ((unhide S3).below hb)
          have R4 := hide ((unhide R3).below hb)
          clear hb B3 S3 R3 L3 V3 N3 ho hgr hgM
          go_simp
          refine hK.out _ _ ?_ (fun hHeld14 => ?_)
          · exact (unhide S4).S
          clear hK K
          try simp only [Act.put, List.setIfInBounds_toArray, List.set_cons_zero, List.set_cons_succ]
          clear hrun
          refine wpAnyH_take (i := 15) (oi := { dst := some 24, op := .build 38 #[(0, .tmp 9), (1, .tmp 10), (2, .tmp 12), (3, .tmp 14), (5, .const (.bool true)), (6, .tmp 18), (9, .tmp 20), (10, .tmp 21), (12, .tmp 23)], type := 38, pos := "l08_raft.go:6", after := #[{ on := 0, ground := .data }, { on := 1, ground := .data }, { on := 3, ground := .data }, { on := 5, ground := .data }, { on := 9, ground := .data }, { on := 11, ground := .data }, { on := 12, ground := .data }, { on := 14, ground := .data }], guard := none }) (v := ?_) rfl (by kernel_rfl) (by kernel_rfl) (by kernel_rfl) (fun _ _ _ h => h) (Or.inl ⟨by rfl, ?_⟩) (by assumption) ?_
          rotate_left 1
          · (intro w' hSw; (try dsimp only at hSw); go_simp; try with_reducible rfl)
          try simp only [Act.put, List.setIfInBounds_toArray, List.set_cons_zero, List.set_cons_succ]
          refine wpAnyH_ready (rs := [17]) (by kernel_rfl) (by simp) ?_
          refine AllReadyH.cons (o := { dst := none, op := .store 38 (.tmp 7) (.tmp 24), type := 0, pos := "l08_raft.go:6", after := #[{ on := 16, ground := .data }, { on := 15, ground := .data }, { on := 9, ground := .chain }, { on := 0, ground := .phase }, { on := 1, ground := .phase }, { on := 2, ground := .phase }, { on := 3, ground := .phase }, { on := 4, ground := .phase }, { on := 5, ground := .phase }, { on := 6, ground := .phase }, { on := 7, ground := .phase }, { on := 8, ground := .phase }, { on := 9, ground := .phase }, { on := 10, ground := .phase }, { on := 11, ground := .phase }, { on := 12, ground := .phase }, { on := 13, ground := .phase }, { on := 14, ground := .phase }, { on := 15, ground := .phase }, { on := 16, ground := .phase }], guard := none }) rfl (fun K hK => ?_) (AllReadyH.nil)
          have cp := (unhide N4).S
          have cf := (unhide N4).F
          have DI : gL ≠ gV ∧ gL ≠ gM ∧ gL ≠ gN ∧ gV ≠ gM ∧ gV ≠ gN ∧ gM ≠ gN ∧ w.heap.size + 1 < gL ∧ w.heap.size + 1 < gV ∧ w.heap.size + 1 < gM ∧ w.heap.size + 1 < gN := by have := unhide BSL; have := unhide BSV; have := unhide BSM; have := unhide BSN; have := unhide NELV; have := unhide NELN; have := unhide NELM; have := unhide NEVN; have := unhide NEVM; have := unhide NENM; omega
          obtain ⟨vz, hvz, hFN⟩ := put13 v4 (unhide N4) (.int .i64 id) (.int .i64 (m : Int)) (.int .i64 0) (.int .i64 (-1)) (.int .i64 0) (.bool true) (.slice (some ⟨gL, 0, none⟩) 0 0) (.int .i64 0) (.int .i64 0) (.int .i64 (5 + id)) (.slice (some ⟨gV, 0, none⟩) 0 0) (.slice none 0 0) (.slice (some ⟨gM, 0, none⟩) m m)
          obtain ⟨hFN, hO⟩ := hFN
          go_simp
          rw [← hvz]
          refine hK.out _ _ ?_ (fun hHeld17 => ?_)
          · exact ((unhide S4).outs hO (by omega)).S
          clear hK K
          try simp only [Act.put, List.setIfInBounds_toArray, List.set_cons_zero, List.set_cons_succ]
          refine wpAnyH_done (by kernel_rfl) ?_ _
          exact ⟨gL, gV, gM, gN, rfl, hFN, (unhide L4).outs hO (by omega), (unhide V4).outs hO (by omega), (unhide M4).outs hO (by omega), (unhide R4).outs hO (by omega), Below.outs (unhide B4) (unhide B4).size hO (by omega), DI⟩
      · skip
        obtain ⟨gM, hgM⟩ : ∃ g, g = v1.heap.size := ⟨_, rfl⟩
        have NELM : Hid (gL < gM) := by show _ < _; rw [hgM]; exact (unhide L1).le
        have BSM : Hid (w.heap.size + 1 < gM) := by show _ < _; rw [hgM]; exact (unhide R1).lt
        obtain ⟨v2, hrun, ho, hgr⟩ := run_make_full (P := Try.prog) (w := v1) v1.heap.size 36 3 i0 (.int .i64 0) 1 Try.underlying36 hi hz0 hz1 .i64 .i64 m (by rw [hz2]; omega) (by unfold maxLen; omega) (Nat.le_refl _)
        have hb : Below v1.heap.size v1 v2 := (Below.refl _ _).grown hgr (Nat.le_refl _) (fun k hk => by cases hk)
        rw [show (madeCells (Value.int .i64 0).cells (m * 1)).toList = cI (List.replicate m 0) from by rw [show (Value.int .i64 0).cells = #[.int .i64 0] from rfl, toList_madeCells_one]; simp [cI]] at ho
        have M2 : Hid (Held v2 gM (gM + 1) 3 (.slice (some ⟨gM, 0, none⟩) m m) m (cI (List.replicate m 0))) := by rw [hgM]; exact ⟨ho, (fun k hk => by have e : v1.heap.size = k := Option.some.inj hk; omega), (ho.lt v1.heap.size rfl).2⟩
        rw [← hgM] at hrun
        have L2 := hide ((unhide L1).below hb (unhide L1).le)
        have B2 := hide ((unhide B1).trans (hb.mono (unhide B1).size))
        have S2 := hide ((unhide S1).below hb)
        have R2 := hide ((unhide R1).below hb)
        clear hb B1 S1 R1 L1 ho hgr hgM
        go_simp
        refine hK.out _ _ ?_ (fun hHeld14 => ?_)
        · exact (unhide S2).S
        clear hK K
        try simp only [Act.put, List.setIfInBounds_toArray, List.set_cons_zero, List.set_cons_succ]
        clear hrun
        refine wpAnyH_ready (rs := [12, 16]) (by kernel_rfl) (by simp) ?_
        refine AllReadyH.cons (o := { dst := some 21, op := .buildSlice 36 0 #[], type := 36, pos := "l08_raft.go:6", after := #[], guard := none }) rfl (fun K hK => ?_) (AllReadyH.cons (o := { dst := some 7, op := .alloc 38, type := 0, pos := "l08_raft.go:6", after := #[], guard := none }) rfl (fun K hK => ?_) (AllReadyH.nil))
        · skip
          obtain ⟨gV, hgV⟩ : ∃ g, g = v2.heap.size := ⟨_, rfl⟩
          have NELV : Hid (gL < gV) := by show _ < _; rw [hgV]; exact (unhide L2).le
          have NEMV : Hid (gM < gV) := by show _ < _; rw [hgV]; exact (unhide M2).le
          have BSV : Hid (w.heap.size + 1 < gV) := by show _ < _; rw [hgV]; exact (unhide R2).lt
          have hb : Below v2.heap.size v2 (v2.alloc (.cells #[] 3)) := Go.Joins.below_alloc1 v2 (.cells #[] 3)
          have V3 : Hid (Held (v2.alloc (.cells #[] 3)) gV (gV + 1) 3 (.slice (some ⟨gV, 0, none⟩) 0 0) 0 []) := by rw [hgV]; exact ⟨World.ownsRow_lit (e := 3) (base := v2.heap.size) (size := 1) v2 #[] 0 (Nat.le_refl _) (by unfold maxLen; omega) rfl, (fun k hk => by have e : v2.heap.size = k := Option.some.inj hk; omega), by simp⟩
          have L3 := hide ((unhide L2).below hb (unhide L2).le)
          have M3 := hide ((unhide M2).below hb (unhide M2).le)
          have B3 := hide ((unhide B2).trans (hb.mono (unhide B2).size))
          have S3 := hide ((unhide S2).below hb)
          have R3 := hide ((unhide R2).below hb)
          clear hb B2 S2 R2 L2 M2
          go_simp
          refine hK.out _ _ ?_ (fun hHeld12 => ?_)
          · exact (unhide S3).S
          clear hK K
          try simp only [Act.put, List.setIfInBounds_toArray, List.set_cons_zero, List.set_cons_succ]
          rw [← hgV]
          clear hgV
          generalize v2.alloc (.cells #[] 3) = v3 at B3 S3 R3 V3 L3 M3 hHeld12 ⊢
          refine wpAnyH_take (i := 15) (oi := { dst := some 24, op := .build 38 #[(0, .tmp 9), (1, .tmp 10), (2, .tmp 12), (3, .tmp 14), (5, .const (.bool true)), (6, .tmp 18), (9, .tmp 20), (10, .tmp 21), (12, .tmp 23)], type := 38, pos := "l08_raft.go:6", after := #[{ on := 0, ground := .data }, { on := 1, ground := .data }, { on := 3, ground := .data }, { on := 5, ground := .data }, { on := 9, ground := .data }, { on := 11, ground := .data }, { on := 12, ground := .data }, { on := 14, ground := .data }], guard := none }) (v := ?_) rfl (by kernel_rfl) (by kernel_rfl) (by kernel_rfl) (fun _ _ _ h => h) (Or.inl ⟨by rfl, ?_⟩) (by assumption) ?_
          rotate_left 1
          · (intro w' hSw; (try dsimp only at hSw); go_simp; try with_reducible rfl)
          try simp only [Act.put, List.setIfInBounds_toArray, List.set_cons_zero, List.set_cons_succ]
          refine wpAnyH_ready (rs := [16]) (by kernel_rfl) (by simp) ?_
          refine AllReadyH.cons (o := { dst := some 7, op := .alloc 38, type := 0, pos := "l08_raft.go:6", after := #[], guard := none }) rfl (fun K hK => ?_) (AllReadyH.nil)
          obtain ⟨gN, hgN⟩ : ∃ g, g = v3.heap.size := ⟨_, rfl⟩
          have NELN : Hid (gL < gN) := by show _ < _; rw [hgN]; exact (unhide L3).le
          have NEMN : Hid (gM < gN) := by show _ < _; rw [hgN]; exact (unhide M3).le
          have NEVN : Hid (gV < gN) := by show _ < _; rw [hgN]; exact (unhide V3).le
          have BSN : Hid (w.heap.size + 1 < gN) := by show _ < _; rw [hgN]; exact (unhide R3).lt
          have hb : Below v3.heap.size v3 (v3.alloc (.cells #[.int .i64 0, .int .i64 0, .int .i64 0, .int .i64 0, .int .i64 0, .bool false, .slice none 0 0, .int .i64 0, .int .i64 0, .int .i64 0, .slice none 0 0, .slice none 0 0, .slice none 0 0] 38)) := Go.Joins.below_alloc1 v3 (.cells #[.int .i64 0, .int .i64 0, .int .i64 0, .int .i64 0, .int .i64 0, .bool false, .slice none 0 0, .int .i64 0, .int .i64 0, .int .i64 0, .slice none 0 0, .slice none 0 0, .slice none 0 0] 38)
          have N4 : Hid (BF gN #[.int .i64 0, .int .i64 0, .int .i64 0, .int .i64 0, .int .i64 0, .bool false, .slice none 0 0, .int .i64 0, .int .i64 0, .int .i64 0, .slice none 0 0, .slice none 0 0, .slice none 0 0] (v3.alloc (.cells #[.int .i64 0, .int .i64 0, .int .i64 0, .int .i64 0, .int .i64 0, .bool false, .slice none 0 0, .int .i64 0, .int .i64 0, .int .i64 0, .slice none 0 0, .slice none 0 0, .slice none 0 0] 38))) := by rw [hgN]; exact BF.new v3 #[.int .i64 0, .int .i64 0, .int .i64 0, .int .i64 0, .int .i64 0, .bool false, .slice none 0 0, .int .i64 0, .int .i64 0, .int .i64 0, .slice none 0 0, .slice none 0 0, .slice none 0 0] 38
          have L4 := hide ((unhide L3).below hb (unhide L3).le)
          have M4 := hide ((unhide M3).below hb (unhide M3).le)
          have V4 := hide ((unhide V3).below hb (unhide V3).le)
          have B4 := hide ((unhide B3).trans (hb.mono (unhide B3).size))
          have S4 := hide ((unhide S3).below hb)
          have R4 := hide ((unhide R3).below hb)
          clear hb B3 S3 R3 L3 M3 V3
          go_simp
          refine hK.out _ _ ?_ (fun hHeld16 => ?_)
          · exact (unhide S4).S
          clear hK K
          try simp only [Act.put, List.setIfInBounds_toArray, List.set_cons_zero, List.set_cons_succ]
          rw [← hgN]
          clear hgN
          generalize v3.alloc (.cells #[.int .i64 0, .int .i64 0, .int .i64 0, .int .i64 0, .int .i64 0, .bool false, .slice none 0 0, .int .i64 0, .int .i64 0, .int .i64 0, .slice none 0 0, .slice none 0 0, .slice none 0 0] 38) = v4 at B4 S4 R4 N4 L4 M4 V4 hHeld16 ⊢
          refine wpAnyH_ready (rs := [17]) (by kernel_rfl) (by simp) ?_
          refine AllReadyH.cons (o := { dst := none, op := .store 38 (.tmp 7) (.tmp 24), type := 0, pos := "l08_raft.go:6", after := #[{ on := 16, ground := .data }, { on := 15, ground := .data }, { on := 9, ground := .chain }, { on := 0, ground := .phase }, { on := 1, ground := .phase }, { on := 2, ground := .phase }, { on := 3, ground := .phase }, { on := 4, ground := .phase }, { on := 5, ground := .phase }, { on := 6, ground := .phase }, { on := 7, ground := .phase }, { on := 8, ground := .phase }, { on := 9, ground := .phase }, { on := 10, ground := .phase }, { on := 11, ground := .phase }, { on := 12, ground := .phase }, { on := 13, ground := .phase }, { on := 14, ground := .phase }, { on := 15, ground := .phase }, { on := 16, ground := .phase }], guard := none }) rfl (fun K hK => ?_) (AllReadyH.nil)
          have cp := (unhide N4).S
          have cf := (unhide N4).F
          have DI : gL ≠ gV ∧ gL ≠ gM ∧ gL ≠ gN ∧ gV ≠ gM ∧ gV ≠ gN ∧ gM ≠ gN ∧ w.heap.size + 1 < gL ∧ w.heap.size + 1 < gV ∧ w.heap.size + 1 < gM ∧ w.heap.size + 1 < gN := by have := unhide BSL; have := unhide BSV; have := unhide BSM; have := unhide BSN; have := unhide NELM; have := unhide NELV; have := unhide NELN; have := unhide NEMV; have := unhide NEMN; have := unhide NEVN; omega
          obtain ⟨vz, hvz, hFN⟩ := put13 v4 (unhide N4) (.int .i64 id) (.int .i64 (m : Int)) (.int .i64 0) (.int .i64 (-1)) (.int .i64 0) (.bool true) (.slice (some ⟨gL, 0, none⟩) 0 0) (.int .i64 0) (.int .i64 0) (.int .i64 (5 + id)) (.slice (some ⟨gV, 0, none⟩) 0 0) (.slice none 0 0) (.slice (some ⟨gM, 0, none⟩) m m)
          obtain ⟨hFN, hO⟩ := hFN
          go_simp
          rw [← hvz]
          refine hK.out _ _ ?_ (fun hHeld17 => ?_)
          · exact ((unhide S4).outs hO (by omega)).S
          clear hK K
          try simp only [Act.put, List.setIfInBounds_toArray, List.set_cons_zero, List.set_cons_succ]
          refine wpAnyH_done (by kernel_rfl) ?_ _
          exact ⟨gL, gV, gM, gN, rfl, hFN, (unhide L4).outs hO (by omega), (unhide V4).outs hO (by omega), (unhide M4).outs hO (by omega), (unhide R4).outs hO (by omega), Below.outs (unhide B4) (unhide B4).size hO (by omega), DI⟩
        · skip
          obtain ⟨gN, hgN⟩ : ∃ g, g = v2.heap.size := ⟨_, rfl⟩
          have NELN : Hid (gL < gN) := by show _ < _; rw [hgN]; exact (unhide L2).le
          have NEMN : Hid (gM < gN) := by show _ < _; rw [hgN]; exact (unhide M2).le
          have BSN : Hid (w.heap.size + 1 < gN) := by show _ < _; rw [hgN]; exact (unhide R2).lt
          have hb : Below v2.heap.size v2 (v2.alloc (.cells #[.int .i64 0, .int .i64 0, .int .i64 0, .int .i64 0, .int .i64 0, .bool false, .slice none 0 0, .int .i64 0, .int .i64 0, .int .i64 0, .slice none 0 0, .slice none 0 0, .slice none 0 0] 38)) := Go.Joins.below_alloc1 v2 (.cells #[.int .i64 0, .int .i64 0, .int .i64 0, .int .i64 0, .int .i64 0, .bool false, .slice none 0 0, .int .i64 0, .int .i64 0, .int .i64 0, .slice none 0 0, .slice none 0 0, .slice none 0 0] 38)
          have N3 : Hid (BF gN #[.int .i64 0, .int .i64 0, .int .i64 0, .int .i64 0, .int .i64 0, .bool false, .slice none 0 0, .int .i64 0, .int .i64 0, .int .i64 0, .slice none 0 0, .slice none 0 0, .slice none 0 0] (v2.alloc (.cells #[.int .i64 0, .int .i64 0, .int .i64 0, .int .i64 0, .int .i64 0, .bool false, .slice none 0 0, .int .i64 0, .int .i64 0, .int .i64 0, .slice none 0 0, .slice none 0 0, .slice none 0 0] 38))) := by rw [hgN]; exact BF.new v2 #[.int .i64 0, .int .i64 0, .int .i64 0, .int .i64 0, .int .i64 0, .bool false, .slice none 0 0, .int .i64 0, .int .i64 0, .int .i64 0, .slice none 0 0, .slice none 0 0, .slice none 0 0] 38
          have L3 := hide ((unhide L2).below hb (unhide L2).le)
          have M3 := hide ((unhide M2).below hb (unhide M2).le)
          have B3 := hide ((unhide B2).trans (hb.mono (unhide B2).size))
          have S3 := hide ((unhide S2).below hb)
          have R3 := hide ((unhide R2).below hb)
          clear hb B2 S2 R2 L2 M2
          go_simp
          refine hK.out _ _ ?_ (fun hHeld16 => ?_)
          · exact (unhide S3).S
          clear hK K
          try simp only [Act.put, List.setIfInBounds_toArray, List.set_cons_zero, List.set_cons_succ]
          rw [← hgN]
          clear hgN
          generalize v2.alloc (.cells #[.int .i64 0, .int .i64 0, .int .i64 0, .int .i64 0, .int .i64 0, .bool false, .slice none 0 0, .int .i64 0, .int .i64 0, .int .i64 0, .slice none 0 0, .slice none 0 0, .slice none 0 0] 38) = v3 at B3 S3 R3 N3 L3 M3 hHeld16 ⊢
          refine wpAnyH_ready (rs := [12]) (by kernel_rfl) (by simp) ?_
          refine AllReadyH.cons (o := { dst := some 21, op := .buildSlice 36 0 #[], type := 36, pos := "l08_raft.go:6", after := #[], guard := none }) rfl (fun K hK => ?_) (AllReadyH.nil)
          obtain ⟨gV, hgV⟩ : ∃ g, g = v3.heap.size := ⟨_, rfl⟩
          have NELV : Hid (gL < gV) := by show _ < _; rw [hgV]; exact (unhide L3).le
          have NEMV : Hid (gM < gV) := by show _ < _; rw [hgV]; exact (unhide M3).le
          have NENV : Hid (gN < gV) := by show _ < _; rw [hgV]; exact (unhide N3).lt
          have BSV : Hid (w.heap.size + 1 < gV) := by show _ < _; rw [hgV]; exact (unhide R3).lt
          have hb : Below v3.heap.size v3 (v3.alloc (.cells #[] 3)) := Go.Joins.below_alloc1 v3 (.cells #[] 3)
          have V4 : Hid (Held (v3.alloc (.cells #[] 3)) gV (gV + 1) 3 (.slice (some ⟨gV, 0, none⟩) 0 0) 0 []) := by rw [hgV]; exact ⟨World.ownsRow_lit (e := 3) (base := v3.heap.size) (size := 1) v3 #[] 0 (Nat.le_refl _) (by unfold maxLen; omega) rfl, (fun k hk => by have e : v3.heap.size = k := Option.some.inj hk; omega), by simp⟩
          have L4 := hide ((unhide L3).below hb (unhide L3).le)
          have M4 := hide ((unhide M3).below hb (unhide M3).le)
          have N4 := hide ((unhide N3).below hb)
          have B4 := hide ((unhide B3).trans (hb.mono (unhide B3).size))
          have S4 := hide ((unhide S3).below hb)
          have R4 := hide ((unhide R3).below hb)
          clear hb B3 S3 R3 L3 M3 N3
          go_simp
          refine hK.out _ _ ?_ (fun hHeld12 => ?_)
          · exact (unhide S4).S
          clear hK K
          try simp only [Act.put, List.setIfInBounds_toArray, List.set_cons_zero, List.set_cons_succ]
          rw [← hgV]
          clear hgV
          generalize v3.alloc (.cells #[] 3) = v4 at B4 S4 R4 V4 L4 M4 N4 hHeld12 ⊢
          refine wpAnyH_take (i := 15) (oi := { dst := some 24, op := .build 38 #[(0, .tmp 9), (1, .tmp 10), (2, .tmp 12), (3, .tmp 14), (5, .const (.bool true)), (6, .tmp 18), (9, .tmp 20), (10, .tmp 21), (12, .tmp 23)], type := 38, pos := "l08_raft.go:6", after := #[{ on := 0, ground := .data }, { on := 1, ground := .data }, { on := 3, ground := .data }, { on := 5, ground := .data }, { on := 9, ground := .data }, { on := 11, ground := .data }, { on := 12, ground := .data }, { on := 14, ground := .data }], guard := none }) (v := ?_) rfl (by kernel_rfl) (by kernel_rfl) (by kernel_rfl) (fun _ _ _ h => h) (Or.inl ⟨by rfl, ?_⟩) (by assumption) ?_
          rotate_left 1
          · (intro w' hSw; (try dsimp only at hSw); go_simp; try with_reducible rfl)
          try simp only [Act.put, List.setIfInBounds_toArray, List.set_cons_zero, List.set_cons_succ]
          refine wpAnyH_ready (rs := [17]) (by kernel_rfl) (by simp) ?_
          refine AllReadyH.cons (o := { dst := none, op := .store 38 (.tmp 7) (.tmp 24), type := 0, pos := "l08_raft.go:6", after := #[{ on := 16, ground := .data }, { on := 15, ground := .data }, { on := 9, ground := .chain }, { on := 0, ground := .phase }, { on := 1, ground := .phase }, { on := 2, ground := .phase }, { on := 3, ground := .phase }, { on := 4, ground := .phase }, { on := 5, ground := .phase }, { on := 6, ground := .phase }, { on := 7, ground := .phase }, { on := 8, ground := .phase }, { on := 9, ground := .phase }, { on := 10, ground := .phase }, { on := 11, ground := .phase }, { on := 12, ground := .phase }, { on := 13, ground := .phase }, { on := 14, ground := .phase }, { on := 15, ground := .phase }, { on := 16, ground := .phase }], guard := none }) rfl (fun K hK => ?_) (AllReadyH.nil)
          have cp := (unhide N4).S
          have cf := (unhide N4).F
          have DI : gL ≠ gV ∧ gL ≠ gM ∧ gL ≠ gN ∧ gV ≠ gM ∧ gV ≠ gN ∧ gM ≠ gN ∧ w.heap.size + 1 < gL ∧ w.heap.size + 1 < gV ∧ w.heap.size + 1 < gM ∧ w.heap.size + 1 < gN := by have := unhide BSL; have := unhide BSV; have := unhide BSM; have := unhide BSN; have := unhide NELM; have := unhide NELN; have := unhide NELV; have := unhide NEMN; have := unhide NEMV; have := unhide NENV; omega
          obtain ⟨vz, hvz, hFN⟩ := put13 v4 (unhide N4) (.int .i64 id) (.int .i64 (m : Int)) (.int .i64 0) (.int .i64 (-1)) (.int .i64 0) (.bool true) (.slice (some ⟨gL, 0, none⟩) 0 0) (.int .i64 0) (.int .i64 0) (.int .i64 (5 + id)) (.slice (some ⟨gV, 0, none⟩) 0 0) (.slice none 0 0) (.slice (some ⟨gM, 0, none⟩) m m)
          obtain ⟨hFN, hO⟩ := hFN
          go_simp
          rw [← hvz]
          refine hK.out _ _ ?_ (fun hHeld17 => ?_)
          · exact ((unhide S4).outs hO (by omega)).S
          clear hK K
          try simp only [Act.put, List.setIfInBounds_toArray, List.set_cons_zero, List.set_cons_succ]
          refine wpAnyH_done (by kernel_rfl) ?_ _
          exact ⟨gL, gV, gM, gN, rfl, hFN, (unhide L4).outs hO (by omega), (unhide V4).outs hO (by omega), (unhide M4).outs hO (by omega), (unhide R4).outs hO (by omega), Below.outs (unhide B4) (unhide B4).size hO (by omega), DI⟩
      · skip
        obtain ⟨gN, hgN⟩ : ∃ g, g = v1.heap.size := ⟨_, rfl⟩
        have NELN : Hid (gL < gN) := by show _ < _; rw [hgN]; exact (unhide L1).le
        have BSN : Hid (w.heap.size + 1 < gN) := by show _ < _; rw [hgN]; exact (unhide R1).lt
        have hb : Below v1.heap.size v1 (v1.alloc (.cells #[.int .i64 0, .int .i64 0, .int .i64 0, .int .i64 0, .int .i64 0, .bool false, .slice none 0 0, .int .i64 0, .int .i64 0, .int .i64 0, .slice none 0 0, .slice none 0 0, .slice none 0 0] 38)) := Go.Joins.below_alloc1 v1 (.cells #[.int .i64 0, .int .i64 0, .int .i64 0, .int .i64 0, .int .i64 0, .bool false, .slice none 0 0, .int .i64 0, .int .i64 0, .int .i64 0, .slice none 0 0, .slice none 0 0, .slice none 0 0] 38)
        have N2 : Hid (BF gN #[.int .i64 0, .int .i64 0, .int .i64 0, .int .i64 0, .int .i64 0, .bool false, .slice none 0 0, .int .i64 0, .int .i64 0, .int .i64 0, .slice none 0 0, .slice none 0 0, .slice none 0 0] (v1.alloc (.cells #[.int .i64 0, .int .i64 0, .int .i64 0, .int .i64 0, .int .i64 0, .bool false, .slice none 0 0, .int .i64 0, .int .i64 0, .int .i64 0, .slice none 0 0, .slice none 0 0, .slice none 0 0] 38))) := by rw [hgN]; exact BF.new v1 #[.int .i64 0, .int .i64 0, .int .i64 0, .int .i64 0, .int .i64 0, .bool false, .slice none 0 0, .int .i64 0, .int .i64 0, .int .i64 0, .slice none 0 0, .slice none 0 0, .slice none 0 0] 38
        have L2 := hide ((unhide L1).below hb (unhide L1).le)
        have B2 := hide ((unhide B1).trans (hb.mono (unhide B1).size))
        have S2 := hide ((unhide S1).below hb)
        have R2 := hide ((unhide R1).below hb)
        clear hb B1 S1 R1 L1
        go_simp
        refine hK.out _ _ ?_ (fun hHeld16 => ?_)
        · exact (unhide S2).S
        clear hK K
        try simp only [Act.put, List.setIfInBounds_toArray, List.set_cons_zero, List.set_cons_succ]
        rw [← hgN]
        clear hgN
        generalize v1.alloc (.cells #[.int .i64 0, .int .i64 0, .int .i64 0, .int .i64 0, .int .i64 0, .bool false, .slice none 0 0, .int .i64 0, .int .i64 0, .int .i64 0, .slice none 0 0, .slice none 0 0, .slice none 0 0] 38) = v2 at B2 S2 R2 N2 L2 hHeld16 ⊢
        refine wpAnyH_ready (rs := [12, 14]) (by kernel_rfl) (by simp) ?_
        refine AllReadyH.cons (o := { dst := some 21, op := .buildSlice 36 0 #[], type := 36, pos := "l08_raft.go:6", after := #[], guard := none }) rfl (fun K hK => ?_) (AllReadyH.cons (o := { dst := some 23, op := .makeSlice 36 (.tmp 22) (.tmp 22), type := 36, pos := "l08_raft.go:6", after := #[{ on := 13, ground := .data }, { on := 13, ground := .data }], guard := none }) rfl (fun K hK => ?_) (AllReadyH.nil))
        · skip
          obtain ⟨gV, hgV⟩ : ∃ g, g = v2.heap.size := ⟨_, rfl⟩
          have NELV : Hid (gL < gV) := by show _ < _; rw [hgV]; exact (unhide L2).le
          have NENV : Hid (gN < gV) := by show _ < _; rw [hgV]; exact (unhide N2).lt
          have BSV : Hid (w.heap.size + 1 < gV) := by show _ < _; rw [hgV]; exact (unhide R2).lt
          have hb : Below v2.heap.size v2 (v2.alloc (.cells #[] 3)) := Go.Joins.below_alloc1 v2 (.cells #[] 3)
          have V3 : Hid (Held (v2.alloc (.cells #[] 3)) gV (gV + 1) 3 (.slice (some ⟨gV, 0, none⟩) 0 0) 0 []) := by rw [hgV]; exact ⟨World.ownsRow_lit (e := 3) (base := v2.heap.size) (size := 1) v2 #[] 0 (Nat.le_refl _) (by unfold maxLen; omega) rfl, (fun k hk => by have e : v2.heap.size = k := Option.some.inj hk; omega), by simp⟩
          have L3 := hide ((unhide L2).below hb (unhide L2).le)
          have N3 := hide ((unhide N2).below hb)
          have B3 := hide ((unhide B2).trans (hb.mono (unhide B2).size))
          have S3 := hide ((unhide S2).below hb)
          have R3 := hide ((unhide R2).below hb)
          clear hb B2 S2 R2 L2 N2
          go_simp
          refine hK.out _ _ ?_ (fun hHeld12 => ?_)
          · exact (unhide S3).S
          clear hK K
          try simp only [Act.put, List.setIfInBounds_toArray, List.set_cons_zero, List.set_cons_succ]
          rw [← hgV]
          clear hgV
          generalize v2.alloc (.cells #[] 3) = v3 at B3 S3 R3 V3 L3 N3 hHeld12 ⊢
          refine wpAnyH_ready (rs := [14]) (by kernel_rfl) (by simp) ?_
          refine AllReadyH.cons (o := { dst := some 23, op := .makeSlice 36 (.tmp 22) (.tmp 22), type := 36, pos := "l08_raft.go:6", after := #[{ on := 13, ground := .data }, { on := 13, ground := .data }], guard := none }) rfl (fun K hK => ?_) (AllReadyH.nil)
          obtain ⟨gM, hgM⟩ : ∃ g, g = v3.heap.size := ⟨_, rfl⟩
          have NELM : Hid (gL < gM) := by show _ < _; rw [hgM]; exact (unhide L3).le
          have NENM : Hid (gN < gM) := by show _ < _; rw [hgM]; exact (unhide N3).lt
          have NEVM : Hid (gV < gM) := by show _ < _; rw [hgM]; exact (unhide V3).le
          have BSM : Hid (w.heap.size + 1 < gM) := by show _ < _; rw [hgM]; exact (unhide R3).lt
          obtain ⟨v4, hrun, ho, hgr⟩ := run_make_full (P := Try.prog) (w := v3) v3.heap.size 36 3 i0 (.int .i64 0) 1 Try.underlying36 hi hz0 hz1 .i64 .i64 m (by rw [hz2]; omega) (by unfold maxLen; omega) (Nat.le_refl _)
          have hb : Below v3.heap.size v3 v4 := (Below.refl _ _).grown hgr (Nat.le_refl _) (fun k hk => by cases hk)
          rw [show (madeCells (Value.int .i64 0).cells (m * 1)).toList = cI (List.replicate m 0) from by rw [show (Value.int .i64 0).cells = #[.int .i64 0] from rfl, toList_madeCells_one]; simp [cI]] at ho
          have M4 : Hid (Held v4 gM (gM + 1) 3 (.slice (some ⟨gM, 0, none⟩) m m) m (cI (List.replicate m 0))) := by rw [hgM]; exact ⟨ho, (fun k hk => by have e : v3.heap.size = k := Option.some.inj hk; omega), (ho.lt v3.heap.size rfl).2⟩
          rw [← hgM] at hrun
          have L4 := hide ((unhide L3).below hb (unhide L3).le)
          have N4 := hide ((unhide N3).below hb)
          have V4 := hide ((unhide V3).below hb (unhide V3).le)
          have B4 := hide ((unhide B3).trans (hb.mono (unhide B3).size))
          have S4 := hide ((unhide S3).below hb)
          have R4 := hide ((unhide R3).below hb)
          clear hb B3 S3 R3 L3 N3 V3 ho hgr hgM
          go_simp
          refine hK.out _ _ ?_ (fun hHeld14 => ?_)
          · exact (unhide S4).S
          clear hK K
          try simp only [Act.put, List.setIfInBounds_toArray, List.set_cons_zero, List.set_cons_succ]
          clear hrun
          refine wpAnyH_take (i := 15) (oi := { dst := some 24, op := .build 38 #[(0, .tmp 9), (1, .tmp 10), (2, .tmp 12), (3, .tmp 14), (5, .const (.bool true)), (6, .tmp 18), (9, .tmp 20), (10, .tmp 21), (12, .tmp 23)], type := 38, pos := "l08_raft.go:6", after := #[{ on := 0, ground := .data }, { on := 1, ground := .data }, { on := 3, ground := .data }, { on := 5, ground := .data }, { on := 9, ground := .data }, { on := 11, ground := .data }, { on := 12, ground := .data }, { on := 14, ground := .data }], guard := none }) (v := ?_) rfl (by kernel_rfl) (by kernel_rfl) (by kernel_rfl) (fun _ _ _ h => h) (Or.inl ⟨by rfl, ?_⟩) (by assumption) ?_
          rotate_left 1
          · (intro w' hSw; (try dsimp only at hSw); go_simp; try with_reducible rfl)
          try simp only [Act.put, List.setIfInBounds_toArray, List.set_cons_zero, List.set_cons_succ]
          refine wpAnyH_ready (rs := [17]) (by kernel_rfl) (by simp) ?_
          refine AllReadyH.cons (o := { dst := none, op := .store 38 (.tmp 7) (.tmp 24), type := 0, pos := "l08_raft.go:6", after := #[{ on := 16, ground := .data }, { on := 15, ground := .data }, { on := 9, ground := .chain }, { on := 0, ground := .phase }, { on := 1, ground := .phase }, { on := 2, ground := .phase }, { on := 3, ground := .phase }, { on := 4, ground := .phase }, { on := 5, ground := .phase }, { on := 6, ground := .phase }, { on := 7, ground := .phase }, { on := 8, ground := .phase }, { on := 9, ground := .phase }, { on := 10, ground := .phase }, { on := 11, ground := .phase }, { on := 12, ground := .phase }, { on := 13, ground := .phase }, { on := 14, ground := .phase }, { on := 15, ground := .phase }, { on := 16, ground := .phase }], guard := none }) rfl (fun K hK => ?_) (AllReadyH.nil)
          have cp := (unhide N4).S
          have cf := (unhide N4).F
          have DI : gL ≠ gV ∧ gL ≠ gM ∧ gL ≠ gN ∧ gV ≠ gM ∧ gV ≠ gN ∧ gM ≠ gN ∧ w.heap.size + 1 < gL ∧ w.heap.size + 1 < gV ∧ w.heap.size + 1 < gM ∧ w.heap.size + 1 < gN := by have := unhide BSL; have := unhide BSV; have := unhide BSM; have := unhide BSN; have := unhide NELN; have := unhide NELV; have := unhide NELM; have := unhide NENV; have := unhide NENM; have := unhide NEVM; omega
          obtain ⟨vz, hvz, hFN⟩ := put13 v4 (unhide N4) (.int .i64 id) (.int .i64 (m : Int)) (.int .i64 0) (.int .i64 (-1)) (.int .i64 0) (.bool true) (.slice (some ⟨gL, 0, none⟩) 0 0) (.int .i64 0) (.int .i64 0) (.int .i64 (5 + id)) (.slice (some ⟨gV, 0, none⟩) 0 0) (.slice none 0 0) (.slice (some ⟨gM, 0, none⟩) m m)
          obtain ⟨hFN, hO⟩ := hFN
          go_simp
          rw [← hvz]
          refine hK.out _ _ ?_ (fun hHeld17 => ?_)
          · exact ((unhide S4).outs hO (by omega)).S
          clear hK K
          try simp only [Act.put, List.setIfInBounds_toArray, List.set_cons_zero, List.set_cons_succ]
          refine wpAnyH_done (by kernel_rfl) ?_ _
          exact ⟨gL, gV, gM, gN, rfl, hFN, (unhide L4).outs hO (by omega), (unhide V4).outs hO (by omega), (unhide M4).outs hO (by omega), (unhide R4).outs hO (by omega), Below.outs (unhide B4) (unhide B4).size hO (by omega), DI⟩
        · skip
          obtain ⟨gM, hgM⟩ : ∃ g, g = v2.heap.size := ⟨_, rfl⟩
          have NELM : Hid (gL < gM) := by show _ < _; rw [hgM]; exact (unhide L2).le
          have NENM : Hid (gN < gM) := by show _ < _; rw [hgM]; exact (unhide N2).lt
          have BSM : Hid (w.heap.size + 1 < gM) := by show _ < _; rw [hgM]; exact (unhide R2).lt
          obtain ⟨v3, hrun, ho, hgr⟩ := run_make_full (P := Try.prog) (w := v2) v2.heap.size 36 3 i0 (.int .i64 0) 1 Try.underlying36 hi hz0 hz1 .i64 .i64 m (by rw [hz2]; omega) (by unfold maxLen; omega) (Nat.le_refl _)
          have hb : Below v2.heap.size v2 v3 := (Below.refl _ _).grown hgr (Nat.le_refl _) (fun k hk => by cases hk)
          rw [show (madeCells (Value.int .i64 0).cells (m * 1)).toList = cI (List.replicate m 0) from by rw [show (Value.int .i64 0).cells = #[.int .i64 0] from rfl, toList_madeCells_one]; simp [cI]] at ho
          have M3 : Hid (Held v3 gM (gM + 1) 3 (.slice (some ⟨gM, 0, none⟩) m m) m (cI (List.replicate m 0))) := by rw [hgM]; exact ⟨ho, (fun k hk => by have e : v2.heap.size = k := Option.some.inj hk; omega), (ho.lt v2.heap.size rfl).2⟩
          rw [← hgM] at hrun
          have L3 := hide ((unhide L2).below hb (unhide L2).le)
          have N3 := hide ((unhide N2).below hb)
          have B3 := hide ((unhide B2).trans (hb.mono (unhide B2).size))
          have S3 := hide ((unhide S2).below hb)
          have R3 := hide ((unhide R2).below hb)
          clear hb B2 S2 R2 L2 N2 ho hgr hgM
          go_simp
          refine hK.out _ _ ?_ (fun hHeld14 => ?_)
          · exact (unhide S3).S
          clear hK K
          try simp only [Act.put, List.setIfInBounds_toArray, List.set_cons_zero, List.set_cons_succ]
          clear hrun
          refine wpAnyH_ready (rs := [12]) (by kernel_rfl) (by simp) ?_
          refine AllReadyH.cons (o := { dst := some 21, op := .buildSlice 36 0 #[], type := 36, pos := "l08_raft.go:6", after := #[], guard := none }) rfl (fun K hK => ?_) (AllReadyH.nil)
          obtain ⟨gV, hgV⟩ : ∃ g, g = v3.heap.size := ⟨_, rfl⟩
          have NELV : Hid (gL < gV) := by show _ < _; rw [hgV]; exact (unhide L3).le
          have NENV : Hid (gN < gV) := by show _ < _; rw [hgV]; exact (unhide N3).lt
          have NEMV : Hid (gM < gV) := by show _ < _; rw [hgV]; exact (unhide M3).le
          have BSV : Hid (w.heap.size + 1 < gV) := by show _ < _; rw [hgV]; exact (unhide R3).lt
          have hb : Below v3.heap.size v3 (v3.alloc (.cells #[] 3)) := Go.Joins.below_alloc1 v3 (.cells #[] 3)
          have V4 : Hid (Held (v3.alloc (.cells #[] 3)) gV (gV + 1) 3 (.slice (some ⟨gV, 0, none⟩) 0 0) 0 []) := by rw [hgV]; exact ⟨World.ownsRow_lit (e := 3) (base := v3.heap.size) (size := 1) v3 #[] 0 (Nat.le_refl _) (by unfold maxLen; omega) rfl, (fun k hk => by have e : v3.heap.size = k := Option.some.inj hk; omega), by simp⟩
          have L4 := hide ((unhide L3).below hb (unhide L3).le)
          have N4 := hide ((unhide N3).below hb)
          have M4 := hide ((unhide M3).below hb (unhide M3).le)
          have B4 := hide ((unhide B3).trans (hb.mono (unhide B3).size))
          have S4 := hide ((unhide S3).below hb)
          have R4 := hide ((unhide R3).below hb)
          clear hb B3 S3 R3 L3 N3 M3
          go_simp
          refine hK.out _ _ ?_ (fun hHeld12 => ?_)
          · exact (unhide S4).S
          clear hK K
          try simp only [Act.put, List.setIfInBounds_toArray, List.set_cons_zero, List.set_cons_succ]
          rw [← hgV]
          clear hgV
          generalize v3.alloc (.cells #[] 3) = v4 at B4 S4 R4 V4 L4 N4 M4 hHeld12 ⊢
          refine wpAnyH_take (i := 15) (oi := { dst := some 24, op := .build 38 #[(0, .tmp 9), (1, .tmp 10), (2, .tmp 12), (3, .tmp 14), (5, .const (.bool true)), (6, .tmp 18), (9, .tmp 20), (10, .tmp 21), (12, .tmp 23)], type := 38, pos := "l08_raft.go:6", after := #[{ on := 0, ground := .data }, { on := 1, ground := .data }, { on := 3, ground := .data }, { on := 5, ground := .data }, { on := 9, ground := .data }, { on := 11, ground := .data }, { on := 12, ground := .data }, { on := 14, ground := .data }], guard := none }) (v := ?_) rfl (by kernel_rfl) (by kernel_rfl) (by kernel_rfl) (fun _ _ _ h => h) (Or.inl ⟨by rfl, ?_⟩) (by assumption) ?_
          rotate_left 1
          · (intro w' hSw; (try dsimp only at hSw); go_simp; try with_reducible rfl)
          try simp only [Act.put, List.setIfInBounds_toArray, List.set_cons_zero, List.set_cons_succ]
          refine wpAnyH_ready (rs := [17]) (by kernel_rfl) (by simp) ?_
          refine AllReadyH.cons (o := { dst := none, op := .store 38 (.tmp 7) (.tmp 24), type := 0, pos := "l08_raft.go:6", after := #[{ on := 16, ground := .data }, { on := 15, ground := .data }, { on := 9, ground := .chain }, { on := 0, ground := .phase }, { on := 1, ground := .phase }, { on := 2, ground := .phase }, { on := 3, ground := .phase }, { on := 4, ground := .phase }, { on := 5, ground := .phase }, { on := 6, ground := .phase }, { on := 7, ground := .phase }, { on := 8, ground := .phase }, { on := 9, ground := .phase }, { on := 10, ground := .phase }, { on := 11, ground := .phase }, { on := 12, ground := .phase }, { on := 13, ground := .phase }, { on := 14, ground := .phase }, { on := 15, ground := .phase }, { on := 16, ground := .phase }], guard := none }) rfl (fun K hK => ?_) (AllReadyH.nil)
          have cp := (unhide N4).S
          have cf := (unhide N4).F
          have DI : gL ≠ gV ∧ gL ≠ gM ∧ gL ≠ gN ∧ gV ≠ gM ∧ gV ≠ gN ∧ gM ≠ gN ∧ w.heap.size + 1 < gL ∧ w.heap.size + 1 < gV ∧ w.heap.size + 1 < gM ∧ w.heap.size + 1 < gN := by have := unhide BSL; have := unhide BSV; have := unhide BSM; have := unhide BSN; have := unhide NELN; have := unhide NELM; have := unhide NELV; have := unhide NENM; have := unhide NENV; have := unhide NEMV; omega
          obtain ⟨vz, hvz, hFN⟩ := put13 v4 (unhide N4) (.int .i64 id) (.int .i64 (m : Int)) (.int .i64 0) (.int .i64 (-1)) (.int .i64 0) (.bool true) (.slice (some ⟨gL, 0, none⟩) 0 0) (.int .i64 0) (.int .i64 0) (.int .i64 (5 + id)) (.slice (some ⟨gV, 0, none⟩) 0 0) (.slice none 0 0) (.slice (some ⟨gM, 0, none⟩) m m)
          obtain ⟨hFN, hO⟩ := hFN
          go_simp
          rw [← hvz]
          refine hK.out _ _ ?_ (fun hHeld17 => ?_)
          · exact ((unhide S4).outs hO (by omega)).S
          clear hK K
          try simp only [Act.put, List.setIfInBounds_toArray, List.set_cons_zero, List.set_cons_succ]
          refine wpAnyH_done (by kernel_rfl) ?_ _
          exact ⟨gL, gV, gM, gN, rfl, hFN, (unhide L4).outs hO (by omega), (unhide V4).outs hO (by omega), (unhide M4).outs hO (by omega), (unhide R4).outs hO (by omega), Below.outs (unhide B4) (unhide B4).size hO (by omega), DI⟩
    · skip
      obtain ⟨gV, hgV⟩ : ∃ g, g = v0.heap.size := ⟨_, rfl⟩
      have BSV : Hid (w.heap.size + 1 < gV) := by show _ < _; rw [hgV]; exact (unhide R0).lt
      have hb : Below v0.heap.size v0 (v0.alloc (.cells #[] 3)) := Go.Joins.below_alloc1 v0 (.cells #[] 3)
      have V1 : Hid (Held (v0.alloc (.cells #[] 3)) gV (gV + 1) 3 (.slice (some ⟨gV, 0, none⟩) 0 0) 0 []) := by rw [hgV]; exact ⟨World.ownsRow_lit (e := 3) (base := v0.heap.size) (size := 1) v0 #[] 0 (Nat.le_refl _) (by unfold maxLen; omega) rfl, (fun k hk => by have e : v0.heap.size = k := Option.some.inj hk; omega), by simp⟩
      have B1 := hide ((unhide B0).trans (hb.mono (unhide B0).size))
      have S1 := hide ((unhide S0).below hb)
      have R1 := hide ((unhide R0).below hb)
      clear hb B0 S0 R0 
      go_simp
      refine hK.out _ _ ?_ (fun hHeld12 => ?_)
      · exact (unhide S1).S
      clear hK K
      try simp only [Act.put, List.setIfInBounds_toArray, List.set_cons_zero, List.set_cons_succ]
      rw [← hgV]
      clear hgV
      generalize v0.alloc (.cells #[] 3) = v1 at B1 S1 R1 V1  hHeld12 ⊢
      refine wpAnyH_ready (rs := [6, 14, 16]) (by kernel_rfl) (by simp) ?_
      refine AllReadyH.cons (o := { dst := some 15, op := .buildSlice 35 0 #[], type := 35, pos := "l08_raft.go:6", after := #[], guard := none }) rfl (fun K hK => ?_) (AllReadyH.cons (o := { dst := some 23, op := .makeSlice 36 (.tmp 22) (.tmp 22), type := 36, pos := "l08_raft.go:6", after := #[{ on := 13, ground := .data }, { on := 13, ground := .data }], guard := none }) rfl (fun K hK => ?_) (AllReadyH.cons (o := { dst := some 7, op := .alloc 38, type := 0, pos := "l08_raft.go:6", after := #[], guard := none }) rfl (fun K hK => ?_) (AllReadyH.nil)))
      · skip
        obtain ⟨gL, hgL⟩ : ∃ g, g = v1.heap.size := ⟨_, rfl⟩
        have NEVL : Hid (gV < gL) := by show _ < _; rw [hgL]; exact (unhide V1).le
        have BSL : Hid (w.heap.size + 1 < gL) := by show _ < _; rw [hgL]; exact (unhide R1).lt
        have hb : Below v1.heap.size v1 (v1.alloc (.cells #[] 67)) := Go.Joins.below_alloc1 v1 (.cells #[] 67)
        have L2 : Hid (HeldZ 2 (v1.alloc (.cells #[] 67)) gL (gL + 1) 67 (.slice (some ⟨gL, 0, none⟩) 0 0) 0 []) := by rw [hgL]; exact ⟨World.ownsRow_lit (e := 67) (base := v1.heap.size) (size := 2) v1 #[] 0 (Nat.le_refl _) (by unfold maxLen; omega) rfl, (fun k hk => by have e : v1.heap.size = k := Option.some.inj hk; omega), by simp⟩
        have V2 := hide ((unhide V1).below hb (unhide V1).le)
        have B2 := hide ((unhide B1).trans (hb.mono (unhide B1).size))
        have S2 := hide ((unhide S1).below hb)
        have R2 := hide ((unhide R1).below hb)
        clear hb B1 S1 R1 V1
        go_simp
        refine hK.out _ _ ?_ (fun hHeld6 => ?_)
        · exact (unhide S2).S
        clear hK K
        try simp only [Act.put, List.setIfInBounds_toArray, List.set_cons_zero, List.set_cons_succ]
        rw [← hgL]
        clear hgL
        generalize v1.alloc (.cells #[] 67) = v2 at B2 S2 R2 L2 V2 hHeld6 ⊢
        refine wpAnyH_take (i := 9) (oi := { dst := some 18, op := .call { callee := .builtin Go.Builtin.append, args := #[.tmp 15, .tmp 17], argTypes := #[35, 35] }, type := 35, pos := "l08_raft.go:6", after := #[{ on := 6, ground := .data }, { on := 8, ground := .data }], guard := none }) (v := ?_) rfl (by kernel_rfl) (by kernel_rfl) (by kernel_rfl) (fun _ _ _ h => h) (Or.inl ⟨by rfl, ?_⟩) (by assumption) ?_
        rotate_left 1
        · (intro w' hSw; (try dsimp only at hSw); go_simp; try with_reducible rfl)
        try simp only [Act.put, List.setIfInBounds_toArray, List.set_cons_zero, List.set_cons_succ]
        refine wpAnyH_ready (rs := [14, 16]) (by kernel_rfl) (by simp) ?_
        refine AllReadyH.cons (o := { dst := some 23, op := .makeSlice 36 (.tmp 22) (.tmp 22), type := 36, pos := "l08_raft.go:6", after := #[{ on := 13, ground := .data }, { on := 13, ground := .data }], guard := none }) rfl (fun K hK => ?_) (AllReadyH.cons (o := { dst := some 7, op := .alloc 38, type := 0, pos := "l08_raft.go:6", after := #[], guard := none }) rfl (fun K hK => ?_) (AllReadyH.nil))
        · skip
          obtain ⟨gM, hgM⟩ : ∃ g, g = v2.heap.size := ⟨_, rfl⟩
          have NEVM : Hid (gV < gM) := by show _ < _; rw [hgM]; exact (unhide V2).le
          have NELM : Hid (gL < gM) := by show _ < _; rw [hgM]; exact (unhide L2).le
          have BSM : Hid (w.heap.size + 1 < gM) := by show _ < _; rw [hgM]; exact (unhide R2).lt
          obtain ⟨v3, hrun, ho, hgr⟩ := run_make_full (P := Try.prog) (w := v2) v2.heap.size 36 3 i0 (.int .i64 0) 1 Try.underlying36 hi hz0 hz1 .i64 .i64 m (by rw [hz2]; omega) (by unfold maxLen; omega) (Nat.le_refl _)
          have hb : Below v2.heap.size v2 v3 := (Below.refl _ _).grown hgr (Nat.le_refl _) (fun k hk => by cases hk)
          rw [show (madeCells (Value.int .i64 0).cells (m * 1)).toList = cI (List.replicate m 0) from by rw [show (Value.int .i64 0).cells = #[.int .i64 0] from rfl, toList_madeCells_one]; simp [cI]] at ho
          have M3 : Hid (Held v3 gM (gM + 1) 3 (.slice (some ⟨gM, 0, none⟩) m m) m (cI (List.replicate m 0))) := by rw [hgM]; exact ⟨ho, (fun k hk => by have e : v2.heap.size = k := Option.some.inj hk; omega), (ho.lt v2.heap.size rfl).2⟩
          rw [← hgM] at hrun
          have V3 := hide ((unhide V2).below hb (unhide V2).le)
          have L3 := hide ((unhide L2).below hb (unhide L2).le)
          have B3 := hide ((unhide B2).trans (hb.mono (unhide B2).size))
          have S3 := hide ((unhide S2).below hb)
          have R3 := hide ((unhide R2).below hb)
          clear hb B2 S2 R2 V2 L2 ho hgr hgM
          go_simp
          refine hK.out _ _ ?_ (fun hHeld14 => ?_)
          · exact (unhide S3).S
          clear hK K
          try simp only [Act.put, List.setIfInBounds_toArray, List.set_cons_zero, List.set_cons_succ]
          clear hrun
          refine wpAnyH_take (i := 15) (oi := { dst := some 24, op := .build 38 #[(0, .tmp 9), (1, .tmp 10), (2, .tmp 12), (3, .tmp 14), (5, .const (.bool true)), (6, .tmp 18), (9, .tmp 20), (10, .tmp 21), (12, .tmp 23)], type := 38, pos := "l08_raft.go:6", after := #[{ on := 0, ground := .data }, { on := 1, ground := .data }, { on := 3, ground := .data }, { on := 5, ground := .data }, { on := 9, ground := .data }, { on := 11, ground := .data }, { on := 12, ground := .data }, { on := 14, ground := .data }], guard := none }) (v := ?_) rfl (by kernel_rfl) (by kernel_rfl) (by kernel_rfl) (fun _ _ _ h => h) (Or.inl ⟨by rfl, ?_⟩) (by assumption) ?_
          rotate_left 1
          · (intro w' hSw; (try dsimp only at hSw); go_simp; try with_reducible rfl)
          try simp only [Act.put, List.setIfInBounds_toArray, List.set_cons_zero, List.set_cons_succ]
          refine wpAnyH_ready (rs := [16]) (by kernel_rfl) (by simp) ?_
          refine AllReadyH.cons (o := { dst := some 7, op := .alloc 38, type := 0, pos := "l08_raft.go:6", after := #[], guard := none }) rfl (fun K hK => ?_) (AllReadyH.nil)
          obtain ⟨gN, hgN⟩ : ∃ g, g = v3.heap.size := ⟨_, rfl⟩
          have NEVN : Hid (gV < gN) := by show _ < _; rw [hgN]; exact (unhide V3).le
          have NELN : Hid (gL < gN) := by show _ < _; rw [hgN]; exact (unhide L3).le
          have NEMN : Hid (gM < gN) := by show _ < _; rw [hgN]; exact (unhide M3).le
          have BSN : Hid (w.heap.size + 1 < gN) := by show _ < _; rw [hgN]; exact (unhide R3).lt
          have hb : Below v3.heap.size v3 (v3.alloc (.cells #[.int .i64 0, .int .i64 0, .int .i64 0, .int .i64 0, .int .i64 0, .bool false, .slice none 0 0, .int .i64 0, .int .i64 0, .int .i64 0, .slice none 0 0, .slice none 0 0, .slice none 0 0] 38)) := Go.Joins.below_alloc1 v3 (.cells #[.int .i64 0, .int .i64 0, .int .i64 0, .int .i64 0, .int .i64 0, .bool false, .slice none 0 0, .int .i64 0, .int .i64 0, .int .i64 0, .slice none 0 0, .slice none 0 0, .slice none 0 0] 38)
          have N4 : Hid (BF gN #[.int .i64 0, .int .i64 0, .int .i64 0, .int .i64 0, .int .i64 0, .bool false, .slice none 0 0, .int .i64 0, .int .i64 0, .int .i64 0, .slice none 0 0, .slice none 0 0, .slice none 0 0] (v3.alloc (.cells #[.int .i64 0, .int .i64 0, .int .i64 0, .int .i64 0, .int .i64 0, .bool false, .slice none 0 0, .int .i64 0, .int .i64 0, .int .i64 0, .slice none 0 0, .slice none 0 0, .slice none 0 0] 38))) := by rw [hgN]; exact BF.new v3 #[.int .i64 0, .int .i64 0, .int .i64 0, .int .i64 0, .int .i64 0, .bool false, .slice none 0 0, .int .i64 0, .int .i64 0, .int .i64 0, .slice none 0 0, .slice none 0 0, .slice none 0 0] 38
          have V4 := hide ((unhide V3).below hb (unhide V3).le)
          have L4 := hide ((unhide L3).below hb (unhide L3).le)
          have M4 := hide ((unhide M3).below hb (unhide M3).le)
          have B4 := hide ((unhide B3).trans (hb.mono (unhide B3).size))
          have S4 := hide ((unhide S3).below hb)
          have R4 := hide ((unhide R3).below hb)
          clear hb B3 S3 R3 V3 L3 M3
          go_simp
          refine hK.out _ _ ?_ (fun hHeld16 => ?_)
          · exact (unhide S4).S
          clear hK K
          try simp only [Act.put, List.setIfInBounds_toArray, List.set_cons_zero, List.set_cons_succ]
          rw [← hgN]
          clear hgN
          generalize v3.alloc (.cells #[.int .i64 0, .int .i64 0, .int .i64 0, .int .i64 0, .int .i64 0, .bool false, .slice none 0 0, .int .i64 0, .int .i64 0, .int .i64 0, .slice none 0 0, .slice none 0 0, .slice none 0 0] 38) = v4 at B4 S4 R4 N4 V4 L4 M4 hHeld16 ⊢
          refine wpAnyH_ready (rs := [17]) (by kernel_rfl) (by simp) ?_
          refine AllReadyH.cons (o := { dst := none, op := .store 38 (.tmp 7) (.tmp 24), type := 0, pos := "l08_raft.go:6", after := #[{ on := 16, ground := .data }, { on := 15, ground := .data }, { on := 9, ground := .chain }, { on := 0, ground := .phase }, { on := 1, ground := .phase }, { on := 2, ground := .phase }, { on := 3, ground := .phase }, { on := 4, ground := .phase }, { on := 5, ground := .phase }, { on := 6, ground := .phase }, { on := 7, ground := .phase }, { on := 8, ground := .phase }, { on := 9, ground := .phase }, { on := 10, ground := .phase }, { on := 11, ground := .phase }, { on := 12, ground := .phase }, { on := 13, ground := .phase }, { on := 14, ground := .phase }, { on := 15, ground := .phase }, { on := 16, ground := .phase }], guard := none }) rfl (fun K hK => ?_) (AllReadyH.nil)
          have cp := (unhide N4).S
          have cf := (unhide N4).F
          have DI : gL ≠ gV ∧ gL ≠ gM ∧ gL ≠ gN ∧ gV ≠ gM ∧ gV ≠ gN ∧ gM ≠ gN ∧ w.heap.size + 1 < gL ∧ w.heap.size + 1 < gV ∧ w.heap.size + 1 < gM ∧ w.heap.size + 1 < gN := by have := unhide BSL; have := unhide BSV; have := unhide BSM; have := unhide BSN; have := unhide NEVL; have := unhide NEVM; have := unhide NEVN; have := unhide NELM; have := unhide NELN; have := unhide NEMN; omega
          obtain ⟨vz, hvz, hFN⟩ := put13 v4 (unhide N4) (.int .i64 id) (.int .i64 (m : Int)) (.int .i64 0) (.int .i64 (-1)) (.int .i64 0) (.bool true) (.slice (some ⟨gL, 0, none⟩) 0 0) (.int .i64 0) (.int .i64 0) (.int .i64 (5 + id)) (.slice (some ⟨gV, 0, none⟩) 0 0) (.slice none 0 0) (.slice (some ⟨gM, 0, none⟩) m m)
          obtain ⟨hFN, hO⟩ := hFN
          go_simp
          rw [← hvz]
          refine hK.out _ _ ?_ (fun hHeld17 => ?_)
          · exact ((unhide S4).outs hO (by omega)).S
          clear hK K
          try simp only [Act.put, List.setIfInBounds_toArray, List.set_cons_zero, List.set_cons_succ]
          refine wpAnyH_done (by kernel_rfl) ?_ _
          exact ⟨gL, gV, gM, gN, rfl, hFN, (unhide L4).outs hO (by omega), (unhide V4).outs hO (by omega), (unhide M4).outs hO (by omega), (unhide R4).outs hO (by omega), Below.outs (unhide B4) (unhide B4).size hO (by omega), DI⟩
        · skip
          obtain ⟨gN, hgN⟩ : ∃ g, g = v2.heap.size := ⟨_, rfl⟩
          have NEVN : Hid (gV < gN) := by show _ < _; rw [hgN]; exact (unhide V2).le
          have NELN : Hid (gL < gN) := by show _ < _; rw [hgN]; exact (unhide L2).le
          have BSN : Hid (w.heap.size + 1 < gN) := by show _ < _; rw [hgN]; exact (unhide R2).lt
          have hb : Below v2.heap.size v2 (v2.alloc (.cells #[.int .i64 0, .int .i64 0, .int .i64 0, .int .i64 0, .int .i64 0, .bool false, .slice none 0 0, .int .i64 0, .int .i64 0, .int .i64 0, .slice none 0 0, .slice none 0 0, .slice none 0 0] 38)) := Go.Joins.below_alloc1 v2 (.cells #[.int .i64 0, .int .i64 0, .int .i64 0, .int .i64 0, .int .i64 0, .bool false, .slice none 0 0, .int .i64 0, .int .i64 0, .int .i64 0, .slice none 0 0, .slice none 0 0, .slice none 0 0] 38)
          have N3 : Hid (BF gN #[.int .i64 0, .int .i64 0, .int .i64 0, .int .i64 0, .int .i64 0, .bool false, .slice none 0 0, .int .i64 0, .int .i64 0, .int .i64 0, .slice none 0 0, .slice none 0 0, .slice none 0 0] (v2.alloc (.cells #[.int .i64 0, .int .i64 0, .int .i64 0, .int .i64 0, .int .i64 0, .bool false, .slice none 0 0, .int .i64 0, .int .i64 0, .int .i64 0, .slice none 0 0, .slice none 0 0, .slice none 0 0] 38))) := by rw [hgN]; exact BF.new v2 #[.int .i64 0, .int .i64 0, .int .i64 0, .int .i64 0, .int .i64 0, .bool false, .slice none 0 0, .int .i64 0, .int .i64 0, .int .i64 0, .slice none 0 0, .slice none 0 0, .slice none 0 0] 38
          have V3 := hide ((unhide V2).below hb (unhide V2).le)
          have L3 := hide ((unhide L2).below hb (unhide L2).le)
          have B3 := hide ((unhide B2).trans (hb.mono (unhide B2).size))
          have S3 := hide ((unhide S2).below hb)
          have R3 := hide ((unhide R2).below hb)
          clear hb B2 S2 R2 V2 L2
          go_simp
          refine hK.out _ _ ?_ (fun hHeld16 => ?_)
          · exact (unhide S3).S
          clear hK K
          try simp only [Act.put, List.setIfInBounds_toArray, List.set_cons_zero, List.set_cons_succ]
          rw [← hgN]
          clear hgN
          generalize v2.alloc (.cells #[.int .i64 0, .int .i64 0, .int .i64 0, .int .i64 0, .int .i64 0, .bool false, .slice none 0 0, .int .i64 0, .int .i64 0, .int .i64 0, .slice none 0 0, .slice none 0 0, .slice none 0 0] 38) = v3 at B3 S3 R3 N3 V3 L3 hHeld16 ⊢
          refine wpAnyH_ready (rs := [14]) (by kernel_rfl) (by simp) ?_
          refine AllReadyH.cons (o := { dst := some 23, op := .makeSlice 36 (.tmp 22) (.tmp 22), type := 36, pos := "l08_raft.go:6", after := #[{ on := 13, ground := .data }, { on := 13, ground := .data }], guard := none }) rfl (fun K hK => ?_) (AllReadyH.nil)
          obtain ⟨gM, hgM⟩ : ∃ g, g = v3.heap.size := ⟨_, rfl⟩
          have NEVM : Hid (gV < gM) := by show _ < _; rw [hgM]; exact (unhide V3).le
          have NELM : Hid (gL < gM) := by show _ < _; rw [hgM]; exact (unhide L3).le
          have NENM : Hid (gN < gM) := by show _ < _; rw [hgM]; exact (unhide N3).lt
          have BSM : Hid (w.heap.size + 1 < gM) := by show _ < _; rw [hgM]; exact (unhide R3).lt
          obtain ⟨v4, hrun, ho, hgr⟩ := run_make_full (P := Try.prog) (w := v3) v3.heap.size 36 3 i0 (.int .i64 0) 1 Try.underlying36 hi hz0 hz1 .i64 .i64 m (by rw [hz2]; omega) (by unfold maxLen; omega) (Nat.le_refl _)
          have hb : Below v3.heap.size v3 v4 := (Below.refl _ _).grown hgr (Nat.le_refl _) (fun k hk => by cases hk)
          rw [show (madeCells (Value.int .i64 0).cells (m * 1)).toList = cI (List.replicate m 0) from by rw [show (Value.int .i64 0).cells = #[.int .i64 0] from rfl, toList_madeCells_one]; simp [cI]] at ho
          have M4 : Hid (Held v4 gM (gM + 1) 3 (.slice (some ⟨gM, 0, none⟩) m m) m (cI (List.replicate m 0))) := by rw [hgM]; exact ⟨ho, (fun k hk => by have e : v3.heap.size = k := Option.some.inj hk; omega), (ho.lt v3.heap.size rfl).2⟩
          rw [← hgM] at hrun
          have V4 := hide ((unhide V3).below hb (unhide V3).le)
          have L4 := hide ((unhide L3).below hb (unhide L3).le)
          have N4 := hide ((unhide N3).below hb)
          have B4 := hide ((unhide B3).trans (hb.mono (unhide B3).size))
          have S4 := hide ((unhide S3).below hb)
          have R4 := hide ((unhide R3).below hb)
          clear hb B3 S3 R3 V3 L3 N3 ho hgr hgM
          go_simp
          refine hK.out _ _ ?_ (fun hHeld14 => ?_)
          · exact (unhide S4).S
          clear hK K
          try simp only [Act.put, List.setIfInBounds_toArray, List.set_cons_zero, List.set_cons_succ]
          clear hrun
          refine wpAnyH_take (i := 15) (oi := { dst := some 24, op := .build 38 #[(0, .tmp 9), (1, .tmp 10), (2, .tmp 12), (3, .tmp 14), (5, .const (.bool true)), (6, .tmp 18), (9, .tmp 20), (10, .tmp 21), (12, .tmp 23)], type := 38, pos := "l08_raft.go:6", after := #[{ on := 0, ground := .data }, { on := 1, ground := .data }, { on := 3, ground := .data }, { on := 5, ground := .data }, { on := 9, ground := .data }, { on := 11, ground := .data }, { on := 12, ground := .data }, { on := 14, ground := .data }], guard := none }) (v := ?_) rfl (by kernel_rfl) (by kernel_rfl) (by kernel_rfl) (fun _ _ _ h => h) (Or.inl ⟨by rfl, ?_⟩) (by assumption) ?_
          rotate_left 1
          · (intro w' hSw; (try dsimp only at hSw); go_simp; try with_reducible rfl)
          try simp only [Act.put, List.setIfInBounds_toArray, List.set_cons_zero, List.set_cons_succ]
          refine wpAnyH_ready (rs := [17]) (by kernel_rfl) (by simp) ?_
          refine AllReadyH.cons (o := { dst := none, op := .store 38 (.tmp 7) (.tmp 24), type := 0, pos := "l08_raft.go:6", after := #[{ on := 16, ground := .data }, { on := 15, ground := .data }, { on := 9, ground := .chain }, { on := 0, ground := .phase }, { on := 1, ground := .phase }, { on := 2, ground := .phase }, { on := 3, ground := .phase }, { on := 4, ground := .phase }, { on := 5, ground := .phase }, { on := 6, ground := .phase }, { on := 7, ground := .phase }, { on := 8, ground := .phase }, { on := 9, ground := .phase }, { on := 10, ground := .phase }, { on := 11, ground := .phase }, { on := 12, ground := .phase }, { on := 13, ground := .phase }, { on := 14, ground := .phase }, { on := 15, ground := .phase }, { on := 16, ground := .phase }], guard := none }) rfl (fun K hK => ?_) (AllReadyH.nil)
          have cp := (unhide N4).S
          have cf := (unhide N4).F
          have DI : gL ≠ gV ∧ gL ≠ gM ∧ gL ≠ gN ∧ gV ≠ gM ∧ gV ≠ gN ∧ gM ≠ gN ∧ w.heap.size + 1 < gL ∧ w.heap.size + 1 < gV ∧ w.heap.size + 1 < gM ∧ w.heap.size + 1 < gN := by have := unhide BSL; have := unhide BSV; have := unhide BSM; have := unhide BSN; have := unhide NEVL; have := unhide NEVN; have := unhide NEVM; have := unhide NELN; have := unhide NELM; have := unhide NENM; omega
          obtain ⟨vz, hvz, hFN⟩ := put13 v4 (unhide N4) (.int .i64 id) (.int .i64 (m : Int)) (.int .i64 0) (.int .i64 (-1)) (.int .i64 0) (.bool true) (.slice (some ⟨gL, 0, none⟩) 0 0) (.int .i64 0) (.int .i64 0) (.int .i64 (5 + id)) (.slice (some ⟨gV, 0, none⟩) 0 0) (.slice none 0 0) (.slice (some ⟨gM, 0, none⟩) m m)
          obtain ⟨hFN, hO⟩ := hFN
          go_simp
          rw [← hvz]
          refine hK.out _ _ ?_ (fun hHeld17 => ?_)
          · exact ((unhide S4).outs hO (by omega)).S
          clear hK K
          try simp only [Act.put, List.setIfInBounds_toArray, List.set_cons_zero, List.set_cons_succ]
          refine wpAnyH_done (by kernel_rfl) ?_ _
          exact ⟨gL, gV, gM, gN, rfl, hFN, (unhide L4).outs hO (by omega), (unhide V4).outs hO (by omega), (unhide M4).outs hO (by omega), (unhide R4).outs hO (by omega), Below.outs (unhide B4) (unhide B4).size hO (by omega), DI⟩
      · skip
        obtain ⟨gM, hgM⟩ : ∃ g, g = v1.heap.size := ⟨_, rfl⟩
        have NEVM : Hid (gV < gM) := by show _ < _; rw [hgM]; exact (unhide V1).le
        have BSM : Hid (w.heap.size + 1 < gM) := by show _ < _; rw [hgM]; exact (unhide R1).lt
        obtain ⟨v2, hrun, ho, hgr⟩ := run_make_full (P := Try.prog) (w := v1) v1.heap.size 36 3 i0 (.int .i64 0) 1 Try.underlying36 hi hz0 hz1 .i64 .i64 m (by rw [hz2]; omega) (by unfold maxLen; omega) (Nat.le_refl _)
        have hb : Below v1.heap.size v1 v2 := (Below.refl _ _).grown hgr (Nat.le_refl _) (fun k hk => by cases hk)
        rw [show (madeCells (Value.int .i64 0).cells (m * 1)).toList = cI (List.replicate m 0) from by rw [show (Value.int .i64 0).cells = #[.int .i64 0] from rfl, toList_madeCells_one]; simp [cI]] at ho
        have M2 : Hid (Held v2 gM (gM + 1) 3 (.slice (some ⟨gM, 0, none⟩) m m) m (cI (List.replicate m 0))) := by rw [hgM]; exact ⟨ho, (fun k hk => by have e : v1.heap.size = k := Option.some.inj hk; omega), (ho.lt v1.heap.size rfl).2⟩
        rw [← hgM] at hrun
        have V2 := hide ((unhide V1).below hb (unhide V1).le)
        have B2 := hide ((unhide B1).trans (hb.mono (unhide B1).size))
        have S2 := hide ((unhide S1).below hb)
        have R2 := hide ((unhide R1).below hb)
        clear hb B1 S1 R1 V1 ho hgr hgM
        go_simp
        refine hK.out _ _ ?_ (fun hHeld14 => ?_)
        · exact (unhide S2).S
        clear hK K
        try simp only [Act.put, List.setIfInBounds_toArray, List.set_cons_zero, List.set_cons_succ]
        clear hrun
        refine wpAnyH_ready (rs := [6, 16]) (by kernel_rfl) (by simp) ?_
        refine AllReadyH.cons (o := { dst := some 15, op := .buildSlice 35 0 #[], type := 35, pos := "l08_raft.go:6", after := #[], guard := none }) rfl (fun K hK => ?_) (AllReadyH.cons (o := { dst := some 7, op := .alloc 38, type := 0, pos := "l08_raft.go:6", after := #[], guard := none }) rfl (fun K hK => ?_) (AllReadyH.nil))
        · skip
          obtain ⟨gL, hgL⟩ : ∃ g, g = v2.heap.size := ⟨_, rfl⟩
          have NEVL : Hid (gV < gL) := by show _ < _; rw [hgL]; exact (unhide V2).le
          have NEML : Hid (gM < gL) := by show _ < _; rw [hgL]; exact (unhide M2).le
          have BSL : Hid (w.heap.size + 1 < gL) := by show _ < _; rw [hgL]; exact (unhide R2).lt
          have hb : Below v2.heap.size v2 (v2.alloc (.cells #[] 67)) := Go.Joins.below_alloc1 v2 (.cells #[] 67)
          have L3 : Hid (HeldZ 2 (v2.alloc (.cells #[] 67)) gL (gL + 1) 67 (.slice (some ⟨gL, 0, none⟩) 0 0) 0 []) := by rw [hgL]; exact ⟨World.ownsRow_lit (e := 67) (base := v2.heap.size) (size := 2) v2 #[] 0 (Nat.le_refl _) (by unfold maxLen; omega) rfl, (fun k hk => by have e : v2.heap.size = k := Option.some.inj hk; omega), by simp⟩
          have V3 := hide ((unhide V2).below hb (unhide V2).le)
          have M3 := hide ((unhide M2).below hb (unhide M2).le)
          have B3 := hide ((unhide B2).trans (hb.mono (unhide B2).size))
          have S3 := hide ((unhide S2).below hb)
          have R3 := hide ((unhide R2).below hb)
          clear hb B2 S2 R2 V2 M2
          go_simp
          refine hK.out _ _ ?_ (fun hHeld6 => ?_)
          · exact (unhide S3).S
          clear hK K
          try simp only [Act.put, List.setIfInBounds_toArray, List.set_cons_zero, List.set_cons_succ]
          rw [← hgL]
          clear hgL
          generalize v2.alloc (.cells #[] 67) = v3 at B3 S3 R3 L3 V3 M3 hHeld6 ⊢
          refine wpAnyH_take (i := 9) (oi := { dst := some 18, op := .call { callee := .builtin Go.Builtin.append, args := #[.tmp 15, .tmp 17], argTypes := #[35, 35] }, type := 35, pos := "l08_raft.go:6", after := #[{ on := 6, ground := .data }, { on := 8, ground := .data }], guard := none }) (v := ?_) rfl (by kernel_rfl) (by kernel_rfl) (by kernel_rfl) (fun _ _ _ h => h) (Or.inl ⟨by rfl, ?_⟩) (by assumption) ?_
          rotate_left 1
          · (intro w' hSw; (try dsimp only at hSw); go_simp; try with_reducible rfl)
          try simp only [Act.put, List.setIfInBounds_toArray, List.set_cons_zero, List.set_cons_succ]
          refine wpAnyH_take (i := 15) (oi := { dst := some 24, op := .build 38 #[(0, .tmp 9), (1, .tmp 10), (2, .tmp 12), (3, .tmp 14), (5, .const (.bool true)), (6, .tmp 18), (9, .tmp 20), (10, .tmp 21), (12, .tmp 23)], type := 38, pos := "l08_raft.go:6", after := #[{ on := 0, ground := .data }, { on := 1, ground := .data }, { on := 3, ground := .data }, { on := 5, ground := .data }, { on := 9, ground := .data }, { on := 11, ground := .data }, { on := 12, ground := .data }, { on := 14, ground := .data }], guard := none }) (v := ?_) rfl (by kernel_rfl) (by kernel_rfl) (by kernel_rfl) (fun _ _ _ h => h) (Or.inl ⟨by rfl, ?_⟩) (by assumption) ?_
          rotate_left 1
          · (intro w' hSw; (try dsimp only at hSw); go_simp; try with_reducible rfl)
          try simp only [Act.put, List.setIfInBounds_toArray, List.set_cons_zero, List.set_cons_succ]
          refine wpAnyH_ready (rs := [16]) (by kernel_rfl) (by simp) ?_
          refine AllReadyH.cons (o := { dst := some 7, op := .alloc 38, type := 0, pos := "l08_raft.go:6", after := #[], guard := none }) rfl (fun K hK => ?_) (AllReadyH.nil)
          obtain ⟨gN, hgN⟩ : ∃ g, g = v3.heap.size := ⟨_, rfl⟩
          have NEVN : Hid (gV < gN) := by show _ < _; rw [hgN]; exact (unhide V3).le
          have NEMN : Hid (gM < gN) := by show _ < _; rw [hgN]; exact (unhide M3).le
          have NELN : Hid (gL < gN) := by show _ < _; rw [hgN]; exact (unhide L3).le
          have BSN : Hid (w.heap.size + 1 < gN) := by show _ < _; rw [hgN]; exact (unhide R3).lt
          have hb : Below v3.heap.size v3 (v3.alloc (.cells #[.int .i64 0, .int .i64 0, .int .i64 0, .int .i64 0, .int .i64 0, .bool false, .slice none 0 0, .int .i64 0, .int .i64 0, .int .i64 0, .slice none 0 0, .slice none 0 0, .slice none 0 0] 38)) := Go.Joins.below_alloc1 v3 (.cells #[.int .i64 0, .int .i64 0, .int .i64 0, .int .i64 0, .int .i64 0, .bool false, .slice none 0 0, .int .i64 0, .int .i64 0, .int .i64 0, .slice none 0 0, .slice none 0 0, .slice none 0 0] 38)
          have N4 : Hid (BF gN #[.int .i64 0, .int .i64 0, .int .i64 0, .int .i64 0, .int .i64 0, .bool false, .slice none 0 0, .int .i64 0, .int .i64 0, .int .i64 0, .slice none 0 0, .slice none 0 0, .slice none 0 0] (v3.alloc (.cells #[.int .i64 0, .int .i64 0, .int .i64 0, .int .i64 0, .int .i64 0, .bool false, .slice none 0 0, .int .i64 0, .int .i64 0, .int .i64 0, .slice none 0 0, .slice none 0 0, .slice none 0 0] 38))) := by rw [hgN]; exact BF.new v3 #[.int .i64 0, .int .i64 0, .int .i64 0, .int .i64 0, .int .i64 0, .bool false, .slice none 0 0, .int .i64 0, .int .i64 0, .int .i64 0, .slice none 0 0, .slice none 0 0, .slice none 0 0] 38
          have V4 := hide ((unhide V3).below hb (unhide V3).le)
          have M4 := hide ((unhide M3).below hb (unhide M3).le)
          have L4 := hide ((unhide L3).below hb (unhide L3).le)
          have B4 := hide ((unhide B3).trans (hb.mono (unhide B3).size))
          have S4 := hide ((unhide S3).below hb)
          have R4 := hide ((unhide R3).below hb)
          clear hb B3 S3 R3 V3 M3 L3
          go_simp
          refine hK.out _ _ ?_ (fun hHeld16 => ?_)
          · exact (unhide S4).S
          clear hK K
          try simp only [Act.put, List.setIfInBounds_toArray, List.set_cons_zero, List.set_cons_succ]
          rw [← hgN]
          clear hgN
          generalize v3.alloc (.cells #[.int .i64 0, .int .i64 0, .int .i64 0, .int .i64 0, .int .i64 0, .bool false, .slice none 0 0, .int .i64 0, .int .i64 0, .int .i64 0, .slice none 0 0, .slice none 0 0, .slice none 0 0] 38) = v4 at B4 S4 R4 N4 V4 M4 L4 hHeld16 ⊢
          refine wpAnyH_ready (rs := [17]) (by kernel_rfl) (by simp) ?_
          refine AllReadyH.cons (o := { dst := none, op := .store 38 (.tmp 7) (.tmp 24), type := 0, pos := "l08_raft.go:6", after := #[{ on := 16, ground := .data }, { on := 15, ground := .data }, { on := 9, ground := .chain }, { on := 0, ground := .phase }, { on := 1, ground := .phase }, { on := 2, ground := .phase }, { on := 3, ground := .phase }, { on := 4, ground := .phase }, { on := 5, ground := .phase }, { on := 6, ground := .phase }, { on := 7, ground := .phase }, { on := 8, ground := .phase }, { on := 9, ground := .phase }, { on := 10, ground := .phase }, { on := 11, ground := .phase }, { on := 12, ground := .phase }, { on := 13, ground := .phase }, { on := 14, ground := .phase }, { on := 15, ground := .phase }, { on := 16, ground := .phase }], guard := none }) rfl (fun K hK => ?_) (AllReadyH.nil)
          have cp := (unhide N4).S
          have cf := (unhide N4).F
          have DI : gL ≠ gV ∧ gL ≠ gM ∧ gL ≠ gN ∧ gV ≠ gM ∧ gV ≠ gN ∧ gM ≠ gN ∧ w.heap.size + 1 < gL ∧ w.heap.size + 1 < gV ∧ w.heap.size + 1 < gM ∧ w.heap.size + 1 < gN := by have := unhide BSL; have := unhide BSV; have := unhide BSM; have := unhide BSN; have := unhide NEVM; have := unhide NEVL; have := unhide NEVN; have := unhide NEML; have := unhide NEMN; have := unhide NELN; omega
          obtain ⟨vz, hvz, hFN⟩ := put13 v4 (unhide N4) (.int .i64 id) (.int .i64 (m : Int)) (.int .i64 0) (.int .i64 (-1)) (.int .i64 0) (.bool true) (.slice (some ⟨gL, 0, none⟩) 0 0) (.int .i64 0) (.int .i64 0) (.int .i64 (5 + id)) (.slice (some ⟨gV, 0, none⟩) 0 0) (.slice none 0 0) (.slice (some ⟨gM, 0, none⟩) m m)
          obtain ⟨hFN, hO⟩ := hFN
          go_simp
          rw [← hvz]
          refine hK.out _ _ ?_ (fun hHeld17 => ?_)
          · exact ((unhide S4).outs hO (by omega)).S
          clear hK K
          try simp only [Act.put, List.setIfInBounds_toArray, List.set_cons_zero, List.set_cons_succ]
          refine wpAnyH_done (by kernel_rfl) ?_ _
          exact ⟨gL, gV, gM, gN, rfl, hFN, (unhide L4).outs hO (by omega), (unhide V4).outs hO (by omega), (unhide M4).outs hO (by omega), (unhide R4).outs hO (by omega), Below.outs (unhide B4) (unhide B4).size hO (by omega), DI⟩
        · skip
          obtain ⟨gN, hgN⟩ : ∃ g, g = v2.heap.size := ⟨_, rfl⟩
          have NEVN : Hid (gV < gN) := by show _ < _; rw [hgN]; exact (unhide V2).le
          have NEMN : Hid (gM < gN) := by show _ < _; rw [hgN]; exact (unhide M2).le
          have BSN : Hid (w.heap.size + 1 < gN) := by show _ < _; rw [hgN]; exact (unhide R2).lt
          have hb : Below v2.heap.size v2 (v2.alloc (.cells #[.int .i64 0, .int .i64 0, .int .i64 0, .int .i64 0, .int .i64 0, .bool false, .slice none 0 0, .int .i64 0, .int .i64 0, .int .i64 0, .slice none 0 0, .slice none 0 0, .slice none 0 0] 38)) := Go.Joins.below_alloc1 v2 (.cells #[.int .i64 0, .int .i64 0, .int .i64 0, .int .i64 0, .int .i64 0, .bool false, .slice none 0 0, .int .i64 0, .int .i64 0, .int .i64 0, .slice none 0 0, .slice none 0 0, .slice none 0 0] 38)
          have N3 : Hid (BF gN #[.int .i64 0, .int .i64 0, .int .i64 0, .int .i64 0, .int .i64 0, .bool false, .slice none 0 0, .int .i64 0, .int .i64 0, .int .i64 0, .slice none 0 0, .slice none 0 0, .slice none 0 0] (v2.alloc (.cells #[.int .i64 0, .int .i64 0, .int .i64 0, .int .i64 0, .int .i64 0, .bool false, .slice none 0 0, .int .i64 0, .int .i64 0, .int .i64 0, .slice none 0 0, .slice none 0 0, .slice none 0 0] 38))) := by rw [hgN]; exact BF.new v2 #[.int .i64 0, .int .i64 0, .int .i64 0, .int .i64 0, .int .i64 0, .bool false, .slice none 0 0, .int .i64 0, .int .i64 0, .int .i64 0, .slice none 0 0, .slice none 0 0, .slice none 0 0] 38
          have V3 := hide ((unhide V2).below hb (unhide V2).le)
          have M3 := hide ((unhide M2).below hb (unhide M2).le)
          have B3 := hide ((unhide B2).trans (hb.mono (unhide B2).size))
          have S3 := hide ((unhide S2).below hb)
          have R3 := hide ((unhide R2).below hb)
          clear hb B2 S2 R2 V2 M2
          go_simp
          refine hK.out _ _ ?_ (fun hHeld16 => ?_)
          · exact (unhide S3).S
          clear hK K
          try simp only [Act.put, List.setIfInBounds_toArray, List.set_cons_zero, List.set_cons_succ]
          rw [← hgN]
          clear hgN
          generalize v2.alloc (.cells #[.int .i64 0, .int .i64 0, .int .i64 0, .int .i64 0, .int .i64 0, .bool false, .slice none 0 0, .int .i64 0, .int .i64 0, .int .i64 0, .slice none 0 0, .slice none 0 0, .slice none 0 0] 38) = v3 at B3 S3 R3 N3 V3 M3 hHeld16 ⊢
          refine wpAnyH_ready (rs := [6]) (by kernel_rfl) (by simp) ?_
          refine AllReadyH.cons (o := { dst := some 15, op := .buildSlice 35 0 #[], type := 35, pos := "l08_raft.go:6", after := #[], guard := none }) rfl (fun K hK => ?_) (AllReadyH.nil)
          obtain ⟨gL, hgL⟩ : ∃ g, g = v3.heap.size := ⟨_, rfl⟩
          have NEVL : Hid (gV < gL) := by show _ < _; rw [hgL]; exact (unhide V3).le
          have NEML : Hid (gM < gL) := by show _ < _; rw [hgL]; exact (unhide M3).le
          have NENL : Hid (gN < gL) := by show _ < _; rw [hgL]; exact (unhide N3).lt
          have BSL : Hid (w.heap.size + 1 < gL) := by show _ < _; rw [hgL]; exact (unhide R3).lt
          have hb : Below v3.heap.size v3 (v3.alloc (.cells #[] 67)) := Go.Joins.below_alloc1 v3 (.cells #[] 67)
          have L4 : Hid (HeldZ 2 (v3.alloc (.cells #[] 67)) gL (gL + 1) 67 (.slice (some ⟨gL, 0, none⟩) 0 0) 0 []) := by rw [hgL]; exact ⟨World.ownsRow_lit (e := 67) (base := v3.heap.size) (size := 2) v3 #[] 0 (Nat.le_refl _) (by unfold maxLen; omega) rfl, (fun k hk => by have e : v3.heap.size = k := Option.some.inj hk; omega), by simp⟩
          have V4 := hide ((unhide V3).below hb (unhide V3).le)
          have M4 := hide ((unhide M3).below hb (unhide M3).le)
          have N4 := hide ((unhide N3).below hb)
          have B4 := hide ((unhide B3).trans (hb.mono (unhide B3).size))
          have S4 := hide ((unhide S3).below hb)
          have R4 := hide ((unhide R3).below hb)
          clear hb B3 S3 R3 V3 M3 N3
          go_simp
          refine hK.out _ _ ?_ (fun hHeld6 => ?_)
          · exact (unhide S4).S
          clear hK K
          try simp only [Act.put, List.setIfInBounds_toArray, List.set_cons_zero, List.set_cons_succ]
          rw [← hgL]
          clear hgL
          generalize v3.alloc (.cells #[] 67) = v4 at B4 S4 R4 L4 V4 M4 N4 hHeld6 ⊢
          refine wpAnyH_take (i := 9) (oi := { dst := some 18, op := .call { callee := .builtin Go.Builtin.append, args := #[.tmp 15, .tmp 17], argTypes := #[35, 35] }, type := 35, pos := "l08_raft.go:6", after := #[{ on := 6, ground := .data }, { on := 8, ground := .data }], guard := none }) (v := ?_) rfl (by kernel_rfl) (by kernel_rfl) (by kernel_rfl) (fun _ _ _ h => h) (Or.inl ⟨by rfl, ?_⟩) (by assumption) ?_
          rotate_left 1
          · (intro w' hSw; (try dsimp only at hSw); go_simp; try with_reducible rfl)
          try simp only [Act.put, List.setIfInBounds_toArray, List.set_cons_zero, List.set_cons_succ]
          refine wpAnyH_take (i := 15) (oi := { dst := some 24, op := .build 38 #[(0, .tmp 9), (1, .tmp 10), (2, .tmp 12), (3, .tmp 14), (5, .const (.bool true)), (6, .tmp 18), (9, .tmp 20), (10, .tmp 21), (12, .tmp 23)], type := 38, pos := "l08_raft.go:6", after := #[{ on := 0, ground := .data }, { on := 1, ground := .data }, { on := 3, ground := .data }, { on := 5, ground := .data }, { on := 9, ground := .data }, { on := 11, ground := .data }, { on := 12, ground := .data }, { on := 14, ground := .data }], guard := none }) (v := ?_) rfl (by kernel_rfl) (by kernel_rfl) (by kernel_rfl) (fun _ _ _ h => h) (Or.inl ⟨by rfl, ?_⟩) (by assumption) ?_
          rotate_left 1
          · (intro w' hSw; (try dsimp only at hSw); go_simp; try with_reducible rfl)
          try simp only [Act.put, List.setIfInBounds_toArray, List.set_cons_zero, List.set_cons_succ]
          refine wpAnyH_ready (rs := [17]) (by kernel_rfl) (by simp) ?_
          refine AllReadyH.cons (o := { dst := none, op := .store 38 (.tmp 7) (.tmp 24), type := 0, pos := "l08_raft.go:6", after := #[{ on := 16, ground := .data }, { on := 15, ground := .data }, { on := 9, ground := .chain }, { on := 0, ground := .phase }, { on := 1, ground := .phase }, { on := 2, ground := .phase }, { on := 3, ground := .phase }, { on := 4, ground := .phase }, { on := 5, ground := .phase }, { on := 6, ground := .phase }, { on := 7, ground := .phase }, { on := 8, ground := .phase }, { on := 9, ground := .phase }, { on := 10, ground := .phase }, { on := 11, ground := .phase }, { on := 12, ground := .phase }, { on := 13, ground := .phase }, { on := 14, ground := .phase }, { on := 15, ground := .phase }, { on := 16, ground := .phase }], guard := none }) rfl (fun K hK => ?_) (AllReadyH.nil)
          have cp := (unhide N4).S
          have cf := (unhide N4).F
          have DI : gL ≠ gV ∧ gL ≠ gM ∧ gL ≠ gN ∧ gV ≠ gM ∧ gV ≠ gN ∧ gM ≠ gN ∧ w.heap.size + 1 < gL ∧ w.heap.size + 1 < gV ∧ w.heap.size + 1 < gM ∧ w.heap.size + 1 < gN := by have := unhide BSL; have := unhide BSV; have := unhide BSM; have := unhide BSN; have := unhide NEVM; have := unhide NEVN; have := unhide NEVL; have := unhide NEMN; have := unhide NEML; have := unhide NENL; omega
          obtain ⟨vz, hvz, hFN⟩ := put13 v4 (unhide N4) (.int .i64 id) (.int .i64 (m : Int)) (.int .i64 0) (.int .i64 (-1)) (.int .i64 0) (.bool true) (.slice (some ⟨gL, 0, none⟩) 0 0) (.int .i64 0) (.int .i64 0) (.int .i64 (5 + id)) (.slice (some ⟨gV, 0, none⟩) 0 0) (.slice none 0 0) (.slice (some ⟨gM, 0, none⟩) m m)
          obtain ⟨hFN, hO⟩ := hFN
          go_simp
          rw [← hvz]
          refine hK.out _ _ ?_ (fun hHeld17 => ?_)
          · exact ((unhide S4).outs hO (by omega)).S
          clear hK K
          try simp only [Act.put, List.setIfInBounds_toArray, List.set_cons_zero, List.set_cons_succ]
          refine wpAnyH_done (by kernel_rfl) ?_ _
          exact ⟨gL, gV, gM, gN, rfl, hFN, (unhide L4).outs hO (by omega), (unhide V4).outs hO (by omega), (unhide M4).outs hO (by omega), (unhide R4).outs hO (by omega), Below.outs (unhide B4) (unhide B4).size hO (by omega), DI⟩
      · skip
        obtain ⟨gN, hgN⟩ : ∃ g, g = v1.heap.size := ⟨_, rfl⟩
        have NEVN : Hid (gV < gN) := by show _ < _; rw [hgN]; exact (unhide V1).le
        have BSN : Hid (w.heap.size + 1 < gN) := by show _ < _; rw [hgN]; exact (unhide R1).lt
        have hb : Below v1.heap.size v1 (v1.alloc (.cells #[.int .i64 0, .int .i64 0, .int .i64 0, .int .i64 0, .int .i64 0, .bool false, .slice none 0 0, .int .i64 0, .int .i64 0, .int .i64 0, .slice none 0 0, .slice none 0 0, .slice none 0 0] 38)) := Go.Joins.below_alloc1 v1 (.cells #[.int .i64 0, .int .i64 0, .int .i64 0, .int .i64 0, .int .i64 0, .bool false, .slice none 0 0, .int .i64 0, .int .i64 0, .int .i64 0, .slice none 0 0, .slice none 0 0, .slice none 0 0] 38)
        have N2 : Hid (BF gN #[.int .i64 0, .int .i64 0, .int .i64 0, .int .i64 0, .int .i64 0, .bool false, .slice none 0 0, .int .i64 0, .int .i64 0, .int .i64 0, .slice none 0 0, .slice none 0 0, .slice none 0 0] (v1.alloc (.cells #[.int .i64 0, .int .i64 0, .int .i64 0, .int .i64 0, .int .i64 0, .bool false, .slice none 0 0, .int .i64 0, .int .i64 0, .int .i64 0, .slice none 0 0, .slice none 0 0, .slice none 0 0] 38))) := by rw [hgN]; exact BF.new v1 #[.int .i64 0, .int .i64 0, .int .i64 0, .int .i64 0, .int .i64 0, .bool false, .slice none 0 0, .int .i64 0, .int .i64 0, .int .i64 0, .slice none 0 0, .slice none 0 0, .slice none 0 0] 38
        have V2 := hide ((unhide V1).below hb (unhide V1).le)
        have B2 := hide ((unhide B1).trans (hb.mono (unhide B1).size))
        have S2 := hide ((unhide S1).below hb)
        have R2 := hide ((unhide R1).below hb)
        clear hb B1 S1 R1 V1
        go_simp
        refine hK.out _ _ ?_ (fun hHeld16 => ?_)
        · exact (unhide S2).S
        clear hK K
        try simp only [Act.put, List.setIfInBounds_toArray, List.set_cons_zero, List.set_cons_succ]
        rw [← hgN]
        clear hgN
        generalize v1.alloc (.cells #[.int .i64 0, .int .i64 0, .int .i64 0, .int .i64 0, .int .i64 0, .bool false, .slice none 0 0, .int .i64 0, .int .i64 0, .int .i64 0, .slice none 0 0, .slice none 0 0, .slice none 0 0] 38) = v2 at B2 S2 R2 N2 V2 hHeld16 ⊢
        refine wpAnyH_ready (rs := [6, 14]) (by kernel_rfl) (by simp) ?_
        refine AllReadyH.cons (o := { dst := some 15, op := .buildSlice 35 0 #[], type := 35, pos := "l08_raft.go:6", after := #[], guard := none }) rfl (fun K hK => ?_) (AllReadyH.cons (o := { dst := some 23, op := .makeSlice 36 (.tmp 22) (.tmp 22), type := 36, pos := "l08_raft.go:6", after := #[{ on := 13, ground := .data }, { on := 13, ground := .data }], guard := none }) rfl (fun K hK => ?_) (AllReadyH.nil))
        · skip
          obtain ⟨gL, hgL⟩ : ∃ g, g = v2.heap.size := ⟨_, rfl⟩
          have NEVL : Hid (gV < gL) := by show _ < _; rw [hgL]; exact (unhide V2).le
          have NENL : Hid (gN < gL) := by show _ < _; rw [hgL]; exact (unhide N2).lt
          have BSL : Hid (w.heap.size + 1 < gL) := by show _ < _; rw [hgL]; exact (unhide R2).lt
          have hb : Below v2.heap.size v2 (v2.alloc (.cells #[] 67)) := Go.Joins.below_alloc1 v2 (.cells #[] 67)
          have L3 : Hid (HeldZ 2 (v2.alloc (.cells #[] 67)) gL (gL + 1) 67 (.slice (some ⟨gL, 0, none⟩) 0 0) 0 []) := by rw [hgL]; exact ⟨World.ownsRow_lit (e := 67) (base := v2.heap.size) (size := 2) v2 #[] 0 (Nat.le_refl _) (by unfold maxLen; omega) rfl, (fun k hk => by have e : v2.heap.size = k := Option.some.inj hk; omega), by simp⟩
          have V3 := hide ((unhide V2).below hb (unhide V2).le)
          have N3 := hide ((unhide N2).below hb)
          have B3 := hide ((unhide B2).trans (hb.mono (unhide B2).size))
          have S3 := hide ((unhide S2).below hb)
          have R3 := hide ((unhide R2).below hb)
          clear hb B2 S2 R2 V2 N2
          go_simp
          refine hK.out _ _ ?_ (fun hHeld6 => ?_)
          · exact (unhide S3).S
          clear hK K
          try simp only [Act.put, List.setIfInBounds_toArray, List.set_cons_zero, List.set_cons_succ]
          rw [← hgL]
          clear hgL
          generalize v2.alloc (.cells #[] 67) = v3 at B3 S3 R3 L3 V3 N3 hHeld6 ⊢
          refine wpAnyH_take (i := 9) (oi := { dst := some 18, op := .call { callee := .builtin Go.Builtin.append, args := #[.tmp 15, .tmp 17], argTypes := #[35, 35] }, type := 35, pos := "l08_raft.go:6", after := #[{ on := 6, ground := .data }, { on := 8, ground := .data }], guard := none }) (v := ?_) rfl (by kernel_rfl) (by kernel_rfl) (by kernel_rfl) (fun _ _ _ h => h) (Or.inl ⟨by rfl, ?_⟩) (by assumption) ?_
          rotate_left 1
          · (intro w' hSw; (try dsimp only at hSw); go_simp; try with_reducible rfl)
          try simp only [Act.put, List.setIfInBounds_toArray, List.set_cons_zero, List.set_cons_succ]
          refine wpAnyH_ready (rs := [14]) (by kernel_rfl) (by simp) ?_
          refine AllReadyH.cons (o := { dst := some 23, op := .makeSlice 36 (.tmp 22) (.tmp 22), type := 36, pos := "l08_raft.go:6", after := #[{ on := 13, ground := .data }, { on := 13, ground := .data }], guard := none }) rfl (fun K hK => ?_) (AllReadyH.nil)
          obtain ⟨gM, hgM⟩ : ∃ g, g = v3.heap.size := ⟨_, rfl⟩
          have NEVM : Hid (gV < gM) := by show _ < _; rw [hgM]; exact (unhide V3).le
          have NENM : Hid (gN < gM) := by show _ < _; rw [hgM]; exact (unhide N3).lt
          have NELM : Hid (gL < gM) := by show _ < _; rw [hgM]; exact (unhide L3).le
          have BSM : Hid (w.heap.size + 1 < gM) := by show _ < _; rw [hgM]; exact (unhide R3).lt
          obtain ⟨v4, hrun, ho, hgr⟩ := run_make_full (P := Try.prog) (w := v3) v3.heap.size 36 3 i0 (.int .i64 0) 1 Try.underlying36 hi hz0 hz1 .i64 .i64 m (by rw [hz2]; omega) (by unfold maxLen; omega) (Nat.le_refl _)
          have hb : Below v3.heap.size v3 v4 := (Below.refl _ _).grown hgr (Nat.le_refl _) (fun k hk => by cases hk)
          rw [show (madeCells (Value.int .i64 0).cells (m * 1)).toList = cI (List.replicate m 0) from by rw [show (Value.int .i64 0).cells = #[.int .i64 0] from rfl, toList_madeCells_one]; simp [cI]] at ho
          have M4 : Hid (Held v4 gM (gM + 1) 3 (.slice (some ⟨gM, 0, none⟩) m m) m (cI (List.replicate m 0))) := by rw [hgM]; exact ⟨ho, (fun k hk => by have e : v3.heap.size = k := Option.some.inj hk; omega), (ho.lt v3.heap.size rfl).2⟩
          rw [← hgM] at hrun
          have V4 := hide ((unhide V3).below hb (unhide V3).le)
          have N4 := hide ((unhide N3).below hb)
          have L4 := hide ((unhide L3).below hb (unhide L3).le)
          have B4 := hide ((unhide B3).trans (hb.mono (unhide B3).size))
          have S4 := hide ((unhide S3).below hb)
          have R4 := hide ((unhide R3).below hb)
          clear hb B3 S3 R3 V3 N3 L3 ho hgr hgM
          go_simp
          refine hK.out _ _ ?_ (fun hHeld14 => ?_)
          · exact (unhide S4).S
          clear hK K
          try simp only [Act.put, List.setIfInBounds_toArray, List.set_cons_zero, List.set_cons_succ]
          clear hrun
          refine wpAnyH_take (i := 15) (oi := { dst := some 24, op := .build 38 #[(0, .tmp 9), (1, .tmp 10), (2, .tmp 12), (3, .tmp 14), (5, .const (.bool true)), (6, .tmp 18), (9, .tmp 20), (10, .tmp 21), (12, .tmp 23)], type := 38, pos := "l08_raft.go:6", after := #[{ on := 0, ground := .data }, { on := 1, ground := .data }, { on := 3, ground := .data }, { on := 5, ground := .data }, { on := 9, ground := .data }, { on := 11, ground := .data }, { on := 12, ground := .data }, { on := 14, ground := .data }], guard := none }) (v := ?_) rfl (by kernel_rfl) (by kernel_rfl) (by kernel_rfl) (fun _ _ _ h => h) (Or.inl ⟨by rfl, ?_⟩) (by assumption) ?_
          rotate_left 1
          · (intro w' hSw; (try dsimp only at hSw); go_simp; try with_reducible rfl)
          try simp only [Act.put, List.setIfInBounds_toArray, List.set_cons_zero, List.set_cons_succ]
          refine wpAnyH_ready (rs := [17]) (by kernel_rfl) (by simp) ?_
          refine AllReadyH.cons (o := { dst := none, op := .store 38 (.tmp 7) (.tmp 24), type := 0, pos := "l08_raft.go:6", after := #[{ on := 16, ground := .data }, { on := 15, ground := .data }, { on := 9, ground := .chain }, { on := 0, ground := .phase }, { on := 1, ground := .phase }, { on := 2, ground := .phase }, { on := 3, ground := .phase }, { on := 4, ground := .phase }, { on := 5, ground := .phase }, { on := 6, ground := .phase }, { on := 7, ground := .phase }, { on := 8, ground := .phase }, { on := 9, ground := .phase }, { on := 10, ground := .phase }, { on := 11, ground := .phase }, { on := 12, ground := .phase }, { on := 13, ground := .phase }, { on := 14, ground := .phase }, { on := 15, ground := .phase }, { on := 16, ground := .phase }], guard := none }) rfl (fun K hK => ?_) (AllReadyH.nil)
          have cp := (unhide N4).S
          have cf := (unhide N4).F
          have DI : gL ≠ gV ∧ gL ≠ gM ∧ gL ≠ gN ∧ gV ≠ gM ∧ gV ≠ gN ∧ gM ≠ gN ∧ w.heap.size + 1 < gL ∧ w.heap.size + 1 < gV ∧ w.heap.size + 1 < gM ∧ w.heap.size + 1 < gN := by have := unhide BSL; have := unhide BSV; have := unhide BSM; have := unhide BSN; have := unhide NEVN; have := unhide NEVL; have := unhide NEVM; have := unhide NENL; have := unhide NENM; have := unhide NELM; omega
          obtain ⟨vz, hvz, hFN⟩ := put13 v4 (unhide N4) (.int .i64 id) (.int .i64 (m : Int)) (.int .i64 0) (.int .i64 (-1)) (.int .i64 0) (.bool true) (.slice (some ⟨gL, 0, none⟩) 0 0) (.int .i64 0) (.int .i64 0) (.int .i64 (5 + id)) (.slice (some ⟨gV, 0, none⟩) 0 0) (.slice none 0 0) (.slice (some ⟨gM, 0, none⟩) m m)
          obtain ⟨hFN, hO⟩ := hFN
          go_simp
          rw [← hvz]
          refine hK.out _ _ ?_ (fun hHeld17 => ?_)
          · exact ((unhide S4).outs hO (by omega)).S
          clear hK K
          try simp only [Act.put, List.setIfInBounds_toArray, List.set_cons_zero, List.set_cons_succ]
          refine wpAnyH_done (by kernel_rfl) ?_ _
          exact ⟨gL, gV, gM, gN, rfl, hFN, (unhide L4).outs hO (by omega), (unhide V4).outs hO (by omega), (unhide M4).outs hO (by omega), (unhide R4).outs hO (by omega), Below.outs (unhide B4) (unhide B4).size hO (by omega), DI⟩
        · skip
          obtain ⟨gM, hgM⟩ : ∃ g, g = v2.heap.size := ⟨_, rfl⟩
          have NEVM : Hid (gV < gM) := by show _ < _; rw [hgM]; exact (unhide V2).le
          have NENM : Hid (gN < gM) := by show _ < _; rw [hgM]; exact (unhide N2).lt
          have BSM : Hid (w.heap.size + 1 < gM) := by show _ < _; rw [hgM]; exact (unhide R2).lt
          obtain ⟨v3, hrun, ho, hgr⟩ := run_make_full (P := Try.prog) (w := v2) v2.heap.size 36 3 i0 (.int .i64 0) 1 Try.underlying36 hi hz0 hz1 .i64 .i64 m (by rw [hz2]; omega) (by unfold maxLen; omega) (Nat.le_refl _)
          have hb : Below v2.heap.size v2 v3 := (Below.refl _ _).grown hgr (Nat.le_refl _) (fun k hk => by cases hk)
          rw [show (madeCells (Value.int .i64 0).cells (m * 1)).toList = cI (List.replicate m 0) from by rw [show (Value.int .i64 0).cells = #[.int .i64 0] from rfl, toList_madeCells_one]; simp [cI]] at ho
          have M3 : Hid (Held v3 gM (gM + 1) 3 (.slice (some ⟨gM, 0, none⟩) m m) m (cI (List.replicate m 0))) := by rw [hgM]; exact ⟨ho, (fun k hk => by have e : v2.heap.size = k := Option.some.inj hk; omega), (ho.lt v2.heap.size rfl).2⟩
          rw [← hgM] at hrun
          have V3 := hide ((unhide V2).below hb (unhide V2).le)
          have N3 := hide ((unhide N2).below hb)
          have B3 := hide ((unhide B2).trans (hb.mono (unhide B2).size))
          have S3 := hide ((unhide S2).below hb)
          have R3 := hide ((unhide R2).below hb)
          clear hb B2 S2 R2 V2 N2 ho hgr hgM
          go_simp
          refine hK.out _ _ ?_ (fun hHeld14 => ?_)
          · exact (unhide S3).S
          clear hK K
          try simp only [Act.put, List.setIfInBounds_toArray, List.set_cons_zero, List.set_cons_succ]
          clear hrun
          refine wpAnyH_ready (rs := [6]) (by kernel_rfl) (by simp) ?_
          refine AllReadyH.cons (o := { dst := some 15, op := .buildSlice 35 0 #[], type := 35, pos := "l08_raft.go:6", after := #[], guard := none }) rfl (fun K hK => ?_) (AllReadyH.nil)
          obtain ⟨gL, hgL⟩ : ∃ g, g = v3.heap.size := ⟨_, rfl⟩
          have NEVL : Hid (gV < gL) := by show _ < _; rw [hgL]; exact (unhide V3).le
          have NENL : Hid (gN < gL) := by show _ < _; rw [hgL]; exact (unhide N3).lt
          have NEML : Hid (gM < gL) := by show _ < _; rw [hgL]; exact (unhide M3).le
          have BSL : Hid (w.heap.size + 1 < gL) := by show _ < _; rw [hgL]; exact (unhide R3).lt
          have hb : Below v3.heap.size v3 (v3.alloc (.cells #[] 67)) := Go.Joins.below_alloc1 v3 (.cells #[] 67)
          have L4 : Hid (HeldZ 2 (v3.alloc (.cells #[] 67)) gL (gL + 1) 67 (.slice (some ⟨gL, 0, none⟩) 0 0) 0 []) := by rw [hgL]; exact ⟨World.ownsRow_lit (e := 67) (base := v3.heap.size) (size := 2) v3 #[] 0 (Nat.le_refl _) (by unfold maxLen; omega) rfl, (fun k hk => by have e : v3.heap.size = k := Option.some.inj hk; omega), by simp⟩
          have V4 := hide ((unhide V3).below hb (unhide V3).le)
          have N4 := hide ((unhide N3).below hb)
          have M4 := hide ((unhide M3).below hb (unhide M3).le)
          have B4 := hide ((unhide B3).trans (hb.mono (unhide B3).size))
          have S4 := hide ((unhide S3).below hb)
          have R4 := hide ((unhide R3).below hb)
          clear hb B3 S3 R3 V3 N3 M3
          go_simp
          refine hK.out _ _ ?_ (fun hHeld6 => ?_)
          · exact (unhide S4).S
          clear hK K
          try simp only [Act.put, List.setIfInBounds_toArray, List.set_cons_zero, List.set_cons_succ]
          rw [← hgL]
          clear hgL
          generalize v3.alloc (.cells #[] 67) = v4 at B4 S4 R4 L4 V4 N4 M4 hHeld6 ⊢
          refine wpAnyH_take (i := 9) (oi := { dst := some 18, op := .call { callee := .builtin Go.Builtin.append, args := #[.tmp 15, .tmp 17], argTypes := #[35, 35] }, type := 35, pos := "l08_raft.go:6", after := #[{ on := 6, ground := .data }, { on := 8, ground := .data }], guard := none }) (v := ?_) rfl (by kernel_rfl) (by kernel_rfl) (by kernel_rfl) (fun _ _ _ h => h) (Or.inl ⟨by rfl, ?_⟩) (by assumption) ?_
          rotate_left 1
          · (intro w' hSw; (try dsimp only at hSw); go_simp; try with_reducible rfl)
          try simp only [Act.put, List.setIfInBounds_toArray, List.set_cons_zero, List.set_cons_succ]
          refine wpAnyH_take (i := 15) (oi := { dst := some 24, op := .build 38 #[(0, .tmp 9), (1, .tmp 10), (2, .tmp 12), (3, .tmp 14), (5, .const (.bool true)), (6, .tmp 18), (9, .tmp 20), (10, .tmp 21), (12, .tmp 23)], type := 38, pos := "l08_raft.go:6", after := #[{ on := 0, ground := .data }, { on := 1, ground := .data }, { on := 3, ground := .data }, { on := 5, ground := .data }, { on := 9, ground := .data }, { on := 11, ground := .data }, { on := 12, ground := .data }, { on := 14, ground := .data }], guard := none }) (v := ?_) rfl (by kernel_rfl) (by kernel_rfl) (by kernel_rfl) (fun _ _ _ h => h) (Or.inl ⟨by rfl, ?_⟩) (by assumption) ?_
          rotate_left 1
          · (intro w' hSw; (try dsimp only at hSw); go_simp; try with_reducible rfl)
          try simp only [Act.put, List.setIfInBounds_toArray, List.set_cons_zero, List.set_cons_succ]
          refine wpAnyH_ready (rs := [17]) (by kernel_rfl) (by simp) ?_
          refine AllReadyH.cons (o := { dst := none, op := .store 38 (.tmp 7) (.tmp 24), type := 0, pos := "l08_raft.go:6", after := #[{ on := 16, ground := .data }, { on := 15, ground := .data }, { on := 9, ground := .chain }, { on := 0, ground := .phase }, { on := 1, ground := .phase }, { on := 2, ground := .phase }, { on := 3, ground := .phase }, { on := 4, ground := .phase }, { on := 5, ground := .phase }, { on := 6, ground := .phase }, { on := 7, ground := .phase }, { on := 8, ground := .phase }, { on := 9, ground := .phase }, { on := 10, ground := .phase }, { on := 11, ground := .phase }, { on := 12, ground := .phase }, { on := 13, ground := .phase }, { on := 14, ground := .phase }, { on := 15, ground := .phase }, { on := 16, ground := .phase }], guard := none }) rfl (fun K hK => ?_) (AllReadyH.nil)
          have cp := (unhide N4).S
          have cf := (unhide N4).F
          have DI : gL ≠ gV ∧ gL ≠ gM ∧ gL ≠ gN ∧ gV ≠ gM ∧ gV ≠ gN ∧ gM ≠ gN ∧ w.heap.size + 1 < gL ∧ w.heap.size + 1 < gV ∧ w.heap.size + 1 < gM ∧ w.heap.size + 1 < gN := by have := unhide BSL; have := unhide BSV; have := unhide BSM; have := unhide BSN; have := unhide NEVN; have := unhide NEVM; have := unhide NEVL; have := unhide NENM; have := unhide NENL; have := unhide NEML; omega
          obtain ⟨vz, hvz, hFN⟩ := put13 v4 (unhide N4) (.int .i64 id) (.int .i64 (m : Int)) (.int .i64 0) (.int .i64 (-1)) (.int .i64 0) (.bool true) (.slice (some ⟨gL, 0, none⟩) 0 0) (.int .i64 0) (.int .i64 0) (.int .i64 (5 + id)) (.slice (some ⟨gV, 0, none⟩) 0 0) (.slice none 0 0) (.slice (some ⟨gM, 0, none⟩) m m)
          obtain ⟨hFN, hO⟩ := hFN
          go_simp
          rw [← hvz]
          refine hK.out _ _ ?_ (fun hHeld17 => ?_)
          · exact ((unhide S4).outs hO (by omega)).S
          clear hK K
          try simp only [Act.put, List.setIfInBounds_toArray, List.set_cons_zero, List.set_cons_succ]
          refine wpAnyH_done (by kernel_rfl) ?_ _
          exact ⟨gL, gV, gM, gN, rfl, hFN, (unhide L4).outs hO (by omega), (unhide V4).outs hO (by omega), (unhide M4).outs hO (by omega), (unhide R4).outs hO (by omega), Below.outs (unhide B4) (unhide B4).size hO (by omega), DI⟩
    · skip
      obtain ⟨gM, hgM⟩ : ∃ g, g = v0.heap.size := ⟨_, rfl⟩
      have BSM : Hid (w.heap.size + 1 < gM) := by show _ < _; rw [hgM]; exact (unhide R0).lt
      obtain ⟨v1, hrun, ho, hgr⟩ := run_make_full (P := Try.prog) (w := v0) v0.heap.size 36 3 i0 (.int .i64 0) 1 Try.underlying36 hi hz0 hz1 .i64 .i64 m (by rw [hz2]; omega) (by unfold maxLen; omega) (Nat.le_refl _)
      have hb : Below v0.heap.size v0 v1 := (Below.refl _ _).grown hgr (Nat.le_refl _) (fun k hk => by cases hk)
      rw [show (madeCells (Value.int .i64 0).cells (m * 1)).toList = cI (List.replicate m 0) from by rw [show (Value.int .i64 0).cells = #[.int .i64 0] from rfl, toList_madeCells_one]; simp [cI]] at ho
      have M1 : Hid (Held v1 gM (gM + 1) 3 (.slice (some ⟨gM, 0, none⟩) m m) m (cI (List.replicate m 0))) := by rw [hgM]; exact ⟨ho, (fun k hk => by have e : v0.heap.size = k := Option.some.inj hk; omega), (ho.lt v0.heap.size rfl).2⟩
      rw [← hgM] at hrun
      have B1 := hide ((unhide B0).trans (hb.mono (unhide B0).size))
      have S1 := hide ((unhide S0).below hb)
      have R1 := hide ((unhide R0).below hb)
      clear hb B0 S0 R0  ho hgr hgM
      go_simp
      refine hK.out _ _ ?_ (fun hHeld14 => ?_)
      · exact (unhide S1).S
      clear hK K
      try simp only [Act.put, List.setIfInBounds_toArray, List.set_cons_zero, List.set_cons_succ]
      clear hrun
      refine wpAnyH_ready (rs := [6, 12, 16]) (by kernel_rfl) (by simp) ?_
      refine AllReadyH.cons (o := { dst := some 15, op := .buildSlice 35 0 #[], type := 35, pos := "l08_raft.go:6", after := #[], guard := none }) rfl (fun K hK => ?_) (AllReadyH.cons (o := { dst := some 21, op := .buildSlice 36 0 #[], type := 36, pos := "l08_raft.go:6", after := #[], guard := none }) rfl (fun K hK => ?_) (AllReadyH.cons (o := { dst := some 7, op := .alloc 38, type := 0, pos := "l08_raft.go:6", after := #[], guard := none }) rfl (fun K hK => ?_) (AllReadyH.nil)))
      · skip
        obtain ⟨gL, hgL⟩ : ∃ g, g = v1.heap.size := ⟨_, rfl⟩
        have NEML : Hid (gM < gL) := by show _ < _; rw [hgL]; exact (unhide M1).le
        have BSL : Hid (w.heap.size + 1 < gL) := by show _ < _; rw [hgL]; exact (unhide R1).lt
        have hb : Below v1.heap.size v1 (v1.alloc (.cells #[] 67)) := Go.Joins.below_alloc1 v1 (.cells #[] 67)
        have L2 : Hid (HeldZ 2 (v1.alloc (.cells #[] 67)) gL (gL + 1) 67 (.slice (some ⟨gL, 0, none⟩) 0 0) 0 []) := by rw [hgL]; exact ⟨World.ownsRow_lit (e := 67) (base := v1.heap.size) (size := 2) v1 #[] 0 (Nat.le_refl _) (by unfold maxLen; omega) rfl, (fun k hk => by have e : v1.heap.size = k := Option.some.inj hk; omega), by simp⟩
        have M2 := hide ((unhide M1).below hb (unhide M1).le)
        have B2 := hide ((unhide B1).trans (hb.mono (unhide B1).size))
        have S2 := hide ((unhide S1).below hb)
        have R2 := hide ((unhide R1).below hb)
        clear hb B1 S1 R1 M1
        go_simp
        refine hK.out _ _ ?_ (fun hHeld6 => ?_)
        · exact (unhide S2).S
        clear hK K
        try simp only [Act.put, List.setIfInBounds_toArray, List.set_cons_zero, List.set_cons_succ]
        rw [← hgL]
        clear hgL
        generalize v1.alloc (.cells #[] 67) = v2 at B2 S2 R2 L2 M2 hHeld6 ⊢
        refine wpAnyH_take (i := 9) (oi := { dst := some 18, op := .call { callee := .builtin Go.Builtin.append, args := #[.tmp 15, .tmp 17], argTypes := #[35, 35] }, type := 35, pos := "l08_raft.go:6", after := #[{ on := 6, ground := .data }, { on := 8, ground := .data }], guard := none }) (v := ?_) rfl (by kernel_rfl) (by kernel_rfl) (by kernel_rfl) (fun _ _ _ h => h) (Or.inl ⟨by rfl, ?_⟩) (by assumption) ?_
        rotate_left 1
        · (intro w' hSw; (try dsimp only at hSw); go_simp; try with_reducible rfl)
        try simp only [Act.put, List.setIfInBounds_toArray, List.set_cons_zero, List.set_cons_succ]
        refine wpAnyH_ready (rs := [12, 16]) (by kernel_rfl) (by simp) ?_
        refine AllReadyH.cons (o := { dst := some 21, op := .buildSlice 36 0 #[], type := 36, pos := "l08_raft.go:6", after := #[], guard := none }) rfl (fun K hK => ?_) (AllReadyH.cons (o := { dst := some 7, op := .alloc 38, type := 0, pos := "l08_raft.go:6", after := #[], guard := none }) rfl (fun K hK => ?_) (AllReadyH.nil))
        · skip
          obtain ⟨gV, hgV⟩ : ∃ g, g = v2.heap.size := ⟨_, rfl⟩
          have NEMV : Hid (gM < gV) := by show _ < _; rw [hgV]; exact (unhide M2).le
          have NELV : Hid (gL < gV) := by show _ < _; rw [hgV]; exact (unhide L2).le
          have BSV : Hid (w.heap.size + 1 < gV) := by show _ < _; rw [hgV]; exact (unhide R2).lt
          have hb : Below v2.heap.size v2 (v2.alloc (.cells #[] 3)) := Go.Joins.below_alloc1 v2 (.cells #[] 3)
          have V3 : Hid (Held (v2.alloc (.cells #[] 3)) gV (gV + 1) 3 (.slice (some ⟨gV, 0, none⟩) 0 0) 0 []) := by rw [hgV]; exact ⟨World.ownsRow_lit (e := 3) (base := v2.heap.size) (size := 1) v2 #[] 0 (Nat.le_refl _) (by unfold maxLen; omega) rfl, (fun k hk => by have e : v2.heap.size = k := Option.some.inj hk; omega), by simp⟩
          have M3 := hide ((unhide M2).below hb (unhide M2).le)
          have L3 := hide ((unhide L2).below hb (unhide L2).le)
          have B3 := hide ((unhide B2).trans (hb.mono (unhide B2).size))
          have S3 := hide ((unhide S2).below hb)
          have R3 := hide ((unhide R2).below hb)
          clear hb B2 S2 R2 M2 L2
          go_simp
          refine hK.out _ _ ?_ (fun hHeld12 => ?_)
          · exact (unhide S3).S
          clear hK K
          try simp only [Act.put, List.setIfInBounds_toArray, List.set_cons_zero, List.set_cons_succ]
          rw [← hgV]
          clear hgV
          generalize v2.alloc (.cells #[] 3) = v3 at B3 S3 R3 V3 M3 L3 hHeld12 ⊢
          refine wpAnyH_take (i := 15) (oi := { dst := some 24, op := .build 38 #[(0, .tmp 9), (1, .tmp 10), (2, .tmp 12), (3, .tmp 14), (5, .const (.bool true)), (6, .tmp 18), (9, .tmp 20), (10, .tmp 21), (12, .tmp 23)], type := 38, pos := "l08_raft.go:6", after := #[{ on := 0, ground := .data }, { on := 1, ground := .data }, { on := 3, ground := .data }, { on := 5, ground := .data }, { on := 9, ground := .data }, { on := 11, ground := .data }, { on := 12, ground := .data }, { on := 14, ground := .data }], guard := none }) (v := ?_) rfl (by kernel_rfl) (by kernel_rfl) (by kernel_rfl) (fun _ _ _ h => h) (Or.inl ⟨by rfl, ?_⟩) (by assumption) ?_
          rotate_left 1
          · (intro w' hSw; (try dsimp only at hSw); go_simp; try with_reducible rfl)
          try simp only [Act.put, List.setIfInBounds_toArray, List.set_cons_zero, List.set_cons_succ]
          refine wpAnyH_ready (rs := [16]) (by kernel_rfl) (by simp) ?_
          refine AllReadyH.cons (o := { dst := some 7, op := .alloc 38, type := 0, pos := "l08_raft.go:6", after := #[], guard := none }) rfl (fun K hK => ?_) (AllReadyH.nil)
          obtain ⟨gN, hgN⟩ : ∃ g, g = v3.heap.size := ⟨_, rfl⟩
          have NEMN : Hid (gM < gN) := by show _ < _; rw [hgN]; exact (unhide M3).le
          have NELN : Hid (gL < gN) := by show _ < _; rw [hgN]; exact (unhide L3).le
          have NEVN : Hid (gV < gN) := by show _ < _; rw [hgN]; exact (unhide V3).le
          have BSN : Hid (w.heap.size + 1 < gN) := by show _ < _; rw [hgN]; exact (unhide R3).lt
          have hb : Below v3.heap.size v3 (v3.alloc (.cells #[.int .i64 0, .int .i64 0, .int .i64 0, .int .i64 0, .int .i64 0, .bool false, .slice none 0 0, .int .i64 0, .int .i64 0, .int .i64 0, .slice none 0 0, .slice none 0 0, .slice none 0 0] 38)) := Go.Joins.below_alloc1 v3 (.cells #[.int .i64 0, .int .i64 0, .int .i64 0, .int .i64 0, .int .i64 0, .bool false, .slice none 0 0, .int .i64 0, .int .i64 0, .int .i64 0, .slice none 0 0, .slice none 0 0, .slice none 0 0] 38)
          have N4 : Hid (BF gN #[.int .i64 0, .int .i64 0, .int .i64 0, .int .i64 0, .int .i64 0, .bool false, .slice none 0 0, .int .i64 0, .int .i64 0, .int .i64 0, .slice none 0 0, .slice none 0 0, .slice none 0 0] (v3.alloc (.cells #[.int .i64 0, .int .i64 0, .int .i64 0, .int .i64 0, .int .i64 0, .bool false, .slice none 0 0, .int .i64 0, .int .i64 0, .int .i64 0, .slice none 0 0, .slice none 0 0, .slice none 0 0] 38))) := by rw [hgN]; exact BF.new v3 #[.int .i64 0, .int .i64 0, .int .i64 0, .int .i64 0, .int .i64 0, .bool false, .slice none 0 0, .int .i64 0, .int .i64 0, .int .i64 0, .slice none 0 0, .slice none 0 0, .slice none 0 0] 38
          have M4 := hide ((unhide M3).below hb (unhide M3).le)
          have L4 := hide ((unhide L3).below hb (unhide L3).le)
          have V4 := hide ((unhide V3).below hb (unhide V3).le)
          have B4 := hide ((unhide B3).trans (hb.mono (unhide B3).size))
          have S4 := hide ((unhide S3).below hb)
          have R4 := hide ((unhide R3).below hb)
          clear hb B3 S3 R3 M3 L3 V3
          go_simp
          refine hK.out _ _ ?_ (fun hHeld16 => ?_)
          · exact (unhide S4).S
          clear hK K
          try simp only [Act.put, List.setIfInBounds_toArray, List.set_cons_zero, List.set_cons_succ]
          rw [← hgN]
          clear hgN
          generalize v3.alloc (.cells #[.int .i64 0, .int .i64 0, .int .i64 0, .int .i64 0, .int .i64 0, .bool false, .slice none 0 0, .int .i64 0, .int .i64 0, .int .i64 0, .slice none 0 0, .slice none 0 0, .slice none 0 0] 38) = v4 at B4 S4 R4 N4 M4 L4 V4 hHeld16 ⊢
          refine wpAnyH_ready (rs := [17]) (by kernel_rfl) (by simp) ?_
          refine AllReadyH.cons (o := { dst := none, op := .store 38 (.tmp 7) (.tmp 24), type := 0, pos := "l08_raft.go:6", after := #[{ on := 16, ground := .data }, { on := 15, ground := .data }, { on := 9, ground := .chain }, { on := 0, ground := .phase }, { on := 1, ground := .phase }, { on := 2, ground := .phase }, { on := 3, ground := .phase }, { on := 4, ground := .phase }, { on := 5, ground := .phase }, { on := 6, ground := .phase }, { on := 7, ground := .phase }, { on := 8, ground := .phase }, { on := 9, ground := .phase }, { on := 10, ground := .phase }, { on := 11, ground := .phase }, { on := 12, ground := .phase }, { on := 13, ground := .phase }, { on := 14, ground := .phase }, { on := 15, ground := .phase }, { on := 16, ground := .phase }], guard := none }) rfl (fun K hK => ?_) (AllReadyH.nil)
          have cp := (unhide N4).S
          have cf := (unhide N4).F
          have DI : gL ≠ gV ∧ gL ≠ gM ∧ gL ≠ gN ∧ gV ≠ gM ∧ gV ≠ gN ∧ gM ≠ gN ∧ w.heap.size + 1 < gL ∧ w.heap.size + 1 < gV ∧ w.heap.size + 1 < gM ∧ w.heap.size + 1 < gN := by have := unhide BSL; have := unhide BSV; have := unhide BSM; have := unhide BSN; have := unhide NEML; have := unhide NEMV; have := unhide NEMN; have := unhide NELV; have := unhide NELN; have := unhide NEVN; omega
          obtain ⟨vz, hvz, hFN⟩ := put13 v4 (unhide N4) (.int .i64 id) (.int .i64 (m : Int)) (.int .i64 0) (.int .i64 (-1)) (.int .i64 0) (.bool true) (.slice (some ⟨gL, 0, none⟩) 0 0) (.int .i64 0) (.int .i64 0) (.int .i64 (5 + id)) (.slice (some ⟨gV, 0, none⟩) 0 0) (.slice none 0 0) (.slice (some ⟨gM, 0, none⟩) m m)
          obtain ⟨hFN, hO⟩ := hFN
          go_simp
          rw [← hvz]
          refine hK.out _ _ ?_ (fun hHeld17 => ?_)
          · exact ((unhide S4).outs hO (by omega)).S
          clear hK K
          try simp only [Act.put, List.setIfInBounds_toArray, List.set_cons_zero, List.set_cons_succ]
          refine wpAnyH_done (by kernel_rfl) ?_ _
          exact ⟨gL, gV, gM, gN, rfl, hFN, (unhide L4).outs hO (by omega), (unhide V4).outs hO (by omega), (unhide M4).outs hO (by omega), (unhide R4).outs hO (by omega), Below.outs (unhide B4) (unhide B4).size hO (by omega), DI⟩
        · skip
          obtain ⟨gN, hgN⟩ : ∃ g, g = v2.heap.size := ⟨_, rfl⟩
          have NEMN : Hid (gM < gN) := by show _ < _; rw [hgN]; exact (unhide M2).le
          have NELN : Hid (gL < gN) := by show _ < _; rw [hgN]; exact (unhide L2).le
          have BSN : Hid (w.heap.size + 1 < gN) := by show _ < _; rw [hgN]; exact (unhide R2).lt
          have hb : Below v2.heap.size v2 (v2.alloc (.cells #[.int .i64 0, .int .i64 0, .int .i64 0, .int .i64 0, .int .i64 0, .bool false, .slice none 0 0, .int .i64 0, .int .i64 0, .int .i64 0, .slice none 0 0, .slice none 0 0, .slice none 0 0] 38)) := Go.Joins.below_alloc1 v2 (.cells #[.int .i64 0, .int .i64 0, .int .i64 0, .int .i64 0, .int .i64 0, .bool false, .slice none 0 0, .int .i64 0, .int .i64 0, .int .i64 0, .slice none 0 0, .slice none 0 0, .slice none 0 0] 38)
          have N3 : Hid (BF gN #[.int .i64 0, .int .i64 0, .int .i64 0, .int .i64 0, .int .i64 0, .bool false, .slice none 0 0, .int .i64 0, .int .i64 0, .int .i64 0, .slice none 0 0, .slice none 0 0, .slice none 0 0] (v2.alloc (.cells #[.int .i64 0, .int .i64 0, .int .i64 0, .int .i64 0, .int .i64 0, .bool false, .slice none 0 0, .int .i64 0, .int .i64 0, .int .i64 0, .slice none 0 0, .slice none 0 0, .slice none 0 0] 38))) := by rw [hgN]; exact BF.new v2 #[.int .i64 0, .int .i64 0, .int .i64 0, .int .i64 0, .int .i64 0, .bool false, .slice none 0 0, .int .i64 0, .int .i64 0, .int .i64 0, .slice none 0 0, .slice none 0 0, .slice none 0 0] 38
          have M3 := hide ((unhide M2).below hb (unhide M2).le)
          have L3 := hide ((unhide L2).below hb (unhide L2).le)
          have B3 := hide ((unhide B2).trans (hb.mono (unhide B2).size))
          have S3 := hide ((unhide S2).below hb)
          have R3 := hide ((unhide R2).below hb)
          clear hb B2 S2 R2 M2 L2
          go_simp
          refine hK.out _ _ ?_ (fun hHeld16 => ?_)
          · exact (unhide S3).S
          clear hK K
          try simp only [Act.put, List.setIfInBounds_toArray, List.set_cons_zero, List.set_cons_succ]
          rw [← hgN]
          clear hgN
          generalize v2.alloc (.cells #[.int .i64 0, .int .i64 0, .int .i64 0, .int .i64 0, .int .i64 0, .bool false, .slice none 0 0, .int .i64 0, .int .i64 0, .int .i64 0, .slice none 0 0, .slice none 0 0, .slice none 0 0] 38) = v3 at B3 S3 R3 N3 M3 L3 hHeld16 ⊢
          refine wpAnyH_ready (rs := [12]) (by kernel_rfl) (by simp) ?_
          refine AllReadyH.cons (o := { dst := some 21, op := .buildSlice 36 0 #[], type := 36, pos := "l08_raft.go:6", after := #[], guard := none }) rfl (fun K hK => ?_) (AllReadyH.nil)
          obtain ⟨gV, hgV⟩ : ∃ g, g = v3.heap.size := ⟨_, rfl⟩
          have NEMV : Hid (gM < gV) := by show _ < _; rw [hgV]; exact (unhide M3).le
          have NELV : Hid (gL < gV) := by show _ < _; rw [hgV]; exact (unhide L3).le
          have NENV : Hid (gN < gV) := by show _ < _; rw [hgV]; exact (unhide N3).lt
          have BSV : Hid (w.heap.size + 1 < gV) := by show _ < _; rw [hgV]; exact (unhide R3).lt
          have hb : Below v3.heap.size v3 (v3.alloc (.cells #[] 3)) := Go.Joins.below_alloc1 v3 (.cells #[] 3)
          have V4 : Hid (Held (v3.alloc (.cells #[] 3)) gV (gV + 1) 3 (.slice (some ⟨gV, 0, none⟩) 0 0) 0 []) := by rw [hgV]; exact ⟨World.ownsRow_lit (e := 3) (base := v3.heap.size) (size := 1) v3 #[] 0 (Nat.le_refl _) (by unfold maxLen; omega) rfl, (fun k hk => by have e : v3.heap.size = k := Option.some.inj hk; omega), by simp⟩
          have M4 := hide ((unhide M3).below hb (unhide M3).le)
          have L4 := hide ((unhide L3).below hb (unhide L3).le)
          have N4 := hide ((unhide N3).below hb)
          have B4 := hide ((unhide B3).trans (hb.mono (unhide B3).size))
          have S4 := hide ((unhide S3).below hb)
          have R4 := hide ((unhide R3).below hb)
          clear hb B3 S3 R3 M3 L3 N3
          go_simp
          refine hK.out _ _ ?_ (fun hHeld12 => ?_)
          · exact (unhide S4).S
          clear hK K
          try simp only [Act.put, List.setIfInBounds_toArray, List.set_cons_zero, List.set_cons_succ]
          rw [← hgV]
          clear hgV
          generalize v3.alloc (.cells #[] 3) = v4 at B4 S4 R4 V4 M4 L4 N4 hHeld12 ⊢
          refine wpAnyH_take (i := 15) (oi := { dst := some 24, op := .build 38 #[(0, .tmp 9), (1, .tmp 10), (2, .tmp 12), (3, .tmp 14), (5, .const (.bool true)), (6, .tmp 18), (9, .tmp 20), (10, .tmp 21), (12, .tmp 23)], type := 38, pos := "l08_raft.go:6", after := #[{ on := 0, ground := .data }, { on := 1, ground := .data }, { on := 3, ground := .data }, { on := 5, ground := .data }, { on := 9, ground := .data }, { on := 11, ground := .data }, { on := 12, ground := .data }, { on := 14, ground := .data }], guard := none }) (v := ?_) rfl (by kernel_rfl) (by kernel_rfl) (by kernel_rfl) (fun _ _ _ h => h) (Or.inl ⟨by rfl, ?_⟩) (by assumption) ?_
          rotate_left 1
          · (intro w' hSw; (try dsimp only at hSw); go_simp; try with_reducible rfl)
          try simp only [Act.put, List.setIfInBounds_toArray, List.set_cons_zero, List.set_cons_succ]
          refine wpAnyH_ready (rs := [17]) (by kernel_rfl) (by simp) ?_
          refine AllReadyH.cons (o := { dst := none, op := .store 38 (.tmp 7) (.tmp 24), type := 0, pos := "l08_raft.go:6", after := #[{ on := 16, ground := .data }, { on := 15, ground := .data }, { on := 9, ground := .chain }, { on := 0, ground := .phase }, { on := 1, ground := .phase }, { on := 2, ground := .phase }, { on := 3, ground := .phase }, { on := 4, ground := .phase }, { on := 5, ground := .phase }, { on := 6, ground := .phase }, { on := 7, ground := .phase }, { on := 8, ground := .phase }, { on := 9, ground := .phase }, { on := 10, ground := .phase }, { on := 11, ground := .phase }, { on := 12, ground := .phase }, { on := 13, ground := .phase }, { on := 14, ground := .phase }, { on := 15, ground := .phase }, { on := 16, ground := .phase }], guard := none }) rfl (fun K hK => ?_) (AllReadyH.nil)
          have cp := (unhide N4).S
          have cf := (unhide N4).F
          have DI : gL ≠ gV ∧ gL ≠ gM ∧ gL ≠ gN ∧ gV ≠ gM ∧ gV ≠ gN ∧ gM ≠ gN ∧ w.heap.size + 1 < gL ∧ w.heap.size + 1 < gV ∧ w.heap.size + 1 < gM ∧ w.heap.size + 1 < gN := by have := unhide BSL; have := unhide BSV; have := unhide BSM; have := unhide BSN; have := unhide NEML; have := unhide NEMN; have := unhide NEMV; have := unhide NELN; have := unhide NELV; have := unhide NENV; omega
          obtain ⟨vz, hvz, hFN⟩ := put13 v4 (unhide N4) (.int .i64 id) (.int .i64 (m : Int)) (.int .i64 0) (.int .i64 (-1)) (.int .i64 0) (.bool true) (.slice (some ⟨gL, 0, none⟩) 0 0) (.int .i64 0) (.int .i64 0) (.int .i64 (5 + id)) (.slice (some ⟨gV, 0, none⟩) 0 0) (.slice none 0 0) (.slice (some ⟨gM, 0, none⟩) m m)
          obtain ⟨hFN, hO⟩ := hFN
          go_simp
          rw [← hvz]
          refine hK.out _ _ ?_ (fun hHeld17 => ?_)
          · exact ((unhide S4).outs hO (by omega)).S
          clear hK K
          try simp only [Act.put, List.setIfInBounds_toArray, List.set_cons_zero, List.set_cons_succ]
          refine wpAnyH_done (by kernel_rfl) ?_ _
          exact ⟨gL, gV, gM, gN, rfl, hFN, (unhide L4).outs hO (by omega), (unhide V4).outs hO (by omega), (unhide M4).outs hO (by omega), (unhide R4).outs hO (by omega), Below.outs (unhide B4) (unhide B4).size hO (by omega), DI⟩
      · skip
        obtain ⟨gV, hgV⟩ : ∃ g, g = v1.heap.size := ⟨_, rfl⟩
        have NEMV : Hid (gM < gV) := by show _ < _; rw [hgV]; exact (unhide M1).le
        have BSV : Hid (w.heap.size + 1 < gV) := by show _ < _; rw [hgV]; exact (unhide R1).lt
        have hb : Below v1.heap.size v1 (v1.alloc (.cells #[] 3)) := Go.Joins.below_alloc1 v1 (.cells #[] 3)
        have V2 : Hid (Held (v1.alloc (.cells #[] 3)) gV (gV + 1) 3 (.slice (some ⟨gV, 0, none⟩) 0 0) 0 []) := by rw [hgV]; exact ⟨World.ownsRow_lit (e := 3) (base := v1.heap.size) (size := 1) v1 #[] 0 (Nat.le_refl _) (by unfold maxLen; omega) rfl, (fun k hk => by have e : v1.heap.size = k := Option.some.inj hk; omega), by simp⟩
        have M2 := hide ((unhide M1).below hb (unhide M1).le)
        have B2 := hide ((unhide B1).trans (hb.mono (unhide B1).size))
        have S2 := hide ((unhide S1).below hb)
        have R2 := hide ((unhide R1).below hb)
        clear hb B1 S1 R1 M1
        go_simp
        refine hK.out _ _ ?_ (fun hHeld12 => ?_)
        · exact (unhide S2).S
        clear hK K
        try simp only [Act.put, List.setIfInBounds_toArray, List.set_cons_zero, List.set_cons_succ]
        rw [← hgV]
        clear hgV
        generalize v1.alloc (.cells #[] 3) = v2 at B2 S2 R2 V2 M2 hHeld12 ⊢
        refine wpAnyH_ready (rs := [6, 16]) (by kernel_rfl) (by simp) ?_
        refine AllReadyH.cons (o := { dst := some 15, op := .buildSlice 35 0 #[], type := 35, pos := "l08_raft.go:6", after := #[], guard := none }) rfl (fun K hK => ?_) (AllReadyH.cons (o := { dst := some 7, op := .alloc 38, type := 0, pos := "l08_raft.go:6", after := #[], guard := none }) rfl (fun K hK => ?_) (AllReadyH.nil))
        · skip
          obtain ⟨gL, hgL⟩ : ∃ g, g = v2.heap.size := ⟨_, rfl⟩
          have NEML : Hid (gM < gL) := by show _ < _; rw [hgL]; exact (unhide M2).le
          have NEVL : Hid (gV < gL) := by show _ < _; rw [hgL]; exact (unhide V2).le
          have BSL : Hid (w.heap.size + 1 < gL) := by show _ < _; rw [hgL]; exact (unhide R2).lt
          have hb : Below v2.heap.size v2 (v2.alloc (.cells #[] 67)) := Go.Joins.below_alloc1 v2 (.cells #[] 67)
          have L3 : Hid (HeldZ 2 (v2.alloc (.cells #[] 67)) gL (gL + 1) 67 (.slice (some ⟨gL, 0, none⟩) 0 0) 0 []) := by rw [hgL]; exact ⟨World.ownsRow_lit (e := 67) (base := v2.heap.size) (size := 2) v2 #[] 0 (Nat.le_refl _) (by unfold maxLen; omega) rfl, (fun k hk => by have e : v2.heap.size = k := Option.some.inj hk; omega), by simp⟩
          have M3 := hide ((unhide M2).below hb (unhide M2).le)
          have V3 := hide ((unhide V2).below hb (unhide V2).le)
          have B3 := hide ((unhide B2).trans (hb.mono (unhide B2).size))
          have S3 := hide ((unhide S2).below hb)
          have R3 := hide ((unhide R2).below hb)
          clear hb B2 S2 R2 M2 V2
          go_simp
          refine hK.out _ _ ?_ (fun hHeld6 => ?_)
          · exact (unhide S3).S
          clear hK K
          try simp only [Act.put, List.setIfInBounds_toArray, List.set_cons_zero, List.set_cons_succ]
          rw [← hgL]
          clear hgL
          generalize v2.alloc (.cells #[] 67) = v3 at B3 S3 R3 L3 M3 V3 hHeld6 ⊢
          refine wpAnyH_take (i := 9) (oi := { dst := some 18, op := .call { callee := .builtin Go.Builtin.append, args := #[.tmp 15, .tmp 17], argTypes := #[35, 35] }, type := 35, pos := "l08_raft.go:6", after := #[{ on := 6, ground := .data }, { on := 8, ground := .data }], guard := none }) (v := ?_) rfl (by kernel_rfl) (by kernel_rfl) (by kernel_rfl) (fun _ _ _ h => h) (Or.inl ⟨by rfl, ?_⟩) (by assumption) ?_
          rotate_left 1
          · (intro w' hSw; (try dsimp only at hSw); go_simp; try with_reducible rfl)
          try simp only [Act.put, List.setIfInBounds_toArray, List.set_cons_zero, List.set_cons_succ]
          refine wpAnyH_take (i := 15) (oi := { dst := some 24, op := .build 38 #[(0, .tmp 9), (1, .tmp 10), (2, .tmp 12), (3, .tmp 14), (5, .const (.bool true)), (6, .tmp 18), (9, .tmp 20), (10, .tmp 21), (12, .tmp 23)], type := 38, pos := "l08_raft.go:6", after := #[{ on := 0, ground := .data }, { on := 1, ground := .data }, { on := 3, ground := .data }, { on := 5, ground := .data }, { on := 9, ground := .data }, { on := 11, ground := .data }, { on := 12, ground := .data }, { on := 14, ground := .data }], guard := none }) (v := ?_) rfl (by kernel_rfl) (by kernel_rfl) (by kernel_rfl) (fun _ _ _ h => h) (Or.inl ⟨by rfl, ?_⟩) (by assumption) ?_
          rotate_left 1
          · (intro w' hSw; (try dsimp only at hSw); go_simp; try with_reducible rfl)
          try simp only [Act.put, List.setIfInBounds_toArray, List.set_cons_zero, List.set_cons_succ]
          refine wpAnyH_ready (rs := [16]) (by kernel_rfl) (by simp) ?_
          refine AllReadyH.cons (o := { dst := some 7, op := .alloc 38, type := 0, pos := "l08_raft.go:6", after := #[], guard := none }) rfl (fun K hK => ?_) (AllReadyH.nil)
          obtain ⟨gN, hgN⟩ : ∃ g, g = v3.heap.size := ⟨_, rfl⟩
          have NEMN : Hid (gM < gN) := by show _ < _; rw [hgN]; exact (unhide M3).le
          have NEVN : Hid (gV < gN) := by show _ < _; rw [hgN]; exact (unhide V3).le
          have NELN : Hid (gL < gN) := by show _ < _; rw [hgN]; exact (unhide L3).le
          have BSN : Hid (w.heap.size + 1 < gN) := by show _ < _; rw [hgN]; exact (unhide R3).lt
          have hb : Below v3.heap.size v3 (v3.alloc (.cells #[.int .i64 0, .int .i64 0, .int .i64 0, .int .i64 0, .int .i64 0, .bool false, .slice none 0 0, .int .i64 0, .int .i64 0, .int .i64 0, .slice none 0 0, .slice none 0 0, .slice none 0 0] 38)) := Go.Joins.below_alloc1 v3 (.cells #[.int .i64 0, .int .i64 0, .int .i64 0, .int .i64 0, .int .i64 0, .bool false, .slice none 0 0, .int .i64 0, .int .i64 0, .int .i64 0, .slice none 0 0, .slice none 0 0, .slice none 0 0] 38)
          have N4 : Hid (BF gN #[.int .i64 0, .int .i64 0, .int .i64 0, .int .i64 0, .int .i64 0, .bool false, .slice none 0 0, .int .i64 0, .int .i64 0, .int .i64 0, .slice none 0 0, .slice none 0 0, .slice none 0 0] (v3.alloc (.cells #[.int .i64 0, .int .i64 0, .int .i64 0, .int .i64 0, .int .i64 0, .bool false, .slice none 0 0, .int .i64 0, .int .i64 0, .int .i64 0, .slice none 0 0, .slice none 0 0, .slice none 0 0] 38))) := by rw [hgN]; exact BF.new v3 #[.int .i64 0, .int .i64 0, .int .i64 0, .int .i64 0, .int .i64 0, .bool false, .slice none 0 0, .int .i64 0, .int .i64 0, .int .i64 0, .slice none 0 0, .slice none 0 0, .slice none 0 0] 38
          have M4 := hide ((unhide M3).below hb (unhide M3).le)
          have V4 := hide ((unhide V3).below hb (unhide V3).le)
          have L4 := hide ((unhide L3).below hb (unhide L3).le)
          have B4 := hide ((unhide B3).trans (hb.mono (unhide B3).size))
          have S4 := hide ((unhide S3).below hb)
          have R4 := hide ((unhide R3).below hb)
          clear hb B3 S3 R3 M3 V3 L3
          go_simp
          refine hK.out _ _ ?_ (fun hHeld16 => ?_)
          · exact (unhide S4).S
          clear hK K
          try simp only [Act.put, List.setIfInBounds_toArray, List.set_cons_zero, List.set_cons_succ]
          rw [← hgN]
          clear hgN
          generalize v3.alloc (.cells #[.int .i64 0, .int .i64 0, .int .i64 0, .int .i64 0, .int .i64 0, .bool false, .slice none 0 0, .int .i64 0, .int .i64 0, .int .i64 0, .slice none 0 0, .slice none 0 0, .slice none 0 0] 38) = v4 at B4 S4 R4 N4 M4 V4 L4 hHeld16 ⊢
          refine wpAnyH_ready (rs := [17]) (by kernel_rfl) (by simp) ?_
          refine AllReadyH.cons (o := { dst := none, op := .store 38 (.tmp 7) (.tmp 24), type := 0, pos := "l08_raft.go:6", after := #[{ on := 16, ground := .data }, { on := 15, ground := .data }, { on := 9, ground := .chain }, { on := 0, ground := .phase }, { on := 1, ground := .phase }, { on := 2, ground := .phase }, { on := 3, ground := .phase }, { on := 4, ground := .phase }, { on := 5, ground := .phase }, { on := 6, ground := .phase }, { on := 7, ground := .phase }, { on := 8, ground := .phase }, { on := 9, ground := .phase }, { on := 10, ground := .phase }, { on := 11, ground := .phase }, { on := 12, ground := .phase }, { on := 13, ground := .phase }, { on := 14, ground := .phase }, { on := 15, ground := .phase }, { on := 16, ground := .phase }], guard := none }) rfl (fun K hK => ?_) (AllReadyH.nil)
          have cp := (unhide N4).S
          have cf := (unhide N4).F
          have DI : gL ≠ gV ∧ gL ≠ gM ∧ gL ≠ gN ∧ gV ≠ gM ∧ gV ≠ gN ∧ gM ≠ gN ∧ w.heap.size + 1 < gL ∧ w.heap.size + 1 < gV ∧ w.heap.size + 1 < gM ∧ w.heap.size + 1 < gN := by have := unhide BSL; have := unhide BSV; have := unhide BSM; have := unhide BSN; have := unhide NEMV; have := unhide NEML; have := unhide NEMN; have := unhide NEVL; have := unhide NEVN; have := unhide NELN; omega
          obtain ⟨vz, hvz, hFN⟩ := put13 v4 (unhide N4) (.int .i64 id) (.int .i64 (m : Int)) (.int .i64 0) (.int .i64 (-1)) (.int .i64 0) (.bool true) (.slice (some ⟨gL, 0, none⟩) 0 0) (.int .i64 0) (.int .i64 0) (.int .i64 (5 + id)) (.slice (some ⟨gV, 0, none⟩) 0 0) (.slice none 0 0) (.slice (some ⟨gM, 0, none⟩) m m)
          obtain ⟨hFN, hO⟩ := hFN
          go_simp
          rw [← hvz]
          refine hK.out _ _ ?_ (fun hHeld17 => ?_)
          · exact ((unhide S4).outs hO (by omega)).S
          clear hK K
          try simp only [Act.put, List.setIfInBounds_toArray, List.set_cons_zero, List.set_cons_succ]
          refine wpAnyH_done (by kernel_rfl) ?_ _
          exact ⟨gL, gV, gM, gN, rfl, hFN, (unhide L4).outs hO (by omega), (unhide V4).outs hO (by omega), (unhide M4).outs hO (by omega), (unhide R4).outs hO (by omega), Below.outs (unhide B4) (unhide B4).size hO (by omega), DI⟩
        · skip
          obtain ⟨gN, hgN⟩ : ∃ g, g = v2.heap.size := ⟨_, rfl⟩
          have NEMN : Hid (gM < gN) := by show _ < _; rw [hgN]; exact (unhide M2).le
          have NEVN : Hid (gV < gN) := by show _ < _; rw [hgN]; exact (unhide V2).le
          have BSN : Hid (w.heap.size + 1 < gN) := by show _ < _; rw [hgN]; exact (unhide R2).lt
          have hb : Below v2.heap.size v2 (v2.alloc (.cells #[.int .i64 0, .int .i64 0, .int .i64 0, .int .i64 0, .int .i64 0, .bool false, .slice none 0 0, .int .i64 0, .int .i64 0, .int .i64 0, .slice none 0 0, .slice none 0 0, .slice none 0 0] 38)) := Go.Joins.below_alloc1 v2 (.cells #[.int .i64 0, .int .i64 0, .int .i64 0, .int .i64 0, .int .i64 0, .bool false, .slice none 0 0, .int .i64 0, .int .i64 0, .int .i64 0, .slice none 0 0, .slice none 0 0, .slice none 0 0] 38)
          have N3 : Hid (BF gN #[.int .i64 0, .int .i64 0, .int .i64 0, .int .i64 0, .int .i64 0, .bool false, .slice none 0 0, .int .i64 0, .int .i64 0, .int .i64 0, .slice none 0 0, .slice none 0 0, .slice none 0 0] (v2.alloc (.cells #[.int .i64 0, .int .i64 0, .int .i64 0, .int .i64 0, .int .i64 0, .bool false, .slice none 0 0, .int .i64 0, .int .i64 0, .int .i64 0, .slice none 0 0, .slice none 0 0, .slice none 0 0] 38))) := by rw [hgN]; exact BF.new v2 #[.int .i64 0, .int .i64 0, .int .i64 0, .int .i64 0, .int .i64 0, .bool false, .slice none 0 0, .int .i64 0, .int .i64 0, .int .i64 0, .slice none 0 0, .slice none 0 0, .slice none 0 0] 38
          have M3 := hide ((unhide M2).below hb (unhide M2).le)
          have V3 := hide ((unhide V2).below hb (unhide V2).le)
          have B3 := hide ((unhide B2).trans (hb.mono (unhide B2).size))
          have S3 := hide ((unhide S2).below hb)
          have R3 := hide ((unhide R2).below hb)
          clear hb B2 S2 R2 M2 V2
          go_simp
          refine hK.out _ _ ?_ (fun hHeld16 => ?_)
          · exact (unhide S3).S
          clear hK K
          try simp only [Act.put, List.setIfInBounds_toArray, List.set_cons_zero, List.set_cons_succ]
          rw [← hgN]
          clear hgN
          generalize v2.alloc (.cells #[.int .i64 0, .int .i64 0, .int .i64 0, .int .i64 0, .int .i64 0, .bool false, .slice none 0 0, .int .i64 0, .int .i64 0, .int .i64 0, .slice none 0 0, .slice none 0 0, .slice none 0 0] 38) = v3 at B3 S3 R3 N3 M3 V3 hHeld16 ⊢
          refine wpAnyH_ready (rs := [6]) (by kernel_rfl) (by simp) ?_
          refine AllReadyH.cons (o := { dst := some 15, op := .buildSlice 35 0 #[], type := 35, pos := "l08_raft.go:6", after := #[], guard := none }) rfl (fun K hK => ?_) (AllReadyH.nil)
          obtain ⟨gL, hgL⟩ : ∃ g, g = v3.heap.size := ⟨_, rfl⟩
          have NEML : Hid (gM < gL) := by show _ < _; rw [hgL]; exact (unhide M3).le
          have NEVL : Hid (gV < gL) := by show _ < _; rw [hgL]; exact (unhide V3).le
          have NENL : Hid (gN < gL) := by show _ < _; rw [hgL]; exact (unhide N3).lt
          have BSL : Hid (w.heap.size + 1 < gL) := by show _ < _; rw [hgL]; exact (unhide R3).lt
          have hb : Below v3.heap.size v3 (v3.alloc (.cells #[] 67)) := Go.Joins.below_alloc1 v3 (.cells #[] 67)
          have L4 : Hid (HeldZ 2 (v3.alloc (.cells #[] 67)) gL (gL + 1) 67 (.slice (some ⟨gL, 0, none⟩) 0 0) 0 []) := by rw [hgL]; exact ⟨World.ownsRow_lit (e := 67) (base := v3.heap.size) (size := 2) v3 #[] 0 (Nat.le_refl _) (by unfold maxLen; omega) rfl, (fun k hk => by have e : v3.heap.size = k := Option.some.inj hk; omega), by simp⟩
          have M4 := hide ((unhide M3).below hb (unhide M3).le)
          have V4 := hide ((unhide V3).below hb (unhide V3).le)
          have N4 := hide ((unhide N3).below hb)
          have B4 := hide ((unhide B3).trans (hb.mono (unhide B3).size))
          have S4 := hide ((unhide S3).below hb)
          have R4 := hide ((unhide R3).below hb)
          clear hb B3 S3 R3 M3 V3 N3
          go_simp
          refine hK.out _ _ ?_ (fun hHeld6 => ?_)
          · exact (unhide S4).S
          clear hK K
          try simp only [Act.put, List.setIfInBounds_toArray, List.set_cons_zero, List.set_cons_succ]
          rw [← hgL]
          clear hgL
          generalize v3.alloc (.cells #[] 67) = v4 at B4 S4 R4 L4 M4 V4 N4 hHeld6 ⊢
          refine wpAnyH_take (i := 9) (oi := { dst := some 18, op := .call { callee := .builtin Go.Builtin.append, args := #[.tmp 15, .tmp 17], argTypes := #[35, 35] }, type := 35, pos := "l08_raft.go:6", after := #[{ on := 6, ground := .data }, { on := 8, ground := .data }], guard := none }) (v := ?_) rfl (by kernel_rfl) (by kernel_rfl) (by kernel_rfl) (fun _ _ _ h => h) (Or.inl ⟨by rfl, ?_⟩) (by assumption) ?_
          rotate_left 1
          · (intro w' hSw; (try dsimp only at hSw); go_simp; try with_reducible rfl)
          try simp only [Act.put, List.setIfInBounds_toArray, List.set_cons_zero, List.set_cons_succ]
          refine wpAnyH_take (i := 15) (oi := { dst := some 24, op := .build 38 #[(0, .tmp 9), (1, .tmp 10), (2, .tmp 12), (3, .tmp 14), (5, .const (.bool true)), (6, .tmp 18), (9, .tmp 20), (10, .tmp 21), (12, .tmp 23)], type := 38, pos := "l08_raft.go:6", after := #[{ on := 0, ground := .data }, { on := 1, ground := .data }, { on := 3, ground := .data }, { on := 5, ground := .data }, { on := 9, ground := .data }, { on := 11, ground := .data }, { on := 12, ground := .data }, { on := 14, ground := .data }], guard := none }) (v := ?_) rfl (by kernel_rfl) (by kernel_rfl) (by kernel_rfl) (fun _ _ _ h => h) (Or.inl ⟨by rfl, ?_⟩) (by assumption) ?_
          rotate_left 1
          · (intro w' hSw; (try dsimp only at hSw); go_simp; try with_reducible rfl)
          try simp only [Act.put, List.setIfInBounds_toArray, List.set_cons_zero, List.set_cons_succ]
          refine wpAnyH_ready (rs := [17]) (by kernel_rfl) (by simp) ?_
          refine AllReadyH.cons (o := { dst := none, op := .store 38 (.tmp 7) (.tmp 24), type := 0, pos := "l08_raft.go:6", after := #[{ on := 16, ground := .data }, { on := 15, ground := .data }, { on := 9, ground := .chain }, { on := 0, ground := .phase }, { on := 1, ground := .phase }, { on := 2, ground := .phase }, { on := 3, ground := .phase }, { on := 4, ground := .phase }, { on := 5, ground := .phase }, { on := 6, ground := .phase }, { on := 7, ground := .phase }, { on := 8, ground := .phase }, { on := 9, ground := .phase }, { on := 10, ground := .phase }, { on := 11, ground := .phase }, { on := 12, ground := .phase }, { on := 13, ground := .phase }, { on := 14, ground := .phase }, { on := 15, ground := .phase }, { on := 16, ground := .phase }], guard := none }) rfl (fun K hK => ?_) (AllReadyH.nil)
          have cp := (unhide N4).S
          have cf := (unhide N4).F
          have DI : gL ≠ gV ∧ gL ≠ gM ∧ gL ≠ gN ∧ gV ≠ gM ∧ gV ≠ gN ∧ gM ≠ gN ∧ w.heap.size + 1 < gL ∧ w.heap.size + 1 < gV ∧ w.heap.size + 1 < gM ∧ w.heap.size + 1 < gN := by have := unhide BSL; have := unhide BSV; have := unhide BSM; have := unhide BSN; have := unhide NEMV; have := unhide NEMN; have := unhide NEML; have := unhide NEVN; have := unhide NEVL; have := unhide NENL; omega
          obtain ⟨vz, hvz, hFN⟩ := put13 v4 (unhide N4) (.int .i64 id) (.int .i64 (m : Int)) (.int .i64 0) (.int .i64 (-1)) (.int .i64 0) (.bool true) (.slice (some ⟨gL, 0, none⟩) 0 0) (.int .i64 0) (.int .i64 0) (.int .i64 (5 + id)) (.slice (some ⟨gV, 0, none⟩) 0 0) (.slice none 0 0) (.slice (some ⟨gM, 0, none⟩) m m)
          obtain ⟨hFN, hO⟩ := hFN
          go_simp
          rw [← hvz]
          refine hK.out _ _ ?_ (fun hHeld17 => ?_)
          · exact ((unhide S4).outs hO (by omega)).S
          clear hK K
          try simp only [Act.put, List.setIfInBounds_toArray, List.set_cons_zero, List.set_cons_succ]
          refine wpAnyH_done (by kernel_rfl) ?_ _
          exact ⟨gL, gV, gM, gN, rfl, hFN, (unhide L4).outs hO (by omega), (unhide V4).outs hO (by omega), (unhide M4).outs hO (by omega), (unhide R4).outs hO (by omega), Below.outs (unhide B4) (unhide B4).size hO (by omega), DI⟩
      · skip
        obtain ⟨gN, hgN⟩ : ∃ g, g = v1.heap.size := ⟨_, rfl⟩
        have NEMN : Hid (gM < gN) := by show _ < _; rw [hgN]; exact (unhide M1).le
        have BSN : Hid (w.heap.size + 1 < gN) := by show _ < _; rw [hgN]; exact (unhide R1).lt
        have hb : Below v1.heap.size v1 (v1.alloc (.cells #[.int .i64 0, .int .i64 0, .int .i64 0, .int .i64 0, .int .i64 0, .bool false, .slice none 0 0, .int .i64 0, .int .i64 0, .int .i64 0, .slice none 0 0, .slice none 0 0, .slice none 0 0] 38)) := Go.Joins.below_alloc1 v1 (.cells #[.int .i64 0, .int .i64 0, .int .i64 0, .int .i64 0, .int .i64 0, .bool false, .slice none 0 0, .int .i64 0, .int .i64 0, .int .i64 0, .slice none 0 0, .slice none 0 0, .slice none 0 0] 38)
        have N2 : Hid (BF gN #[.int .i64 0, .int .i64 0, .int .i64 0, .int .i64 0, .int .i64 0, .bool false, .slice none 0 0, .int .i64 0, .int .i64 0, .int .i64 0, .slice none 0 0, .slice none 0 0, .slice none 0 0] (v1.alloc (.cells #[.int .i64 0, .int .i64 0, .int .i64 0, .int .i64 0, .int .i64 0, .bool false, .slice none 0 0, .int .i64 0, .int .i64 0, .int .i64 0, .slice none 0 0, .slice none 0 0, .slice none 0 0] 38))) := by rw [hgN]; exact BF.new v1 #[.int .i64 0, .int .i64 0, .int .i64 0, .int .i64 0, .int .i64 0, .bool false, .slice none 0 0, .int .i64 0, .int .i64 0, .int .i64 0, .slice none 0 0, .slice none 0 0, .slice none 0 0] 38
        have M2 := hide ((unhide M1).below hb (unhide M1).le)
        have B2 := hide ((unhide B1).trans (hb.mono (unhide B1).size))
        have S2 := hide ((unhide S1).below hb)
        have R2 := hide ((unhide R1).below hb)
        clear hb B1 S1 R1 M1
        go_simp
        refine hK.out _ _ ?_ (fun hHeld16 => ?_)
        · exact (unhide S2).S
        clear hK K
        try simp only [Act.put, List.setIfInBounds_toArray, List.set_cons_zero, List.set_cons_succ]
        rw [← hgN]
        clear hgN
        generalize v1.alloc (.cells #[.int .i64 0, .int .i64 0, .int .i64 0, .int .i64 0, .int .i64 0, .bool false, .slice none 0 0, .int .i64 0, .int .i64 0, .int .i64 0, .slice none 0 0, .slice none 0 0, .slice none 0 0] 38) = v2 at B2 S2 R2 N2 M2 hHeld16 ⊢
        refine wpAnyH_ready (rs := [6, 12]) (by kernel_rfl) (by simp) ?_
        refine AllReadyH.cons (o := { dst := some 15, op := .buildSlice 35 0 #[], type := 35, pos := "l08_raft.go:6", after := #[], guard := none }) rfl (fun K hK => ?_) (AllReadyH.cons (o := { dst := some 21, op := .buildSlice 36 0 #[], type := 36, pos := "l08_raft.go:6", after := #[], guard := none }) rfl (fun K hK => ?_) (AllReadyH.nil))
        · skip
          obtain ⟨gL, hgL⟩ : ∃ g, g = v2.heap.size := ⟨_, rfl⟩
          have NEML : Hid (gM < gL) := by show _ < _; rw [hgL]; exact (unhide M2).le
          have NENL : Hid (gN < gL) := by show _ < _; rw [hgL]; exact (unhide N2).lt
          have BSL : Hid (w.heap.size + 1 < gL) := by show _ < _; rw [hgL]; exact (unhide R2).lt
          have hb : Below v2.heap.size v2 (v2.alloc (.cells #[] 67)) := Go.Joins.below_alloc1 v2 (.cells #[] 67)
          have L3 : Hid (HeldZ 2 (v2.alloc (.cells #[] 67)) gL (gL + 1) 67 (.slice (some ⟨gL, 0, none⟩) 0 0) 0 []) := by rw [hgL]; exact ⟨World.ownsRow_lit (e := 67) (base := v2.heap.size) (size := 2) v2 #[] 0 (Nat.le_refl _) (by unfold maxLen; omega) rfl, (fun k hk => by have e : v2.heap.size = k := Option.some.inj hk; omega), by simp⟩
          have M3 := hide ((unhide M2).below hb (unhide M2).le)
          have N3 := hide ((unhide N2).below hb)
          have B3 := hide ((unhide B2).trans (hb.mono (unhide B2).size))
          have S3 := hide ((unhide S2).below hb)
          have R3 := hide ((unhide R2).below hb)
          clear hb B2 S2 R2 M2 N2
          go_simp
          refine hK.out _ _ ?_ (fun hHeld6 => ?_)
          · exact (unhide S3).S
          clear hK K
          try simp only [Act.put, List.setIfInBounds_toArray, List.set_cons_zero, List.set_cons_succ]
          rw [← hgL]
          clear hgL
          generalize v2.alloc (.cells #[] 67) = v3 at B3 S3 R3 L3 M3 N3 hHeld6 ⊢
          refine wpAnyH_take (i := 9) (oi := { dst := some 18, op := .call { callee := .builtin Go.Builtin.append, args := #[.tmp 15, .tmp 17], argTypes := #[35, 35] }, type := 35, pos := "l08_raft.go:6", after := #[{ on := 6, ground := .data }, { on := 8, ground := .data }], guard := none }) (v := ?_) rfl (by kernel_rfl) (by kernel_rfl) (by kernel_rfl) (fun _ _ _ h => h) (Or.inl ⟨by rfl, ?_⟩) (by assumption) ?_
          rotate_left 1
          · (intro w' hSw; (try dsimp only at hSw); go_simp; try with_reducible rfl)
          try simp only [Act.put, List.setIfInBounds_toArray, List.set_cons_zero, List.set_cons_succ]
          refine wpAnyH_ready (rs := [12]) (by kernel_rfl) (by simp) ?_
          refine AllReadyH.cons (o := { dst := some 21, op := .buildSlice 36 0 #[], type := 36, pos := "l08_raft.go:6", after := #[], guard := none }) rfl (fun K hK => ?_) (AllReadyH.nil)
          obtain ⟨gV, hgV⟩ : ∃ g, g = v3.heap.size := ⟨_, rfl⟩
          have NEMV : Hid (gM < gV) := by show _ < _; rw [hgV]; exact (unhide M3).le
          have NENV : Hid (gN < gV) := by show _ < _; rw [hgV]; exact (unhide N3).lt
          have NELV : Hid (gL < gV) := by show _ < _; rw [hgV]; exact (unhide L3).le
          have BSV : Hid (w.heap.size + 1 < gV) := by show _ < _; rw [hgV]; exact (unhide R3).lt
          have hb : Below v3.heap.size v3 (v3.alloc (.cells #[] 3)) := Go.Joins.below_alloc1 v3 (.cells #[] 3)
          have V4 : Hid (Held (v3.alloc (.cells #[] 3)) gV (gV + 1) 3 (.slice (some ⟨gV, 0, none⟩) 0 0) 0 []) := by rw [hgV]; exact ⟨World.ownsRow_lit (e := 3) (base := v3.heap.size) (size := 1) v3 #[] 0 (Nat.le_refl _) (by unfold maxLen; omega) rfl, (fun k hk => by have e : v3.heap.size = k := Option.some.inj hk; omega), by simp⟩
          have M4 := hide ((unhide M3).below hb (unhide M3).le)
          have N4 := hide ((unhide N3).below hb)
          have L4 := hide ((unhide L3).below hb (unhide L3).le)
          have B4 := hide ((unhide B3).trans (hb.mono (unhide B3).size))
          have S4 := hide ((unhide S3).below hb)
          have R4 := hide ((unhide R3).below hb)
          clear hb B3 S3 R3 M3 N3 L3
          go_simp
          refine hK.out _ _ ?_ (fun hHeld12 => ?_)
          · exact (unhide S4).S
          clear hK K
          try simp only [Act.put, List.setIfInBounds_toArray, List.set_cons_zero, List.set_cons_succ]
          rw [← hgV]
          clear hgV
          generalize v3.alloc (.cells #[] 3) = v4 at B4 S4 R4 V4 M4 N4 L4 hHeld12 ⊢
          refine wpAnyH_take (i := 15) (oi := { dst := some 24, op := .build 38 #[(0, .tmp 9), (1, .tmp 10), (2, .tmp 12), (3, .tmp 14), (5, .const (.bool true)), (6, .tmp 18), (9, .tmp 20), (10, .tmp 21), (12, .tmp 23)], type := 38, pos := "l08_raft.go:6", after := #[{ on := 0, ground := .data }, { on := 1, ground := .data }, { on := 3, ground := .data }, { on := 5, ground := .data }, { on := 9, ground := .data }, { on := 11, ground := .data }, { on := 12, ground := .data }, { on := 14, ground := .data }], guard := none }) (v := ?_) rfl (by kernel_rfl) (by kernel_rfl) (by kernel_rfl) (fun _ _ _ h => h) (Or.inl ⟨by rfl, ?_⟩) (by assumption) ?_
          rotate_left 1
          · (intro w' hSw; (try dsimp only at hSw); go_simp; try with_reducible rfl)
          try simp only [Act.put, List.setIfInBounds_toArray, List.set_cons_zero, List.set_cons_succ]
          refine wpAnyH_ready (rs := [17]) (by kernel_rfl) (by simp) ?_
          refine AllReadyH.cons (o := { dst := none, op := .store 38 (.tmp 7) (.tmp 24), type := 0, pos := "l08_raft.go:6", after := #[{ on := 16, ground := .data }, { on := 15, ground := .data }, { on := 9, ground := .chain }, { on := 0, ground := .phase }, { on := 1, ground := .phase }, { on := 2, ground := .phase }, { on := 3, ground := .phase }, { on := 4, ground := .phase }, { on := 5, ground := .phase }, { on := 6, ground := .phase }, { on := 7, ground := .phase }, { on := 8, ground := .phase }, { on := 9, ground := .phase }, { on := 10, ground := .phase }, { on := 11, ground := .phase }, { on := 12, ground := .phase }, { on := 13, ground := .phase }, { on := 14, ground := .phase }, { on := 15, ground := .phase }, { on := 16, ground := .phase }], guard := none }) rfl (fun K hK => ?_) (AllReadyH.nil)
          have cp := (unhide N4).S
          have cf := (unhide N4).F
          have DI : gL ≠ gV ∧ gL ≠ gM ∧ gL ≠ gN ∧ gV ≠ gM ∧ gV ≠ gN ∧ gM ≠ gN ∧ w.heap.size + 1 < gL ∧ w.heap.size + 1 < gV ∧ w.heap.size + 1 < gM ∧ w.heap.size + 1 < gN := by have := unhide BSL; have := unhide BSV; have := unhide BSM; have := unhide BSN; have := unhide NEMN; have := unhide NEML; have := unhide NEMV; have := unhide NENL; have := unhide NENV; have := unhide NELV; omega
          obtain ⟨vz, hvz, hFN⟩ := put13 v4 (unhide N4) (.int .i64 id) (.int .i64 (m : Int)) (.int .i64 0) (.int .i64 (-1)) (.int .i64 0) (.bool true) (.slice (some ⟨gL, 0, none⟩) 0 0) (.int .i64 0) (.int .i64 0) (.int .i64 (5 + id)) (.slice (some ⟨gV, 0, none⟩) 0 0) (.slice none 0 0) (.slice (some ⟨gM, 0, none⟩) m m)
          obtain ⟨hFN, hO⟩ := hFN
          go_simp
          rw [← hvz]
          refine hK.out _ _ ?_ (fun hHeld17 => ?_)
          · exact ((unhide S4).outs hO (by omega)).S
          clear hK K
          try simp only [Act.put, List.setIfInBounds_toArray, List.set_cons_zero, List.set_cons_succ]
          refine wpAnyH_done (by kernel_rfl) ?_ _
          exact ⟨gL, gV, gM, gN, rfl, hFN, (unhide L4).outs hO (by omega), (unhide V4).outs hO (by omega), (unhide M4).outs hO (by omega), (unhide R4).outs hO (by omega), Below.outs (unhide B4) (unhide B4).size hO (by omega), DI⟩
        · skip
          obtain ⟨gV, hgV⟩ : ∃ g, g = v2.heap.size := ⟨_, rfl⟩
          have NEMV : Hid (gM < gV) := by show _ < _; rw [hgV]; exact (unhide M2).le
          have NENV : Hid (gN < gV) := by show _ < _; rw [hgV]; exact (unhide N2).lt
          have BSV : Hid (w.heap.size + 1 < gV) := by show _ < _; rw [hgV]; exact (unhide R2).lt
          have hb : Below v2.heap.size v2 (v2.alloc (.cells #[] 3)) := Go.Joins.below_alloc1 v2 (.cells #[] 3)
          have V3 : Hid (Held (v2.alloc (.cells #[] 3)) gV (gV + 1) 3 (.slice (some ⟨gV, 0, none⟩) 0 0) 0 []) := by rw [hgV]; exact ⟨World.ownsRow_lit (e := 3) (base := v2.heap.size) (size := 1) v2 #[] 0 (Nat.le_refl _) (by unfold maxLen; omega) rfl, (fun k hk => by have e : v2.heap.size = k := Option.some.inj hk; omega), by simp⟩
          have M3 := hide ((unhide M2).below hb (unhide M2).le)
          have N3 := hide ((unhide N2).below hb)
          have B3 := hide ((unhide B2).trans (hb.mono (unhide B2).size))
          have S3 := hide ((unhide S2).below hb)
          have R3 := hide ((unhide R2).below hb)
          clear hb B2 S2 R2 M2 N2
          go_simp
          refine hK.out _ _ ?_ (fun hHeld12 => ?_)
          · exact (unhide S3).S
          clear hK K
          try simp only [Act.put, List.setIfInBounds_toArray, List.set_cons_zero, List.set_cons_succ]
          rw [← hgV]
          clear hgV
          generalize v2.alloc (.cells #[] 3) = v3 at B3 S3 R3 V3 M3 N3 hHeld12 ⊢
          refine wpAnyH_ready (rs := [6]) (by kernel_rfl) (by simp) ?_
          refine AllReadyH.cons (o := { dst := some 15, op := .buildSlice 35 0 #[], type := 35, pos := "l08_raft.go:6", after := #[], guard := none }) rfl (fun K hK => ?_) (AllReadyH.nil)
          obtain ⟨gL, hgL⟩ : ∃ g, g = v3.heap.size := ⟨_, rfl⟩
          have NEML : Hid (gM < gL) := by show _ < _; rw [hgL]; exact (unhide M3).le
          have NENL : Hid (gN < gL) := by show _ < _; rw [hgL]; exact (unhide N3).lt
          have NEVL : Hid (gV < gL) := by show _ < _; rw [hgL]; exact (unhide V3).le
          have BSL : Hid (w.heap.size + 1 < gL) := by show _ < _; rw [hgL]; exact (unhide R3).lt
          have hb : Below v3.heap.size v3 (v3.alloc (.cells #[] 67)) := Go.Joins.below_alloc1 v3 (.cells #[] 67)
          have L4 : Hid (HeldZ 2 (v3.alloc (.cells #[] 67)) gL (gL + 1) 67 (.slice (some ⟨gL, 0, none⟩) 0 0) 0 []) := by rw [hgL]; exact ⟨World.ownsRow_lit (e := 67) (base := v3.heap.size) (size := 2) v3 #[] 0 (Nat.le_refl _) (by unfold maxLen; omega) rfl, (fun k hk => by have e : v3.heap.size = k := Option.some.inj hk; omega), by simp⟩
          have M4 := hide ((unhide M3).below hb (unhide M3).le)
          have N4 := hide ((unhide N3).below hb)
          have V4 := hide ((unhide V3).below hb (unhide V3).le)
          have B4 := hide ((unhide B3).trans (hb.mono (unhide B3).size))
          have S4 := hide ((unhide S3).below hb)
          have R4 := hide ((unhide R3).below hb)
          clear hb B3 S3 R3 M3 N3 V3
          go_simp
          refine hK.out _ _ ?_ (fun hHeld6 => ?_)
          · exact (unhide S4).S
          clear hK K
          try simp only [Act.put, List.setIfInBounds_toArray, List.set_cons_zero, List.set_cons_succ]
          rw [← hgL]
          clear hgL
          generalize v3.alloc (.cells #[] 67) = v4 at B4 S4 R4 L4 M4 N4 V4 hHeld6 ⊢
          refine wpAnyH_take (i := 9) (oi := { dst := some 18, op := .call { callee := .builtin Go.Builtin.append, args := #[.tmp 15, .tmp 17], argTypes := #[35, 35] }, type := 35, pos := "l08_raft.go:6", after := #[{ on := 6, ground := .data }, { on := 8, ground := .data }], guard := none }) (v := ?_) rfl (by kernel_rfl) (by kernel_rfl) (by kernel_rfl) (fun _ _ _ h => h) (Or.inl ⟨by rfl, ?_⟩) (by assumption) ?_
          rotate_left 1
          · (intro w' hSw; (try dsimp only at hSw); go_simp; try with_reducible rfl)
          try simp only [Act.put, List.setIfInBounds_toArray, List.set_cons_zero, List.set_cons_succ]
          refine wpAnyH_take (i := 15) (oi := { dst := some 24, op := .build 38 #[(0, .tmp 9), (1, .tmp 10), (2, .tmp 12), (3, .tmp 14), (5, .const (.bool true)), (6, .tmp 18), (9, .tmp 20), (10, .tmp 21), (12, .tmp 23)], type := 38, pos := "l08_raft.go:6", after := #[{ on := 0, ground := .data }, { on := 1, ground := .data }, { on := 3, ground := .data }, { on := 5, ground := .data }, { on := 9, ground := .data }, { on := 11, ground := .data }, { on := 12, ground := .data }, { on := 14, ground := .data }], guard := none }) (v := ?_) rfl (by kernel_rfl) (by kernel_rfl) (by kernel_rfl) (fun _ _ _ h => h) (Or.inl ⟨by rfl, ?_⟩) (by assumption) ?_
          rotate_left 1
          · (intro w' hSw; (try dsimp only at hSw); go_simp; try with_reducible rfl)
          try simp only [Act.put, List.setIfInBounds_toArray, List.set_cons_zero, List.set_cons_succ]
          refine wpAnyH_ready (rs := [17]) (by kernel_rfl) (by simp) ?_
          refine AllReadyH.cons (o := { dst := none, op := .store 38 (.tmp 7) (.tmp 24), type := 0, pos := "l08_raft.go:6", after := #[{ on := 16, ground := .data }, { on := 15, ground := .data }, { on := 9, ground := .chain }, { on := 0, ground := .phase }, { on := 1, ground := .phase }, { on := 2, ground := .phase }, { on := 3, ground := .phase }, { on := 4, ground := .phase }, { on := 5, ground := .phase }, { on := 6, ground := .phase }, { on := 7, ground := .phase }, { on := 8, ground := .phase }, { on := 9, ground := .phase }, { on := 10, ground := .phase }, { on := 11, ground := .phase }, { on := 12, ground := .phase }, { on := 13, ground := .phase }, { on := 14, ground := .phase }, { on := 15, ground := .phase }, { on := 16, ground := .phase }], guard := none }) rfl (fun K hK => ?_) (AllReadyH.nil)
          have cp := (unhide N4).S
          have cf := (unhide N4).F
          have DI : gL ≠ gV ∧ gL ≠ gM ∧ gL ≠ gN ∧ gV ≠ gM ∧ gV ≠ gN ∧ gM ≠ gN ∧ w.heap.size + 1 < gL ∧ w.heap.size + 1 < gV ∧ w.heap.size + 1 < gM ∧ w.heap.size + 1 < gN := by have := unhide BSL; have := unhide BSV; have := unhide BSM; have := unhide BSN; have := unhide NEMN; have := unhide NEMV; have := unhide NEML; have := unhide NENV; have := unhide NENL; have := unhide NEVL; omega
          obtain ⟨vz, hvz, hFN⟩ := put13 v4 (unhide N4) (.int .i64 id) (.int .i64 (m : Int)) (.int .i64 0) (.int .i64 (-1)) (.int .i64 0) (.bool true) (.slice (some ⟨gL, 0, none⟩) 0 0) (.int .i64 0) (.int .i64 0) (.int .i64 (5 + id)) (.slice (some ⟨gV, 0, none⟩) 0 0) (.slice none 0 0) (.slice (some ⟨gM, 0, none⟩) m m)
          obtain ⟨hFN, hO⟩ := hFN
          go_simp
          rw [← hvz]
          refine hK.out _ _ ?_ (fun hHeld17 => ?_)
          · exact ((unhide S4).outs hO (by omega)).S
          clear hK K
          try simp only [Act.put, List.setIfInBounds_toArray, List.set_cons_zero, List.set_cons_succ]
          refine wpAnyH_done (by kernel_rfl) ?_ _
          exact ⟨gL, gV, gM, gN, rfl, hFN, (unhide L4).outs hO (by omega), (unhide V4).outs hO (by omega), (unhide M4).outs hO (by omega), (unhide R4).outs hO (by omega), Below.outs (unhide B4) (unhide B4).size hO (by omega), DI⟩
    · skip
      obtain ⟨gN, hgN⟩ : ∃ g, g = v0.heap.size := ⟨_, rfl⟩
      have BSN : Hid (w.heap.size + 1 < gN) := by show _ < _; rw [hgN]; exact (unhide R0).lt
      have hb : Below v0.heap.size v0 (v0.alloc (.cells #[.int .i64 0, .int .i64 0, .int .i64 0, .int .i64 0, .int .i64 0, .bool false, .slice none 0 0, .int .i64 0, .int .i64 0, .int .i64 0, .slice none 0 0, .slice none 0 0, .slice none 0 0] 38)) := Go.Joins.below_alloc1 v0 (.cells #[.int .i64 0, .int .i64 0, .int .i64 0, .int .i64 0, .int .i64 0, .bool false, .slice none 0 0, .int .i64 0, .int .i64 0, .int .i64 0, .slice none 0 0, .slice none 0 0, .slice none 0 0] 38)
      have N1 : Hid (BF gN #[.int .i64 0, .int .i64 0, .int .i64 0, .int .i64 0, .int .i64 0, .bool false, .slice none 0 0, .int .i64 0, .int .i64 0, .int .i64 0, .slice none 0 0, .slice none 0 0, .slice none 0 0] (v0.alloc (.cells #[.int .i64 0, .int .i64 0, .int .i64 0, .int .i64 0, .int .i64 0, .bool false, .slice none 0 0, .int .i64 0, .int .i64 0, .int .i64 0, .slice none 0 0, .slice none 0 0, .slice none 0 0] 38))) := by rw [hgN]; exact BF.new v0 #[.int .i64 0, .int .i64 0, .int .i64 0, .int .i64 0, .int .i64 0, .bool false, .slice none 0 0, .int .i64 0, .int .i64 0, .int .i64 0, .slice none 0 0, .slice none 0 0, .slice none 0 0] 38
      have B1 := hide ((unhide B0).trans (hb.mono (unhide B0).size))
      have S1 := hide ((unhide S0).below hb)
      have R1 := hide ((unhide R0).below hb)
      clear hb B0 S0 R0 
      go_simp
      refine hK.out _ _ ?_ (fun hHeld16 => ?_)
      · exact (unhide S1).S
      clear hK K
      try simp only [Act.put, List.setIfInBounds_toArray, List.set_cons_zero, List.set_cons_succ]
      rw [← hgN]
      clear hgN
      generalize v0.alloc (.cells #[.int .i64 0, .int .i64 0, .int .i64 0, .int .i64 0, .int .i64 0, .bool false, .slice none 0 0, .int .i64 0, .int .i64 0, .int .i64 0, .slice none 0 0, .slice none 0 0, .slice none 0 0] 38) = v1 at B1 S1 R1 N1  hHeld16 ⊢
      refine wpAnyH_ready (rs := [6, 12, 14]) (by kernel_rfl) (by simp) ?_
      refine AllReadyH.cons (o := { dst := some 15, op := .buildSlice 35 0 #[], type := 35, pos := "l08_raft.go:6", after := #[], guard := none }) rfl (fun K hK => ?_) (AllReadyH.cons (o := { dst := some 21, op := .buildSlice 36 0 #[], type := 36, pos := "l08_raft.go:6", after := #[], guard := none }) rfl (fun K hK => ?_) (AllReadyH.cons (o := { dst := some 23, op := .makeSlice 36 (.tmp 22) (.tmp 22), type := 36, pos := "l08_raft.go:6", after := #[{ on := 13, ground := .data }, { on := 13, ground := .data }], guard := none }) rfl (fun K hK => ?_) (AllReadyH.nil)))
      · skip
        obtain ⟨gL, hgL⟩ : ∃ g, g = v1.heap.size := ⟨_, rfl⟩
        have NENL : Hid (gN < gL) := by show _ < _; rw [hgL]; exact (unhide N1).lt
        have BSL : Hid (w.heap.size + 1 < gL) := by show _ < _; rw [hgL]; exact (unhide R1).lt
        have hb : Below v1.heap.size v1 (v1.alloc (.cells #[] 67)) := Go.Joins.below_alloc1 v1 (.cells #[] 67)
        have L2 : Hid (HeldZ 2 (v1.alloc (.cells #[] 67)) gL (gL + 1) 67 (.slice (some ⟨gL, 0, none⟩) 0 0) 0 []) := by rw [hgL]; exact ⟨World.ownsRow_lit (e := 67) (base := v1.heap.size) (size := 2) v1 #[] 0 (Nat.le_refl _) (by unfold maxLen; omega) rfl, (fun k hk => by have e : v1.heap.size = k := Option.some.inj hk; omega), by simp⟩
        have N2 := hide ((unhide N1).below hb)
        have B2 := hide ((unhide B1).trans (hb.mono (unhide B1).size))
        have S2 := hide ((unhide S1).below hb)
        have R2 := hide ((unhide R1).below hb)
        clear hb B1 S1 R1 N1
        go_simp
        refine hK.out _ _ ?_ (fun hHeld6 => ?_)
        · exact (unhide S2).S
        clear hK K
        try simp only [Act.put, List.setIfInBounds_toArray, List.set_cons_zero, List.set_cons_succ]
        rw [← hgL]
        clear hgL
        generalize v1.alloc (.cells #[] 67) = v2 at B2 S2 R2 L2 N2 hHeld6 ⊢
        refine wpAnyH_take (i := 9) (oi := { dst := some 18, op := .call { callee := .builtin Go.Builtin.append, args := #[.tmp 15, .tmp 17], argTypes := #[35, 35] }, type := 35, pos := "l08_raft.go:6", after := #[{ on := 6, ground := .data }, { on := 8, ground := .data }], guard := none }) (v := ?_) rfl (by kernel_rfl) (by kernel_rfl) (by kernel_rfl) (fun _ _ _ h => h) (Or.inl ⟨by rfl, ?_⟩) (by assumption) ?_
        rotate_left 1
        · (intro w' hSw; (try dsimp only at hSw); go_simp; try with_reducible rfl)
        try simp only [Act.put, List.setIfInBounds_toArray, List.set_cons_zero, List.set_cons_succ]
        refine wpAnyH_ready (rs := [12, 14]) (by kernel_rfl) (by simp) ?_
        refine AllReadyH.cons (o := { dst := some 21, op := .buildSlice 36 0 #[], type := 36, pos := "l08_raft.go:6", after := #[], guard := none }) rfl (fun K hK => ?_) (AllReadyH.cons (o := { dst := some 23, op := .makeSlice 36 (.tmp 22) (.tmp 22), type := 36, pos := "l08_raft.go:6", after := #[{ on := 13, ground := .data }, { on := 13, ground := .data }], guard := none }) rfl (fun K hK => ?_) (AllReadyH.nil))
        · skip
          obtain ⟨gV, hgV⟩ : ∃ g, g = v2.heap.size := ⟨_, rfl⟩
          have NENV : Hid (gN < gV) := by show _ < _; rw [hgV]; exact (unhide N2).lt
          have NELV : Hid (gL < gV) := by show _ < _; rw [hgV]; exact (unhide L2).le
          have BSV : Hid (w.heap.size + 1 < gV) := by show _ < _; rw [hgV]; exact (unhide R2).lt
          have hb : Below v2.heap.size v2 (v2.alloc (.cells #[] 3)) := Go.Joins.below_alloc1 v2 (.cells #[] 3)
          have V3 : Hid (Held (v2.alloc (.cells #[] 3)) gV (gV + 1) 3 (.slice (some ⟨gV, 0, none⟩) 0 0) 0 []) := by rw [hgV]; exact ⟨World.ownsRow_lit (e := 3) (base := v2.heap.size) (size := 1) v2 #[] 0 (Nat.le_refl _) (by unfold maxLen; omega) rfl, (fun k hk => by have e : v2.heap.size = k := Option.some.inj hk; omega), by simp⟩
          have N3 := hide ((unhide N2).below hb)
          have L3 := hide ((unhide L2).below hb (unhide L2).le)
          have B3 := hide ((unhide B2).trans (hb.mono (unhide B2).size))
          have S3 := hide ((unhide S2).below hb)
          have R3 := hide ((unhide R2).below hb)
          clear hb B2 S2 R2 N2 L2
          go_simp
          refine hK.out _ _ ?_ (fun hHeld12 => ?_)
          · exact (unhide S3).S
          clear hK K
          try simp only [Act.put, List.setIfInBounds_toArray, List.set_cons_zero, List.set_cons_succ]
          rw [← hgV]
          clear hgV
          generalize v2.alloc (.cells #[] 3) = v3 at B3 S3 R3 V3 N3 L3 hHeld12 ⊢
          refine wpAnyH_ready (rs := [14]) (by kernel_rfl) (by simp) ?_
          refine AllReadyH.cons (o := { dst := some 23, op := .makeSlice 36 (.tmp 22) (.tmp 22), type := 36, pos := "l08_raft.go:6", after := #[{ on := 13, ground := .data }, { on := 13, ground := .data }], guard := none }) rfl (fun K hK => ?_) (AllReadyH.nil)
          obtain ⟨gM, hgM⟩ : ∃ g, g = v3.heap.size := ⟨_, rfl⟩
          have NENM : Hid (gN < gM) := by show _ < _; rw [hgM]; exact (unhide N3).lt
          have NELM : Hid (gL < gM) := by show _ < _; rw [hgM]; exact (unhide L3).le
          have NEVM : Hid (gV < gM) := by show _ < _; rw [hgM]; exact (unhide V3).le
          have BSM : Hid (w.heap.size + 1 < gM) := by show _ < _; rw [hgM]; exact (unhide R3).lt
          obtain ⟨v4, hrun, ho, hgr⟩ := run_make_full (P := Try.prog) (w := v3) v3.heap.size 36 3 i0 (.int .i64 0) 1 Try.underlying36 hi hz0 hz1 .i64 .i64 m (by rw [hz2]; omega) (by unfold maxLen; omega) (Nat.le_refl _)
          have hb : Below v3.heap.size v3 v4 := (Below.refl _ _).grown hgr (Nat.le_refl _) (fun k hk => by cases hk)
          rw [show (madeCells (Value.int .i64 0).cells (m * 1)).toList = cI (List.replicate m 0) from by rw [show (Value.int .i64 0).cells = #[.int .i64 0] from rfl, toList_madeCells_one]; simp [cI]] at ho
          have M4 : Hid (Held v4 gM (gM + 1) 3 (.slice (some ⟨gM, 0, none⟩) m m) m (cI (List.replicate m 0))) := by rw [hgM]; exact ⟨ho, (fun k hk => by have e : v3.heap.size = k := Option.some.inj hk; omega), (ho.lt v3.heap.size rfl).2⟩
          rw [← hgM] at hrun
          have N4 := hide ((unhide N3).below hb)
          have L4 := hide ((unhide L3).below hb (unhide L3).le)
          have V4 := hide ((unhide V3).below hb (unhide V3).le)
          have B4 := hide ((unhide B3).trans (hb.mono (unhide B3).size))
          have S4 := hide ((unhide S3).below hb)
          have R4 := hide ((unhide R3).below hb)
          clear hb B3 S3 R3 N3 L3 V3 ho hgr hgM
          go_simp
          refine hK.out _ _ ?_ (fun hHeld14 => ?_)
          · exact (unhide S4).S
          clear hK K
          try simp only [Act.put, List.setIfInBounds_toArray, List.set_cons_zero, List.set_cons_succ]
          clear hrun
          refine wpAnyH_take (i := 15) (oi := { dst := some 24, op := .build 38 #[(0, .tmp 9), (1, .tmp 10), (2, .tmp 12), (3, .tmp 14), (5, .const (.bool true)), (6, .tmp 18), (9, .tmp 20), (10, .tmp 21), (12, .tmp 23)], type := 38, pos := "l08_raft.go:6", after := #[{ on := 0, ground := .data }, { on := 1, ground := .data }, { on := 3, ground := .data }, { on := 5, ground := .data }, { on := 9, ground := .data }, { on := 11, ground := .data }, { on := 12, ground := .data }, { on := 14, ground := .data }], guard := none }) (v := ?_) rfl (by kernel_rfl) (by kernel_rfl) (by kernel_rfl) (fun _ _ _ h => h) (Or.inl ⟨by rfl, ?_⟩) (by assumption) ?_
          rotate_left 1
          · (intro w' hSw; (try dsimp only at hSw); go_simp; try with_reducible rfl)
          try simp only [Act.put, List.setIfInBounds_toArray, List.set_cons_zero, List.set_cons_succ]
          refine wpAnyH_ready (rs := [17]) (by kernel_rfl) (by simp) ?_
          refine AllReadyH.cons (o := { dst := none, op := .store 38 (.tmp 7) (.tmp 24), type := 0, pos := "l08_raft.go:6", after := #[{ on := 16, ground := .data }, { on := 15, ground := .data }, { on := 9, ground := .chain }, { on := 0, ground := .phase }, { on := 1, ground := .phase }, { on := 2, ground := .phase }, { on := 3, ground := .phase }, { on := 4, ground := .phase }, { on := 5, ground := .phase }, { on := 6, ground := .phase }, { on := 7, ground := .phase }, { on := 8, ground := .phase }, { on := 9, ground := .phase }, { on := 10, ground := .phase }, { on := 11, ground := .phase }, { on := 12, ground := .phase }, { on := 13, ground := .phase }, { on := 14, ground := .phase }, { on := 15, ground := .phase }, { on := 16, ground := .phase }], guard := none }) rfl (fun K hK => ?_) (AllReadyH.nil)
          have cp := (unhide N4).S
          have cf := (unhide N4).F
          have DI : gL ≠ gV ∧ gL ≠ gM ∧ gL ≠ gN ∧ gV ≠ gM ∧ gV ≠ gN ∧ gM ≠ gN ∧ w.heap.size + 1 < gL ∧ w.heap.size + 1 < gV ∧ w.heap.size + 1 < gM ∧ w.heap.size + 1 < gN := by have := unhide BSL; have := unhide BSV; have := unhide BSM; have := unhide BSN; have := unhide NENL; have := unhide NENV; have := unhide NENM; have := unhide NELV; have := unhide NELM; have := unhide NEVM; omega
          obtain ⟨vz, hvz, hFN⟩ := put13 v4 (unhide N4) (.int .i64 id) (.int .i64 (m : Int)) (.int .i64 0) (.int .i64 (-1)) (.int .i64 0) (.bool true) (.slice (some ⟨gL, 0, none⟩) 0 0) (.int .i64 0) (.int .i64 0) (.int .i64 (5 + id)) (.slice (some ⟨gV, 0, none⟩) 0 0) (.slice none 0 0) (.slice (some ⟨gM, 0, none⟩) m m)
          obtain ⟨hFN, hO⟩ := hFN
          go_simp
          rw [← hvz]
          refine hK.out _ _ ?_ (fun hHeld17 => ?_)
          · exact ((unhide S4).outs hO (by omega)).S
          clear hK K
          try simp only [Act.put, List.setIfInBounds_toArray, List.set_cons_zero, List.set_cons_succ]
          refine wpAnyH_done (by kernel_rfl) ?_ _
          exact ⟨gL, gV, gM, gN, rfl, hFN, (unhide L4).outs hO (by omega), (unhide V4).outs hO (by omega), (unhide M4).outs hO (by omega), (unhide R4).outs hO (by omega), Below.outs (unhide B4) (unhide B4).size hO (by omega), DI⟩
        · skip
          obtain ⟨gM, hgM⟩ : ∃ g, g = v2.heap.size := ⟨_, rfl⟩
          have NENM : Hid (gN < gM) := by show _ < _; rw [hgM]; exact (unhide N2).lt
          have NELM : Hid (gL < gM) := by show _ < _; rw [hgM]; exact (unhide L2).le
          have BSM : Hid (w.heap.size + 1 < gM) := by show _ < _; rw [hgM]; exact (unhide R2).lt
          obtain ⟨v3, hrun, ho, hgr⟩ := run_make_full (P := Try.prog) (w := v2) v2.heap.size 36 3 i0 (.int .i64 0) 1 Try.underlying36 hi hz0 hz1 .i64 .i64 m (by rw [hz2]; omega) (by unfold maxLen; omega) (Nat.le_refl _)
          have hb : Below v2.heap.size v2 v3 := (Below.refl _ _).grown hgr (Nat.le_refl _) (fun k hk => by cases hk)
          rw [show (madeCells (Value.int .i64 0).cells (m * 1)).toList = cI (List.replicate m 0) from by rw [show (Value.int .i64 0).cells = #[.int .i64 0] from rfl, toList_madeCells_one]; simp [cI]] at ho
          have M3 : Hid (Held v3 gM (gM + 1) 3 (.slice (some ⟨gM, 0, none⟩) m m) m (cI (List.replicate m 0))) := by rw [hgM]; exact ⟨ho, (fun k hk => by have e : v2.heap.size = k := Option.some.inj hk; omega), (ho.lt v2.heap.size rfl).2⟩
          rw [← hgM] at hrun
          have N3 := hide ((unhide N2).below hb)
          have L3 := hide ((unhide L2).below hb (unhide L2).le)
          have B3 := hide ((unhide B2).trans (hb.mono (unhide B2).size))
          have S3 := hide ((unhide S2).below hb)
          have R3 := hide ((unhide R2).below hb)
          clear hb B2 S2 R2 N2 L2 ho hgr hgM
          go_simp
          refine hK.out _ _ ?_ (fun hHeld14 => ?_)
          · exact (unhide S3).S
          clear hK K
          try simp only [Act.put, List.setIfInBounds_toArray, List.set_cons_zero, List.set_cons_succ]
          clear hrun
          refine wpAnyH_ready (rs := [12]) (by kernel_rfl) (by simp) ?_
          refine AllReadyH.cons (o := { dst := some 21, op := .buildSlice 36 0 #[], type := 36, pos := "l08_raft.go:6", after := #[], guard := none }) rfl (fun K hK => ?_) (AllReadyH.nil)
          obtain ⟨gV, hgV⟩ : ∃ g, g = v3.heap.size := ⟨_, rfl⟩
          have NENV : Hid (gN < gV) := by show _ < _; rw [hgV]; exact (unhide N3).lt
          have NELV : Hid (gL < gV) := by show _ < _; rw [hgV]; exact (unhide L3).le
          have NEMV : Hid (gM < gV) := by show _ < _; rw [hgV]; exact (unhide M3).le
          have BSV : Hid (w.heap.size + 1 < gV) := by show _ < _; rw [hgV]; exact (unhide R3).lt
          have hb : Below v3.heap.size v3 (v3.alloc (.cells #[] 3)) := Go.Joins.below_alloc1 v3 (.cells #[] 3)
          have V4 : Hid (Held (v3.alloc (.cells #[] 3)) gV (gV + 1) 3 (.slice (some ⟨gV, 0, none⟩) 0 0) 0 []) := by rw [hgV]; exact ⟨World.ownsRow_lit (e := 3) (base := v3.heap.size) (size := 1) v3 #[] 0 (Nat.le_refl _) (by unfold maxLen; omega) rfl, (fun k hk => by have e : v3.heap.size = k := Option.some.inj hk; omega), by simp⟩
          have N4 := hide ((unhide N3).below hb)
          have L4 := hide ((unhide L3).below hb (unhide L3).le)
          have M4 := hide ((unhide M3).below hb (unhide M3).le)
          have B4 := hide ((unhide B3).trans (hb.mono (unhide B3).size))
          have S4 := hide ((unhide S3).below hb)
          have R4 := hide ((unhide R3).below hb)
          clear hb B3 S3 R3 N3 L3 M3
          go_simp
          refine hK.out _ _ ?_ (fun hHeld12 => ?_)
          · exact (unhide S4).S
          clear hK K
          try simp only [Act.put, List.setIfInBounds_toArray, List.set_cons_zero, List.set_cons_succ]
          rw [← hgV]
          clear hgV
          generalize v3.alloc (.cells #[] 3) = v4 at B4 S4 R4 V4 N4 L4 M4 hHeld12 ⊢
          refine wpAnyH_take (i := 15) (oi := { dst := some 24, op := .build 38 #[(0, .tmp 9), (1, .tmp 10), (2, .tmp 12), (3, .tmp 14), (5, .const (.bool true)), (6, .tmp 18), (9, .tmp 20), (10, .tmp 21), (12, .tmp 23)], type := 38, pos := "l08_raft.go:6", after := #[{ on := 0, ground := .data }, { on := 1, ground := .data }, { on := 3, ground := .data }, { on := 5, ground := .data }, { on := 9, ground := .data }, { on := 11, ground := .data }, { on := 12, ground := .data }, { on := 14, ground := .data }], guard := none }) (v := ?_) rfl (by kernel_rfl) (by kernel_rfl) (by kernel_rfl) (fun _ _ _ h => h) (Or.inl ⟨by rfl, ?_⟩) (by assumption) ?_
          rotate_left 1
          · (intro w' hSw; (try dsimp only at hSw); go_simp; try with_reducible rfl)
          try simp only [Act.put, List.setIfInBounds_toArray, List.set_cons_zero, List.set_cons_succ]
          refine wpAnyH_ready (rs := [17]) (by kernel_rfl) (by simp) ?_
          refine AllReadyH.cons (o := { dst := none, op := .store 38 (.tmp 7) (.tmp 24), type := 0, pos := "l08_raft.go:6", after := #[{ on := 16, ground := .data }, { on := 15, ground := .data }, { on := 9, ground := .chain }, { on := 0, ground := .phase }, { on := 1, ground := .phase }, { on := 2, ground := .phase }, { on := 3, ground := .phase }, { on := 4, ground := .phase }, { on := 5, ground := .phase }, { on := 6, ground := .phase }, { on := 7, ground := .phase }, { on := 8, ground := .phase }, { on := 9, ground := .phase }, { on := 10, ground := .phase }, { on := 11, ground := .phase }, { on := 12, ground := .phase }, { on := 13, ground := .phase }, { on := 14, ground := .phase }, { on := 15, ground := .phase }, { on := 16, ground := .phase }], guard := none }) rfl (fun K hK => ?_) (AllReadyH.nil)
          have cp := (unhide N4).S
          have cf := (unhide N4).F
          have DI : gL ≠ gV ∧ gL ≠ gM ∧ gL ≠ gN ∧ gV ≠ gM ∧ gV ≠ gN ∧ gM ≠ gN ∧ w.heap.size + 1 < gL ∧ w.heap.size + 1 < gV ∧ w.heap.size + 1 < gM ∧ w.heap.size + 1 < gN := by have := unhide BSL; have := unhide BSV; have := unhide BSM; have := unhide BSN; have := unhide NENL; have := unhide NENM; have := unhide NENV; have := unhide NELM; have := unhide NELV; have := unhide NEMV; omega
          obtain ⟨vz, hvz, hFN⟩ := put13 v4 (unhide N4) (.int .i64 id) (.int .i64 (m : Int)) (.int .i64 0) (.int .i64 (-1)) (.int .i64 0) (.bool true) (.slice (some ⟨gL, 0, none⟩) 0 0) (.int .i64 0) (.int .i64 0) (.int .i64 (5 + id)) (.slice (some ⟨gV, 0, none⟩) 0 0) (.slice none 0 0) (.slice (some ⟨gM, 0, none⟩) m m)
          obtain ⟨hFN, hO⟩ := hFN
          go_simp
          rw [← hvz]
          refine hK.out _ _ ?_ (fun hHeld17 => ?_)
          · exact ((unhide S4).outs hO (by omega)).S
          clear hK K
          try simp only [Act.put, List.setIfInBounds_toArray, List.set_cons_zero, List.set_cons_succ]
          refine wpAnyH_done (by kernel_rfl) ?_ _
          exact ⟨gL, gV, gM, gN, rfl, hFN, (unhide L4).outs hO (by omega), (unhide V4).outs hO (by omega), (unhide M4).outs hO (by omega), (unhide R4).outs hO (by omega), Below.outs (unhide B4) (unhide B4).size hO (by omega), DI⟩
      · skip
        obtain ⟨gV, hgV⟩ : ∃ g, g = v1.heap.size := ⟨_, rfl⟩
        have NENV : Hid (gN < gV) := by show _ < _; rw [hgV]; exact (unhide N1).lt
        have BSV : Hid (w.heap.size + 1 < gV) := by show _ < _; rw [hgV]; exact (unhide R1).lt
        have hb : Below v1.heap.size v1 (v1.alloc (.cells #[] 3)) := Go.Joins.below_alloc1 v1 (.cells #[] 3)
        have V2 : Hid (Held (v1.alloc (.cells #[] 3)) gV (gV + 1) 3 (.slice (some ⟨gV, 0, none⟩) 0 0) 0 []) := by rw [hgV]; exact ⟨World.ownsRow_lit (e := 3) (base := v1.heap.size) (size := 1) v1 #[] 0 (Nat.le_refl _) (by unfold maxLen; omega) rfl, (fun k hk => by have e : v1.heap.size = k := Option.some.inj hk; omega), by simp⟩
        have N2 := hide ((unhide N1).below hb)
        have B2 := hide ((unhide B1).trans (hb.mono (unhide B1).size))
        have S2 := hide ((unhide S1).below hb)
        have R2 := hide ((unhide R1).below hb)
        clear hb B1 S1 R1 N1
        go_simp
        refine hK.out _ _ ?_ (fun hHeld12 => ?_)
        · exact (unhide S2).S
        clear hK K
        try simp only [Act.put, List.setIfInBounds_toArray, List.set_cons_zero, List.set_cons_succ]
        rw [← hgV]
        clear hgV
        generalize v1.alloc (.cells #[] 3) = v2 at B2 S2 R2 V2 N2 hHeld12 ⊢
        refine wpAnyH_ready (rs := [6, 14]) (by kernel_rfl) (by simp) ?_
        refine AllReadyH.cons (o := { dst := some 15, op := .buildSlice 35 0 #[], type := 35, pos := "l08_raft.go:6", after := #[], guard := none }) rfl (fun K hK => ?_) (AllReadyH.cons (o := { dst := some 23, op := .makeSlice 36 (.tmp 22) (.tmp 22), type := 36, pos := "l08_raft.go:6", after := #[{ on := 13, ground := .data }, { on := 13, ground := .data }], guard := none }) rfl (fun K hK => ?_) (AllReadyH.nil))
        · skip
          obtain ⟨gL, hgL⟩ : ∃ g, g = v2.heap.size := ⟨_, rfl⟩
          have NENL : Hid (gN < gL) := by show _ < _; rw [hgL]; exact (unhide N2).lt
          have NEVL : Hid (gV < gL) := by show _ < _; rw [hgL]; exact (unhide V2).le
          have BSL : Hid (w.heap.size + 1 < gL) := by show _ < _; rw [hgL]; exact (unhide R2).lt
          have hb : Below v2.heap.size v2 (v2.alloc (.cells #[] 67)) := Go.Joins.below_alloc1 v2 (.cells #[] 67)
          have L3 : Hid (HeldZ 2 (v2.alloc (.cells #[] 67)) gL (gL + 1) 67 (.slice (some ⟨gL, 0, none⟩) 0 0) 0 []) := by rw [hgL]; exact ⟨World.ownsRow_lit (e := 67) (base := v2.heap.size) (size := 2) v2 #[] 0 (Nat.le_refl _) (by unfold maxLen; omega) rfl, (fun k hk => by have e : v2.heap.size = k := Option.some.inj hk; omega), by simp⟩
          have N3 := hide ((unhide N2).below hb)
          have V3 := hide ((unhide V2).below hb (unhide V2).le)
          have B3 := hide ((unhide B2).trans (hb.mono (unhide B2).size))
          have S3 := hide ((unhide S2).below hb)
          have R3 := hide ((unhide R2).below hb)
          clear hb B2 S2 R2 N2 V2
          go_simp
          refine hK.out _ _ ?_ (fun hHeld6 => ?_)
          · exact (unhide S3).S
          clear hK K
          try simp only [Act.put, List.setIfInBounds_toArray, List.set_cons_zero, List.set_cons_succ]
          rw [← hgL]
          clear hgL
          generalize v2.alloc (.cells #[] 67) = v3 at B3 S3 R3 L3 N3 V3 hHeld6 ⊢
          refine wpAnyH_take (i := 9) (oi := { dst := some 18, op := .call { callee := .builtin Go.Builtin.append, args := #[.tmp 15, .tmp 17], argTypes := #[35, 35] }, type := 35, pos := "l08_raft.go:6", after := #[{ on := 6, ground := .data }, { on := 8, ground := .data }], guard := none }) (v := ?_) rfl (by kernel_rfl) (by kernel_rfl) (by kernel_rfl) (fun _ _ _ h => h) (Or.inl ⟨by rfl, ?_⟩) (by assumption) ?_
          rotate_left 1
          · (intro w' hSw; (try dsimp only at hSw); go_simp; try with_reducible rfl)
          try simp only [Act.put, List.setIfInBounds_toArray, List.set_cons_zero, List.set_cons_succ]
          refine wpAnyH_ready (rs := [14]) (by kernel_rfl) (by simp) ?_
          refine AllReadyH.cons (o := { dst := some 23, op := .makeSlice 36 (.tmp 22) (.tmp 22), type := 36, pos := "l08_raft.go:6", after := #[{ on := 13, ground := .data }, { on := 13, ground := .data }], guard := none }) rfl (fun K hK => ?_) (AllReadyH.nil)
          obtain ⟨gM, hgM⟩ : ∃ g, g = v3.heap.size := ⟨_, rfl⟩
          have NENM : Hid (gN < gM) := by show _ < _; rw [hgM]; exact (unhide N3).lt
          have NEVM : Hid (gV < gM) := by show _ < _; rw [hgM]; exact (unhide V3).le
          have NELM : Hid (gL < gM) := by show _ < _; rw [hgM]; exact (unhide L3).le
          have BSM : Hid (w.heap.size + 1 < gM) := by show _ < _; rw [hgM]; exact (unhide R3).lt
          obtain ⟨v4, hrun, ho, hgr⟩ := run_make_full (P := Try.prog) (w := v3) v3.heap.size 36 3 i0 (.int .i64 0) 1 Try.underlying36 hi hz0 hz1 .i64 .i64 m (by rw [hz2]; omega) (by unfold maxLen; omega) (Nat.le_refl _)
          have hb : Below v3.heap.size v3 v4 := (Below.refl _ _).grown hgr (Nat.le_refl _) (fun k hk => by cases hk)
          rw [show (madeCells (Value.int .i64 0).cells (m * 1)).toList = cI (List.replicate m 0) from by rw [show (Value.int .i64 0).cells = #[.int .i64 0] from rfl, toList_madeCells_one]; simp [cI]] at ho
          have M4 : Hid (Held v4 gM (gM + 1) 3 (.slice (some ⟨gM, 0, none⟩) m m) m (cI (List.replicate m 0))) := by rw [hgM]; exact ⟨ho, (fun k hk => by have e : v3.heap.size = k := Option.some.inj hk; omega), (ho.lt v3.heap.size rfl).2⟩
          rw [← hgM] at hrun
          have N4 := hide ((unhide N3).below hb)
          have V4 := hide ((unhide V3).below hb (unhide V3).le)
          have L4 := hide ((unhide L3).below hb (unhide L3).le)
          have B4 := hide ((unhide B3).trans (hb.mono (unhide B3).size))
          have S4 := hide ((unhide S3).below hb)
          have R4 := hide ((unhide R3).below hb)
          clear hb B3 S3 R3 N3 V3 L3 ho hgr hgM
          go_simp
          refine hK.out _ _ ?_ (fun hHeld14 => ?_)
          · exact (unhide S4).S
          clear hK K
          try simp only [Act.put, List.setIfInBounds_toArray, List.set_cons_zero, List.set_cons_succ]
          clear hrun
          refine wpAnyH_take (i := 15) (oi := { dst := some 24, op := .build 38 #[(0, .tmp 9), (1, .tmp 10), (2, .tmp 12), (3, .tmp 14), (5, .const (.bool true)), (6, .tmp 18), (9, .tmp 20), (10, .tmp 21), (12, .tmp 23)], type := 38, pos := "l08_raft.go:6", after := #[{ on := 0, ground := .data }, { on := 1, ground := .data }, { on := 3, ground := .data }, { on := 5, ground := .data }, { on := 9, ground := .data }, { on := 11, ground := .data }, { on := 12, ground := .data }, { on := 14, ground := .data }], guard := none }) (v := ?_) rfl (by kernel_rfl) (by kernel_rfl) (by kernel_rfl) (fun _ _ _ h => h) (Or.inl ⟨by rfl, ?_⟩) (by assumption) ?_
          rotate_left 1
          · (intro w' hSw; (try dsimp only at hSw); go_simp; try with_reducible rfl)
          try simp only [Act.put, List.setIfInBounds_toArray, List.set_cons_zero, List.set_cons_succ]
          refine wpAnyH_ready (rs := [17]) (by kernel_rfl) (by simp) ?_
          refine AllReadyH.cons (o := { dst := none, op := .store 38 (.tmp 7) (.tmp 24), type := 0, pos := "l08_raft.go:6", after := #[{ on := 16, ground := .data }, { on := 15, ground := .data }, { on := 9, ground := .chain }, { on := 0, ground := .phase }, { on := 1, ground := .phase }, { on := 2, ground := .phase }, { on := 3, ground := .phase }, { on := 4, ground := .phase }, { on := 5, ground := .phase }, { on := 6, ground := .phase }, { on := 7, ground := .phase }, { on := 8, ground := .phase }, { on := 9, ground := .phase }, { on := 10, ground := .phase }, { on := 11, ground := .phase }, { on := 12, ground := .phase }, { on := 13, ground := .phase }, { on := 14, ground := .phase }, { on := 15, ground := .phase }, { on := 16, ground := .phase }], guard := none }) rfl (fun K hK => ?_) (AllReadyH.nil)
          have cp := (unhide N4).S
          have cf := (unhide N4).F
          have DI : gL ≠ gV ∧ gL ≠ gM ∧ gL ≠ gN ∧ gV ≠ gM ∧ gV ≠ gN ∧ gM ≠ gN ∧ w.heap.size + 1 < gL ∧ w.heap.size + 1 < gV ∧ w.heap.size + 1 < gM ∧ w.heap.size + 1 < gN := by have := unhide BSL; have := unhide BSV; have := unhide BSM; have := unhide BSN; have := unhide NENV; have := unhide NENL; have := unhide NENM; have := unhide NEVL; have := unhide NEVM; have := unhide NELM; omega
          obtain ⟨vz, hvz, hFN⟩ := put13 v4 (unhide N4) (.int .i64 id) (.int .i64 (m : Int)) (.int .i64 0) (.int .i64 (-1)) (.int .i64 0) (.bool true) (.slice (some ⟨gL, 0, none⟩) 0 0) (.int .i64 0) (.int .i64 0) (.int .i64 (5 + id)) (.slice (some ⟨gV, 0, none⟩) 0 0) (.slice none 0 0) (.slice (some ⟨gM, 0, none⟩) m m)
          obtain ⟨hFN, hO⟩ := hFN
          go_simp
          rw [← hvz]
          refine hK.out _ _ ?_ (fun hHeld17 => ?_)
          · exact ((unhide S4).outs hO (by omega)).S
          clear hK K
          try simp only [Act.put, List.setIfInBounds_toArray, List.set_cons_zero, List.set_cons_succ]
          refine wpAnyH_done (by kernel_rfl) ?_ _
          exact ⟨gL, gV, gM, gN, rfl, hFN, (unhide L4).outs hO (by omega), (unhide V4).outs hO (by omega), (unhide M4).outs hO (by omega), (unhide R4).outs hO (by omega), Below.outs (unhide B4) (unhide B4).size hO (by omega), DI⟩
        · skip
          obtain ⟨gM, hgM⟩ : ∃ g, g = v2.heap.size := ⟨_, rfl⟩
          have NENM : Hid (gN < gM) := by show _ < _; rw [hgM]; exact (unhide N2).lt
          have NEVM : Hid (gV < gM) := by show _ < _; rw [hgM]; exact (unhide V2).le
          have BSM : Hid (w.heap.size + 1 < gM) := by show _ < _; rw [hgM]; exact (unhide R2).lt
          obtain ⟨v3, hrun, ho, hgr⟩ := run_make_full (P := Try.prog) (w := v2) v2.heap.size 36 3 i0 (.int .i64 0) 1 Try.underlying36 hi hz0 hz1 .i64 .i64 m (by rw [hz2]; omega) (by unfold maxLen; omega) (Nat.le_refl _)
          have hb : Below v2.heap.size v2 v3 := (Below.refl _ _).grown hgr (Nat.le_refl _) (fun k hk => by cases hk)
          rw [show (madeCells (Value.int .i64 0).cells (m * 1)).toList = cI (List.replicate m 0) from by rw [show (Value.int .i64 0).cells = #[.int .i64 0] from rfl, toList_madeCells_one]; simp [cI]] at ho
          have M3 : Hid (Held v3 gM (gM + 1) 3 (.slice (some ⟨gM, 0, none⟩) m m) m (cI (List.replicate m 0))) := by rw [hgM]; exact ⟨ho, (fun k hk => by have e : v2.heap.size = k := Option.some.inj hk; omega), (ho.lt v2.heap.size rfl).2⟩
          rw [← hgM] at hrun
          have N3 := hide ((unhide N2).below hb)
          have V3 := hide ((unhide V2).below hb (unhide V2).le)
          have B3 := hide ((unhide B2).trans (hb.mono (unhide B2).size))
          have S3 := hide ((unhide S2).below hb)
          have R3 := hide ((unhide R2).below hb)
          clear hb B2 S2 R2 N2 V2 ho hgr hgM
          go_simp
          refine hK.out _ _ ?_ (fun hHeld14 => ?_)
          · exact (unhide S3).S
          clear hK K
          try simp only [Act.put, List.setIfInBounds_toArray, List.set_cons_zero, List.set_cons_succ]
          clear hrun
          refine wpAnyH_ready (rs := [6]) (by kernel_rfl) (by simp) ?_
          refine AllReadyH.cons (o := { dst := some 15, op := .buildSlice 35 0 #[], type := 35, pos := "l08_raft.go:6", after := #[], guard := none }) rfl (fun K hK => ?_) (AllReadyH.nil)
          obtain ⟨gL, hgL⟩ : ∃ g, g = v3.heap.size := ⟨_, rfl⟩
          have NENL : Hid (gN < gL) := by show _ < _; rw [hgL]; exact (unhide N3).lt
          have NEVL : Hid (gV < gL) := by show _ < _; rw [hgL]; exact (unhide V3).le
          have NEML : Hid (gM < gL) := by show _ < _; rw [hgL]; exact (unhide M3).le
          have BSL : Hid (w.heap.size + 1 < gL) := by show _ < _; rw [hgL]; exact (unhide R3).lt
          have hb : Below v3.heap.size v3 (v3.alloc (.cells #[] 67)) := Go.Joins.below_alloc1 v3 (.cells #[] 67)
          have L4 : Hid (HeldZ 2 (v3.alloc (.cells #[] 67)) gL (gL + 1) 67 (.slice (some ⟨gL, 0, none⟩) 0 0) 0 []) := by rw [hgL]; exact ⟨World.ownsRow_lit (e := 67) (base := v3.heap.size) (size := 2) v3 #[] 0 (Nat.le_refl _) (by unfold maxLen; omega) rfl, (fun k hk => by have e : v3.heap.size = k := Option.some.inj hk; omega), by simp⟩
          have N4 := hide ((unhide N3).below hb)
          have V4 := hide ((unhide V3).below hb (unhide V3).le)
          have M4 := hide ((unhide M3).below hb (unhide M3).le)
          have B4 := hide ((unhide B3).trans (hb.mono (unhide B3).size))
          have S4 := hide ((unhide S3).below hb)
          have R4 := hide ((unhide R3).below hb)
          clear hb B3 S3 R3 N3 V3 M3
          go_simp
          refine hK.out _ _ ?_ (fun hHeld6 => ?_)
          · exact (unhide S4).S
          clear hK K
          try simp only [Act.put, List.setIfInBounds_toArray, List.set_cons_zero, List.set_cons_succ]
          rw [← hgL]
          clear hgL
          generalize v3.alloc (.cells #[] 67) = v4 at B4 S4 R4 L4 N4 V4 M4 hHeld6 ⊢
          refine wpAnyH_take (i := 9) (oi := { dst := some 18, op := .call { callee := .builtin Go.Builtin.append, args := #[.tmp 15, .tmp 17], argTypes := #[35, 35] }, type := 35, pos := "l08_raft.go:6", after := #[{ on := 6, ground := .data }, { on := 8, ground := .data }], guard := none }) (v := ?_) rfl (by kernel_rfl) (by kernel_rfl) (by kernel_rfl) (fun _ _ _ h => h) (Or.inl ⟨by rfl, ?_⟩) (by assumption) ?_
          rotate_left 1
          · (intro w' hSw; (try dsimp only at hSw); go_simp; try with_reducible rfl)
          try simp only [Act.put, List.setIfInBounds_toArray, List.set_cons_zero, List.set_cons_succ]
          refine wpAnyH_take (i := 15) (oi := { dst := some 24, op := .build 38 #[(0, .tmp 9), (1, .tmp 10), (2, .tmp 12), (3, .tmp 14), (5, .const (.bool true)), (6, .tmp 18), (9, .tmp 20), (10, .tmp 21), (12, .tmp 23)], type := 38, pos := "l08_raft.go:6", after := #[{ on := 0, ground := .data }, { on := 1, ground := .data }, { on := 3, ground := .data }, { on := 5, ground := .data }, { on := 9, ground := .data }, { on := 11, ground := .data }, { on := 12, ground := .data }, { on := 14, ground := .data }], guard := none }) (v := ?_) rfl (by kernel_rfl) (by kernel_rfl) (by kernel_rfl) (fun _ _ _ h => h) (Or.inl ⟨by rfl, ?_⟩) (by assumption) ?_
          rotate_left 1
          · (intro w' hSw; (try dsimp only at hSw); go_simp; try with_reducible rfl)
          try simp only [Act.put, List.setIfInBounds_toArray, List.set_cons_zero, List.set_cons_succ]
          refine wpAnyH_ready (rs := [17]) (by kernel_rfl) (by simp) ?_
          refine AllReadyH.cons (o := { dst := none, op := .store 38 (.tmp 7) (.tmp 24), type := 0, pos := "l08_raft.go:6", after := #[{ on := 16, ground := .data }, { on := 15, ground := .data }, { on := 9, ground := .chain }, { on := 0, ground := .phase }, { on := 1, ground := .phase }, { on := 2, ground := .phase }, { on := 3, ground := .phase }, { on := 4, ground := .phase }, { on := 5, ground := .phase }, { on := 6, ground := .phase }, { on := 7, ground := .phase }, { on := 8, ground := .phase }, { on := 9, ground := .phase }, { on := 10, ground := .phase }, { on := 11, ground := .phase }, { on := 12, ground := .phase }, { on := 13, ground := .phase }, { on := 14, ground := .phase }, { on := 15, ground := .phase }, { on := 16, ground := .phase }], guard := none }) rfl (fun K hK => ?_) (AllReadyH.nil)
          have cp := (unhide N4).S
          have cf := (unhide N4).F
          have DI : gL ≠ gV ∧ gL ≠ gM ∧ gL ≠ gN ∧ gV ≠ gM ∧ gV ≠ gN ∧ gM ≠ gN ∧ w.heap.size + 1 < gL ∧ w.heap.size + 1 < gV ∧ w.heap.size + 1 < gM ∧ w.heap.size + 1 < gN := by have := unhide BSL; have := unhide BSV; have := unhide BSM; have := unhide BSN; have := unhide NENV; have := unhide NENM; have := unhide NENL; have := unhide NEVM; have := unhide NEVL; have := unhide NEML; omega
          obtain ⟨vz, hvz, hFN⟩ := put13 v4 (unhide N4) (.int .i64 id) (.int .i64 (m : Int)) (.int .i64 0) (.int .i64 (-1)) (.int .i64 0) (.bool true) (.slice (some ⟨gL, 0, none⟩) 0 0) (.int .i64 0) (.int .i64 0) (.int .i64 (5 + id)) (.slice (some ⟨gV, 0, none⟩) 0 0) (.slice none 0 0) (.slice (some ⟨gM, 0, none⟩) m m)
          obtain ⟨hFN, hO⟩ := hFN
          go_simp
          rw [← hvz]
          refine hK.out _ _ ?_ (fun hHeld17 => ?_)
          · exact ((unhide S4).outs hO (by omega)).S
          clear hK K
          try simp only [Act.put, List.setIfInBounds_toArray, List.set_cons_zero, List.set_cons_succ]
          refine wpAnyH_done (by kernel_rfl) ?_ _
          exact ⟨gL, gV, gM, gN, rfl, hFN, (unhide L4).outs hO (by omega), (unhide V4).outs hO (by omega), (unhide M4).outs hO (by omega), (unhide R4).outs hO (by omega), Below.outs (unhide B4) (unhide B4).size hO (by omega), DI⟩
      · skip
        obtain ⟨gM, hgM⟩ : ∃ g, g = v1.heap.size := ⟨_, rfl⟩
        have NENM : Hid (gN < gM) := by show _ < _; rw [hgM]; exact (unhide N1).lt
        have BSM : Hid (w.heap.size + 1 < gM) := by show _ < _; rw [hgM]; exact (unhide R1).lt
        obtain ⟨v2, hrun, ho, hgr⟩ := run_make_full (P := Try.prog) (w := v1) v1.heap.size 36 3 i0 (.int .i64 0) 1 Try.underlying36 hi hz0 hz1 .i64 .i64 m (by rw [hz2]; omega) (by unfold maxLen; omega) (Nat.le_refl _)
        have hb : Below v1.heap.size v1 v2 := (Below.refl _ _).grown hgr (Nat.le_refl _) (fun k hk => by cases hk)
        rw [show (madeCells (Value.int .i64 0).cells (m * 1)).toList = cI (List.replicate m 0) from by rw [show (Value.int .i64 0).cells = #[.int .i64 0] from rfl, toList_madeCells_one]; simp [cI]] at ho
        have M2 : Hid (Held v2 gM (gM + 1) 3 (.slice (some ⟨gM, 0, none⟩) m m) m (cI (List.replicate m 0))) := by rw [hgM]; exact ⟨ho, (fun k hk => by have e : v1.heap.size = k := Option.some.inj hk; omega), (ho.lt v1.heap.size rfl).2⟩
        rw [← hgM] at hrun
        have N2 := hide ((unhide N1).below hb)
        have B2 := hide ((unhide B1).trans (hb.mono (unhide B1).size))
        have S2 := hide ((unhide S1).below hb)
        have R2 := hide ((unhide R1).below hb)
        clear hb B1 S1 R1 N1 ho hgr hgM
        go_simp
        refine hK.out _ _ ?_ (fun hHeld14 => ?_)
        · exact (unhide S2).S
        clear hK K
        try simp only [Act.put, List.setIfInBounds_toArray, List.set_cons_zero, List.set_cons_succ]
        clear hrun
        refine wpAnyH_ready (rs := [6, 12]) (by kernel_rfl) (by simp) ?_
        refine AllReadyH.cons (o := { dst := some 15, op := .buildSlice 35 0 #[], type := 35, pos := "l08_raft.go:6", after := #[], guard := none }) rfl (fun K hK => ?_) (AllReadyH.cons (o := { dst := some 21, op := .buildSlice 36 0 #[], type := 36, pos := "l08_raft.go:6", after := #[], guard := none }) rfl (fun K hK => ?_) (AllReadyH.nil))
        · skip
          obtain ⟨gL, hgL⟩ : ∃ g, g = v2.heap.size := ⟨_, rfl⟩
          have NENL : Hid (gN < gL) := by show _ < _; rw [hgL]; exact (unhide N2).lt
          have NEML : Hid (gM < gL) := by show _ < _; rw [hgL]; exact (unhide M2).le
          have BSL : Hid (w.heap.size + 1 < gL) := by show _ < _; rw [hgL]; exact (unhide R2).lt
          have hb : Below v2.heap.size v2 (v2.alloc (.cells #[] 67)) := Go.Joins.below_alloc1 v2 (.cells #[] 67)
          have L3 : Hid (HeldZ 2 (v2.alloc (.cells #[] 67)) gL (gL + 1) 67 (.slice (some ⟨gL, 0, none⟩) 0 0) 0 []) := by rw [hgL]; exact ⟨World.ownsRow_lit (e := 67) (base := v2.heap.size) (size := 2) v2 #[] 0 (Nat.le_refl _) (by unfold maxLen; omega) rfl, (fun k hk => by have e : v2.heap.size = k := Option.some.inj hk; omega), by simp⟩
          have N3 := hide ((unhide N2).below hb)
          have M3 := hide ((unhide M2).below hb (unhide M2).le)
          have B3 := hide ((unhide B2).trans (hb.mono (unhide B2).size))
          have S3 := hide ((unhide S2).below hb)
          have R3 := hide ((unhide R2).below hb)
          clear hb B2 S2 R2 N2 M2
          go_simp
          refine hK.out _ _ ?_ (fun hHeld6 => ?_)
          · exact (unhide S3).S
          clear hK K
          try simp only [Act.put, List.setIfInBounds_toArray, List.set_cons_zero, List.set_cons_succ]
          rw [← hgL]
          clear hgL
          generalize v2.alloc (.cells #[] 67) = v3 at B3 S3 R3 L3 N3 M3 hHeld6 ⊢
          refine wpAnyH_take (i := 9) (oi := { dst := some 18, op := .call { callee := .builtin Go.Builtin.append, args := #[.tmp 15, .tmp 17], argTypes := #[35, 35] }, type := 35, pos := "l08_raft.go:6", after := #[{ on := 6, ground := .data }, { on := 8, ground := .data }], guard := none }) (v := ?_) rfl (by kernel_rfl) (by kernel_rfl) (by kernel_rfl) (fun _ _ _ h => h) (Or.inl ⟨by rfl, ?_⟩) (by assumption) ?_
          rotate_left 1
          · (intro w' hSw; (try dsimp only at hSw); go_simp; try with_reducible rfl)
          try simp only [Act.put, List.setIfInBounds_toArray, List.set_cons_zero, List.set_cons_succ]
          refine wpAnyH_ready (rs := [12]) (by kernel_rfl) (by simp) ?_
          refine AllReadyH.cons (o := { dst := some 21, op := .buildSlice 36 0 #[], type := 36, pos := "l08_raft.go:6", after := #[], guard := none }) rfl (fun K hK => ?_) (AllReadyH.nil)
          obtain ⟨gV, hgV⟩ : ∃ g, g = v3.heap.size := ⟨_, rfl⟩
          have NENV : Hid (gN < gV) := by show _ < _; rw [hgV]; exact (unhide N3).lt
          have NEMV : Hid (gM < gV) := by show _ < _; rw [hgV]; exact (unhide M3).le
          have NELV : Hid (gL < gV) := by show _ < _; rw [hgV]; exact (unhide L3).le
          have BSV : Hid (w.heap.size + 1 < gV) := by show _ < _; rw [hgV]; exact (unhide R3).lt
          have hb : Below v3.heap.size v3 (v3.alloc (.cells #[] 3)) := Go.Joins.below_alloc1 v3 (.cells #[] 3)
          have V4 : Hid (Held (v3.alloc (.cells #[] 3)) gV (gV + 1) 3 (.slice (some ⟨gV, 0, none⟩) 0 0) 0 []) := by rw [hgV]; exact ⟨World.ownsRow_lit (e := 3) (base := v3.heap.size) (size := 1) v3 #[] 0 (Nat.le_refl _) (by unfold maxLen; omega) rfl, (fun k hk => by have e : v3.heap.size = k := Option.some.inj hk; omega), by simp⟩
          have N4 := hide ((unhide N3).below hb)
          have M4 := hide ((unhide M3).below hb (unhide M3).le)
          have L4 := hide ((unhide L3).below hb (unhide L3).le)
          have B4 := hide ((unhide B3).trans (hb.mono (unhide B3).size))
          have S4 := hide ((unhide S3).below hb)
          have R4 := hide ((unhide R3).below hb)
          clear hb B3 S3 R3 N3 M3 L3
          go_simp
          refine hK.out _ _ ?_ (fun hHeld12 => ?_)
          · exact (unhide S4).S
          clear hK K
          try simp only [Act.put, List.setIfInBounds_toArray, List.set_cons_zero, List.set_cons_succ]
          rw [← hgV]
          clear hgV
          generalize v3.alloc (.cells #[] 3) = v4 at B4 S4 R4 V4 N4 M4 L4 hHeld12 ⊢
          refine wpAnyH_take (i := 15) (oi := { dst := some 24, op := .build 38 #[(0, .tmp 9), (1, .tmp 10), (2, .tmp 12), (3, .tmp 14), (5, .const (.bool true)), (6, .tmp 18), (9, .tmp 20), (10, .tmp 21), (12, .tmp 23)], type := 38, pos := "l08_raft.go:6", after := #[{ on := 0, ground := .data }, { on := 1, ground := .data }, { on := 3, ground := .data }, { on := 5, ground := .data }, { on := 9, ground := .data }, { on := 11, ground := .data }, { on := 12, ground := .data }, { on := 14, ground := .data }], guard := none }) (v := ?_) rfl (by kernel_rfl) (by kernel_rfl) (by kernel_rfl) (fun _ _ _ h => h) (Or.inl ⟨by rfl, ?_⟩) (by assumption) ?_
          rotate_left 1
          · (intro w' hSw; (try dsimp only at hSw); go_simp; try with_reducible rfl)
          try simp only [Act.put, List.setIfInBounds_toArray, List.set_cons_zero, List.set_cons_succ]
          refine wpAnyH_ready (rs := [17]) (by kernel_rfl) (by simp) ?_
          refine AllReadyH.cons (o := { dst := none, op := .store 38 (.tmp 7) (.tmp 24), type := 0, pos := "l08_raft.go:6", after := #[{ on := 16, ground := .data }, { on := 15, ground := .data }, { on := 9, ground := .chain }, { on := 0, ground := .phase }, { on := 1, ground := .phase }, { on := 2, ground := .phase }, { on := 3, ground := .phase }, { on := 4, ground := .phase }, { on := 5, ground := .phase }, { on := 6, ground := .phase }, { on := 7, ground := .phase }, { on := 8, ground := .phase }, { on := 9, ground := .phase }, { on := 10, ground := .phase }, { on := 11, ground := .phase }, { on := 12, ground := .phase }, { on := 13, ground := .phase }, { on := 14, ground := .phase }, { on := 15, ground := .phase }, { on := 16, ground := .phase }], guard := none }) rfl (fun K hK => ?_) (AllReadyH.nil)
          have cp := (unhide N4).S
          have cf := (unhide N4).F
          have DI : gL ≠ gV ∧ gL ≠ gM ∧ gL ≠ gN ∧ gV ≠ gM ∧ gV ≠ gN ∧ gM ≠ gN ∧ w.heap.size + 1 < gL ∧ w.heap.size + 1 < gV ∧ w.heap.size + 1 < gM ∧ w.heap.size + 1 < gN := by have := unhide BSL; have := unhide BSV; have := unhide BSM; have := unhide BSN; have := unhide NENM; have := unhide NENL; have := unhide NENV; have := unhide NEML; have := unhide NEMV; have := unhide NELV; omega
          obtain ⟨vz, hvz, hFN⟩ := put13 v4 (unhide N4) (.int .i64 id) (.int .i64 (m : Int)) (.int .i64 0) (.int .i64 (-1)) (.int .i64 0) (.bool true) (.slice (some ⟨gL, 0, none⟩) 0 0) (.int .i64 0) (.int .i64 0) (.int .i64 (5 + id)) (.slice (some ⟨gV, 0, none⟩) 0 0) (.slice none 0 0) (.slice (some ⟨gM, 0, none⟩) m m)
          obtain ⟨hFN, hO⟩ := hFN
          go_simp
          rw [← hvz]
          refine hK.out _ _ ?_ (fun hHeld17 => ?_)
          · exact ((unhide S4).outs hO (by omega)).S
          clear hK K
          try simp only [Act.put, List.setIfInBounds_toArray, List.set_cons_zero, List.set_cons_succ]
          refine wpAnyH_done (by kernel_rfl) ?_ _
          exact ⟨gL, gV, gM, gN, rfl, hFN, (unhide L4).outs hO (by omega), (unhide V4).outs hO (by omega), (unhide M4).outs hO (by omega), (unhide R4).outs hO (by omega), Below.outs (unhide B4) (unhide B4).size hO (by omega), DI⟩
        · skip
          obtain ⟨gV, hgV⟩ : ∃ g, g = v2.heap.size := ⟨_, rfl⟩
          have NENV : Hid (gN < gV) := by show _ < _; rw [hgV]; exact (unhide N2).lt
          have NEMV : Hid (gM < gV) := by show _ < _; rw [hgV]; exact (unhide M2).le
          have BSV : Hid (w.heap.size + 1 < gV) := by show _ < _; rw [hgV]; exact (unhide R2).lt
          have hb : Below v2.heap.size v2 (v2.alloc (.cells #[] 3)) := Go.Joins.below_alloc1 v2 (.cells #[] 3)
          have V3 : Hid (Held (v2.alloc (.cells #[] 3)) gV (gV + 1) 3 (.slice (some ⟨gV, 0, none⟩) 0 0) 0 []) := by rw [hgV]; exact ⟨World.ownsRow_lit (e := 3) (base := v2.heap.size) (size := 1) v2 #[] 0 (Nat.le_refl _) (by unfold maxLen; omega) rfl, (fun k hk => by have e : v2.heap.size = k := Option.some.inj hk; omega), by simp⟩
          have N3 := hide ((unhide N2).below hb)
          have M3 := hide ((unhide M2).below hb (unhide M2).le)
          have B3 := hide ((unhide B2).trans (hb.mono (unhide B2).size))
          have S3 := hide ((unhide S2).below hb)
          have R3 := hide ((unhide R2).below hb)
          clear hb B2 S2 R2 N2 M2
          go_simp
          refine hK.out _ _ ?_ (fun hHeld12 => ?_)
          · exact (unhide S3).S
          clear hK K
          try simp only [Act.put, List.setIfInBounds_toArray, List.set_cons_zero, List.set_cons_succ]
          rw [← hgV]
          clear hgV
          generalize v2.alloc (.cells #[] 3) = v3 at B3 S3 R3 V3 N3 M3 hHeld12 ⊢
          refine wpAnyH_ready (rs := [6]) (by kernel_rfl) (by simp) ?_
          refine AllReadyH.cons (o := { dst := some 15, op := .buildSlice 35 0 #[], type := 35, pos := "l08_raft.go:6", after := #[], guard := none }) rfl (fun K hK => ?_) (AllReadyH.nil)
          obtain ⟨gL, hgL⟩ : ∃ g, g = v3.heap.size := ⟨_, rfl⟩
          have NENL : Hid (gN < gL) := by show _ < _; rw [hgL]; exact (unhide N3).lt
          have NEML : Hid (gM < gL) := by show _ < _; rw [hgL]; exact (unhide M3).le
          have NEVL : Hid (gV < gL) := by show _ < _; rw [hgL]; exact (unhide V3).le
          have BSL : Hid (w.heap.size + 1 < gL) := by show _ < _; rw [hgL]; exact (unhide R3).lt
          have hb : Below v3.heap.size v3 (v3.alloc (.cells #[] 67)) := Go.Joins.below_alloc1 v3 (.cells #[] 67)
          have L4 : Hid (HeldZ 2 (v3.alloc (.cells #[] 67)) gL (gL + 1) 67 (.slice (some ⟨gL, 0, none⟩) 0 0) 0 []) := by rw [hgL]; exact ⟨World.ownsRow_lit (e := 67) (base := v3.heap.size) (size := 2) v3 #[] 0 (Nat.le_refl _) (by unfold maxLen; omega) rfl, (fun k hk => by have e : v3.heap.size = k := Option.some.inj hk; omega), by simp⟩
          have N4 := hide ((unhide N3).below hb)
          have M4 := hide ((unhide M3).below hb (unhide M3).le)
          have V4 := hide ((unhide V3).below hb (unhide V3).le)
          have B4 := hide ((unhide B3).trans (hb.mono (unhide B3).size))
          have S4 := hide ((unhide S3).below hb)
          have R4 := hide ((unhide R3).below hb)
          clear hb B3 S3 R3 N3 M3 V3
          go_simp
          refine hK.out _ _ ?_ (fun hHeld6 => ?_)
          · exact (unhide S4).S
          clear hK K
          try simp only [Act.put, List.setIfInBounds_toArray, List.set_cons_zero, List.set_cons_succ]
          rw [← hgL]
          clear hgL
          generalize v3.alloc (.cells #[] 67) = v4 at B4 S4 R4 L4 N4 M4 V4 hHeld6 ⊢
          refine wpAnyH_take (i := 9) (oi := { dst := some 18, op := .call { callee := .builtin Go.Builtin.append, args := #[.tmp 15, .tmp 17], argTypes := #[35, 35] }, type := 35, pos := "l08_raft.go:6", after := #[{ on := 6, ground := .data }, { on := 8, ground := .data }], guard := none }) (v := ?_) rfl (by kernel_rfl) (by kernel_rfl) (by kernel_rfl) (fun _ _ _ h => h) (Or.inl ⟨by rfl, ?_⟩) (by assumption) ?_
          rotate_left 1
          · (intro w' hSw; (try dsimp only at hSw); go_simp; try with_reducible rfl)
          try simp only [Act.put, List.setIfInBounds_toArray, List.set_cons_zero, List.set_cons_succ]
          refine wpAnyH_take (i := 15) (oi := { dst := some 24, op := .build 38 #[(0, .tmp 9), (1, .tmp 10), (2, .tmp 12), (3, .tmp 14), (5, .const (.bool true)), (6, .tmp 18), (9, .tmp 20), (10, .tmp 21), (12, .tmp 23)], type := 38, pos := "l08_raft.go:6", after := #[{ on := 0, ground := .data }, { on := 1, ground := .data }, { on := 3, ground := .data }, { on := 5, ground := .data }, { on := 9, ground := .data }, { on := 11, ground := .data }, { on := 12, ground := .data }, { on := 14, ground := .data }], guard := none }) (v := ?_) rfl (by kernel_rfl) (by kernel_rfl) (by kernel_rfl) (fun _ _ _ h => h) (Or.inl ⟨by rfl, ?_⟩) (by assumption) ?_
          rotate_left 1
          · (intro w' hSw; (try dsimp only at hSw); go_simp; try with_reducible rfl)
          try simp only [Act.put, List.setIfInBounds_toArray, List.set_cons_zero, List.set_cons_succ]
          refine wpAnyH_ready (rs := [17]) (by kernel_rfl) (by simp) ?_
          refine AllReadyH.cons (o := { dst := none, op := .store 38 (.tmp 7) (.tmp 24), type := 0, pos := "l08_raft.go:6", after := #[{ on := 16, ground := .data }, { on := 15, ground := .data }, { on := 9, ground := .chain }, { on := 0, ground := .phase }, { on := 1, ground := .phase }, { on := 2, ground := .phase }, { on := 3, ground := .phase }, { on := 4, ground := .phase }, { on := 5, ground := .phase }, { on := 6, ground := .phase }, { on := 7, ground := .phase }, { on := 8, ground := .phase }, { on := 9, ground := .phase }, { on := 10, ground := .phase }, { on := 11, ground := .phase }, { on := 12, ground := .phase }, { on := 13, ground := .phase }, { on := 14, ground := .phase }, { on := 15, ground := .phase }, { on := 16, ground := .phase }], guard := none }) rfl (fun K hK => ?_) (AllReadyH.nil)
          have cp := (unhide N4).S
          have cf := (unhide N4).F
          have DI : gL ≠ gV ∧ gL ≠ gM ∧ gL ≠ gN ∧ gV ≠ gM ∧ gV ≠ gN ∧ gM ≠ gN ∧ w.heap.size + 1 < gL ∧ w.heap.size + 1 < gV ∧ w.heap.size + 1 < gM ∧ w.heap.size + 1 < gN := by have := unhide BSL; have := unhide BSV; have := unhide BSM; have := unhide BSN; have := unhide NENM; have := unhide NENV; have := unhide NENL; have := unhide NEMV; have := unhide NEML; have := unhide NEVL; omega
          obtain ⟨vz, hvz, hFN⟩ := put13 v4 (unhide N4) (.int .i64 id) (.int .i64 (m : Int)) (.int .i64 0) (.int .i64 (-1)) (.int .i64 0) (.bool true) (.slice (some ⟨gL, 0, none⟩) 0 0) (.int .i64 0) (.int .i64 0) (.int .i64 (5 + id)) (.slice (some ⟨gV, 0, none⟩) 0 0) (.slice none 0 0) (.slice (some ⟨gM, 0, none⟩) m m)
          obtain ⟨hFN, hO⟩ := hFN
          go_simp
          rw [← hvz]
          refine hK.out _ _ ?_ (fun hHeld17 => ?_)
          · exact ((unhide S4).outs hO (by omega)).S
          clear hK K
          try simp only [Act.put, List.setIfInBounds_toArray, List.set_cons_zero, List.set_cons_succ]
          refine wpAnyH_done (by kernel_rfl) ?_ _
          exact ⟨gL, gV, gM, gN, rfl, hFN, (unhide L4).outs hO (by omega), (unhide V4).outs hO (by omega), (unhide M4).outs hO (by omega), (unhide R4).outs hO (by omega), Below.outs (unhide B4) (unhide B4).size hO (by omega), DI⟩
  · clear B0 S0 R0 k0
    intro x a' v5 hq
    cases x
    all_goals try exact False.elim hq
    obtain ⟨gL, gV, gM, gN, rfl, hN, hL, hV, hM, hR, hB, hD⟩ := hq
    obtain ⟨bN, hbN⟩ : ∃ b, b = v5.heap.size := ⟨_, rfl⟩
    have hD2 : gL < bN ∧ gV < bN ∧ gM < bN ∧ gN < bN ∧ w.heap.size + 1 < bN := by have := hL.le; have := hV.le; have := hM.le; have := hN.lt; have := hR.lt; omega
    have HSZ5 : Hid (bN ≤ v5.heap.size) := by show _ ≤ _; omega
    have HN := hide hN
    have HL := hide hL
    have HV := hide hV
    have HM := hide hM
    have HR := hide hR
    have HB := hide hB
    have HD := hide hD
    have HD2 := hide hD2
    clear hN hL hV hM hR hB hD hD2 hbN
    go_wp2_with fail
    go_loopw [8] (fun i wr => ∃ (k : Nat) (v : Value), k ≤ m ∧ i = .int .i64 k ∧ Hid (wr.ownsRow bN 3 1 v k (cI (List.replicate k 1))) ∧ Hid (BF gN #[.int .i64 id, .int .i64 (m : Int), .int .i64 0, .int .i64 (-1), .int .i64 0, .bool true, .slice (some ⟨gL, 0, none⟩) 0 0, .int .i64 0, .int .i64 0, .int .i64 (5 + id), .slice (some ⟨gV, 0, none⟩) 0 0, v, .slice (some ⟨gM, 0, none⟩) m m] wr) ∧ Hid (HeldZ 2 wr gL (gL + 1) 67 (.slice (some ⟨gL, 0, none⟩) 0 0) 0 []) ∧ Hid (Held wr gV (gV + 1) 3 (.slice (some ⟨gV, 0, none⟩) 0 0) 0 []) ∧ Hid (Held wr gM (gM + 1) 3 (.slice (some ⟨gM, 0, none⟩) m m) m (cI (List.replicate m 0))) ∧ Hid (BF (w.heap.size + 1) #[.int .i64 0, .int .i64 0, .int .i64 0, .int .i64 0, .int .i64 0, .bool false, .slice none 0 0, .int .i64 0, .int .i64 0, .int .i64 0, .slice none 0 0, .slice none 0 0, .slice none 0 0] wr) ∧ Hid (Below w.heap.size w wr) ∧ Hid (bN ≤ wr.heap.size)) (fun i _ => m - (intOf i).toNat)
    case atStart => exact ⟨0, _, by omega, rfl, World.ownsRow_nil _ _ _ _, HN, HL, HV, HM, HR, HB, HSZ5⟩
    case round =>
      clear HN HL HV HM HR HB HSZ5
      obtain ⟨k, v, hk, rfl, HO, HN, HL, HV, HM, HR, HB, HS⟩ := hrel
      have hown := unhide HO
      obtain ⟨aN, cN, rfl, -⟩ := own_rowV hown
      have n1 := (unhide HN).S
      by_cases hlt : k < m
      · have hlt' : (k : Int) < (m : Int) := by omega
        have hd := unhide HD
        have hd2 := unhide HD2
        go_wp2_with (at_builtin; refine wpList_append_lies _ rfl (.tmp 31) (.tmp 32) 36 rfl bN 3 i0 (.int .i64 0) 1 8 Try.underlying36 hi hz0 hz1 hz2 rfl (by decide) _ _ _ rfl (hown.alloc (.cells #[.int .i64 1] 3)) ⟨wr.heap.size, 0, none⟩ 1 1 [.int .i64 1] rfl rfl (by exact news_new wr [.int .i64 1] 3) (by intro u hu; simp at hu; subst hu; rfl) (by decide) (by unfold maxLen; omega) (by omega) (by have := unhide HS; simp; omega) _ rfl ?_; intro g7 c7 w7 hown7 hgrow7 hat7 hlt7; have hz7 := hgrow7.size; simp only [World.size_alloc] at hz7; have HO7 := hide hown7; have hne := (fun j (hj : (Value.slice aN k cN).ownBlock = some j) => (hown.lt j hj).1); have N7 := hide (((unhide HN).alloc (.cells #[.int .i64 1] 3)).grown hgrow7 (fun hj => by have := hne _ hj; omega)); have L7 := hide (((unhide HL).below (Go.Joins.below_alloc1 wr (.cells #[.int .i64 1] 3)) (unhide HL).le).grown hgrow7 (fun j hj => by have := hne j hj; omega)); have V7 := hide (((unhide HV).below (Go.Joins.below_alloc1 wr (.cells #[.int .i64 1] 3)) (unhide HV).le).grown hgrow7 (fun j hj => by have := hne j hj; omega)); have M7 := hide (((unhide HM).below (Go.Joins.below_alloc1 wr (.cells #[.int .i64 1] 3)) (unhide HM).le).grown hgrow7 (fun j hj => by have := hne j hj; omega)); have R7 := hide (((unhide HR).alloc (.cells #[.int .i64 1] 3)).grown hgrow7 (fun hj => by have := hne _ hj; omega)); have B7 := hide (((unhide HB).alloc (unhide HB).size (.cells #[.int .i64 1] 3)).grown hgrow7 (by have := (unhide HB).size; simp; omega) (fun j hj => by have := hne j hj; omega)); have S7 : Hid (bN ≤ w7.heap.size) := (by show _ ≤ _; have := unhide HS; omega); have n7 := (unhide N7).S; have nf7 := (unhide N7).F; have O7 := hide (outs_set (o := 11) (v := .slice (some ⟨g7, 0, none⟩) (k + 1) c7) (show Outs gN (gN + 1) w7 w7 from Outs.of_below (Below.refl _ _))); clear hown7 hgrow7 hat7 hlt7 hz7 n1 hne)
        go_roundw
        case rel =>
          refine ⟨k + 1, .slice (some ⟨g7, 0, none⟩) (k + 1) c7, by omega, by go_num, ?_, (unhide N7).set 11 (by simp) _, (unhide L7).outs (unhide O7) (by omega), (unhide V7).outs (unhide O7) (by omega), (unhide M7).outs (unhide O7) (by omega), (unhide R7).outs (unhide O7) (by omega), Below.outs (unhide B7) (unhide B7).size (unhide O7) (by omega), by show _ ≤ _; rw [World.size_setCell]; exact unhide S7⟩
          show World.ownsRow _ _ _ _ _ _ _
          refine ownsRow_setCell_below ?_ (by show gN < bN; omega) _
          have := unhide HO7
          simpa [cI, List.replicate_succ'] using this
        case measure => simp [intOf]; omega
      · obtain rfl : k = m := by omega
        have hd := unhide HD
        have hd2 := unhide HD2
        have r1 := (unhide HR).S
        have r2 := (unhide HR).F
        have HH := hide (held_of hown)
        clear hown
        go_wp2_with fail
        refine bodyPost_ret (v := .agg #[.int .i64 id, .int .i64 (k : Int), .int .i64 0, .int .i64 (-1), .int .i64 0, .bool true, .slice (some ⟨gL, 0, none⟩) 0 0, .int .i64 0, .int .i64 0, .int .i64 (5 + id), .slice (some ⟨gV, 0, none⟩) 0 0, .slice aN k cN, .slice (some ⟨gM, 0, none⟩) k k]) (by simp [results, Try.results26, go_sem, r1]) rfl ⟨gL, gV, gM, aN, cN, bN, rfl, ?_, ?_, ?_, ?_, ?_, ?_⟩
        · iterate 13 refine HeldZ.setC ?_ (by show w.heap.size + 1 < gL; omega) _
          exact unhide HL
        · iterate 13 refine Held.setC ?_ (by show w.heap.size + 1 < gV; omega) _
          exact unhide HV
        · iterate 13 refine Held.setC ?_ (by show w.heap.size + 1 < gM; omega) _
          exact unhide HM
        · simp only [World.size_setCell]
          iterate 13 refine Held.setC ?_ (by show w.heap.size + 1 < bN; omega) _
          exact unhide HH
        · omega
        · iterate 13 refine Below.setCell ?_ (by show w.heap.size ≤ w.heap.size + 1; omega) _
          exact unhide HB
end Go.Proofs.Ythbkcijkokaoeaa
