/- The places of a node set anew, and a new node: what the program answers. -/
import Derived.Test.YthbkcijkokaoeaaRepI
import Derived.Test.YthbkcijkokaoeaaNdR
import Derived.Test.YthbkcijkokaoeaaNdM
import Derived.Test.YthbkcijkokaoeaaWinI
import Derived.Laws.OwnMore
namespace Go.Proofs.Ythbkcijkokaoeaa
open Go.ChangeShapes Go.WideShapes Go.ChangeAt Go.RowKit
set_option linter.unusedVariables false
theorem outs_set {p o : Nat} {w w' : World} {v : Value} (h : Outs p (p + 1) w w') : Outs p (p + 1) w (w'.setCell ⟨p, o, none⟩ v) :=
  h.trans (by
    have hb : Below p w' (w'.setCell ⟨p, o, none⟩ v) := (Below.refl p w').setCell (p := ⟨p, o, none⟩) (Nat.le_refl _) v
    exact ⟨hb.os, hb.tape, hb.output, hb.size, fun k hk ho => by
      by_cases h : k < p
      · exact hb.block k h
      · exact Below.heap_setCell _ _ _ _ (by show k ≠ p; omega)⟩)
set_option maxHeartbeats 4000000 in
set_option maxRecDepth 100000 in
theorem istart (p m : Nat) (x : Int) (h1 : 1 ≤ m) (h5 : m ≤ 5) (id tm vt ro cm el wt : Int) (up : Bool) (E V X G : Value) (w : World) (hp : BF p #[.int .i64 id, .int .i64 (m : Int), .int .i64 tm, .int .i64 vt, .int .i64 ro, .bool up, E, .int .i64 cm, .int .i64 el, .int .i64 wt, V, X, G] w) :
    Calls Try.prog 36 #[.pointer (some ⟨p, 0, none⟩), .int .i64 x] w fun e w' => e = .returned (.tuple #[]) ∧ ∃ gN gM lN hN lM hM, BF p #[.int .i64 id, .int .i64 (m : Int), .int .i64 tm, .int .i64 vt, .int .i64 ro, .bool up, E, .int .i64 cm, .int .i64 el, .int .i64 wt, V, .slice (some ⟨gN, 0, none⟩) m m, .slice (some ⟨gM, 0, none⟩) m m] w' ∧ Held w' lN hN 3 (.slice (some ⟨gN, 0, none⟩) m m) m (cI (List.replicate m x)) ∧ Held w' lM hM 3 (.slice (some ⟨gM, 0, none⟩) m m) m (cI (List.replicate m 0)) ∧ w.heap.size ≤ lN ∧ w.heap.size ≤ lM ∧ (hN ≤ lM ∨ hM ≤ lN) ∧ (hN ≤ w'.heap.size ∧ hM ≤ w'.heap.size) ∧ Outs p (p + 1) w w' := by
  obtain ⟨i0, hi, hz0, hz1, hz2⟩ := info_parts Try.infL3
  have HPL := hide hp.lt
  have P0 := hide hp.drew
  have O0 : Hid (Outs p (p + 1) w w.drew) := Outs.of_below (Below.refl _ _).drew
  have k0 := hp.S 1
  clear hp
  go_enter Try.func36, Try.ntmps36
  go_wp2_with fail
  refine wp_region_held_drew (S := fun w' => w'.cell? ⟨p, 1, none⟩ = some (.int .i64 (m : Int))) (by kernel_rfl) k0 (fun hHeld => ?_)
  clear k0
  generalize w.drew = v0 at P0 O0 hHeld ⊢
  refine wpAnyH_take (i := 0) (oi := { dst := some 4, op := .move (.tmp 0), type := 62, pos := "l08_raft.go:190", after := #[], guard := none }) (v := ?_) rfl (by kernel_rfl) (by kernel_rfl) (by kernel_rfl) (fun _ _ _ h => h) (Or.inl ⟨by rfl, ?_⟩) (by assumption) ?_
  rotate_left 1
  · (intro w' hSw; (try dsimp only at hSw); go_simp; try with_reducible rfl)
  try simp only [Act.put, List.setIfInBounds_toArray, List.set_cons_zero, List.set_cons_succ]
  refine wpAnyH_take (i := 1) (oi := { dst := some 5, op := .move (.tmp 0), type := 62, pos := "l08_raft.go:190", after := #[{ on := 16, ground := .gcOnly Go.Departure.lateStores }], guard := none }) (v := ?_) rfl (by kernel_rfl) (by kernel_rfl) (by kernel_rfl) (fun _ _ _ h => h) (Or.inl ⟨by rfl, ?_⟩) (by assumption) ?_
  rotate_left 1
  · (intro w' hSw; (try dsimp only at hSw); go_simp; try with_reducible rfl)
  try simp only [Act.put, List.setIfInBounds_toArray, List.set_cons_zero, List.set_cons_succ]
  refine wpAnyH_take (i := 2) (oi := { dst := some 6, op := .move (.tmp 1), type := 3, pos := "l08_raft.go:190", after := #[], guard := none }) (v := ?_) rfl (by kernel_rfl) (by kernel_rfl) (by kernel_rfl) (fun _ _ _ h => h) (Or.inl ⟨by rfl, ?_⟩) (by assumption) ?_
  rotate_left 1
  · (intro w' hSw; (try dsimp only at hSw); go_simp; try with_reducible rfl)
  try simp only [Act.put, List.setIfInBounds_toArray, List.set_cons_zero, List.set_cons_succ]
  refine wpAnyH_take (i := 4) (oi := { dst := some 8, op := .move (.tmp 0), type := 62, pos := "l08_raft.go:190", after := #[], guard := none }) (v := ?_) rfl (by kernel_rfl) (by kernel_rfl) (by kernel_rfl) (fun _ _ _ h => h) (Or.inl ⟨by rfl, ?_⟩) (by assumption) ?_
  rotate_left 1
  · (intro w' hSw; (try dsimp only at hSw); go_simp; try with_reducible rfl)
  try simp only [Act.put, List.setIfInBounds_toArray, List.set_cons_zero, List.set_cons_succ]
  refine wpAnyH_take (i := 5) (oi := { dst := some 9, op := .nilCheck (.tmp 8), type := 0, pos := "l08_raft.go:190", after := #[{ on := 4, ground := .data }], guard := none }) (v := ?_) rfl (by kernel_rfl) (by kernel_rfl) (by kernel_rfl) (fun _ _ _ h => h) (Or.inl ⟨by rfl, ?_⟩) (by assumption) ?_
  rotate_left 1
  · (intro w' hSw; (try dsimp only at hSw); go_simp; try with_reducible rfl)
  try simp only [Act.put, List.setIfInBounds_toArray, List.set_cons_zero, List.set_cons_succ]
  refine wpAnyH_take (i := 6) (oi := { dst := some 10, op := .fieldAddr 38 (.tmp 9) 1, type := 0, pos := "l08_raft.go:190", after := #[{ on := 5, ground := .data }], guard := none }) (v := ?_) rfl (by kernel_rfl) (by kernel_rfl) (by kernel_rfl) (fun _ _ _ h => h) (Or.inl ⟨by rfl, ?_⟩) (by assumption) ?_
  rotate_left 1
  · (intro w' hSw; (try dsimp only at hSw); go_simp; try with_reducible rfl)
  try simp only [Act.put, List.setIfInBounds_toArray, List.set_cons_zero, List.set_cons_succ]
  refine wpAnyH_take (i := 7) (oi := { dst := some 11, op := .load 3 (.tmp 10), type := 3, pos := "l08_raft.go:190", after := #[{ on := 6, ground := .data }], guard := none }) (v := ?_) rfl (by kernel_rfl) (by kernel_rfl) (by kernel_rfl) (fun _ _ _ h => h) (Or.inl ⟨by rfl, ?_⟩) (by assumption) ?_
  rotate_left 1
  · (intro w' hSw; (try dsimp only at hSw); go_simp; try with_reducible rfl)
  try simp only [Act.put, List.setIfInBounds_toArray, List.set_cons_zero, List.set_cons_succ]
  refine wpAnyH_take (i := 9) (oi := { dst := some 13, op := .move (.tmp 0), type := 62, pos := "l08_raft.go:190", after := #[], guard := none }) (v := ?_) rfl (by kernel_rfl) (by kernel_rfl) (by kernel_rfl) (fun _ _ _ h => h) (Or.inl ⟨by rfl, ?_⟩) (by assumption) ?_
  rotate_left 1
  · (intro w' hSw; (try dsimp only at hSw); go_simp; try with_reducible rfl)
  try simp only [Act.put, List.setIfInBounds_toArray, List.set_cons_zero, List.set_cons_succ]
  refine wpAnyH_take (i := 10) (oi := { dst := some 14, op := .nilCheck (.tmp 13), type := 0, pos := "l08_raft.go:190", after := #[{ on := 9, ground := .data }], guard := none }) (v := ?_) rfl (by kernel_rfl) (by kernel_rfl) (by kernel_rfl) (fun _ _ _ h => h) (Or.inl ⟨by rfl, ?_⟩) (by assumption) ?_
  rotate_left 1
  · (intro w' hSw; (try dsimp only at hSw); go_simp; try with_reducible rfl)
  try simp only [Act.put, List.setIfInBounds_toArray, List.set_cons_zero, List.set_cons_succ]
  refine wpAnyH_take (i := 11) (oi := { dst := some 15, op := .fieldAddr 38 (.tmp 14) 1, type := 0, pos := "l08_raft.go:190", after := #[{ on := 10, ground := .data }], guard := none }) (v := ?_) rfl (by kernel_rfl) (by kernel_rfl) (by kernel_rfl) (fun _ _ _ h => h) (Or.inl ⟨by rfl, ?_⟩) (by assumption) ?_
  rotate_left 1
  · (intro w' hSw; (try dsimp only at hSw); go_simp; try with_reducible rfl)
  try simp only [Act.put, List.setIfInBounds_toArray, List.set_cons_zero, List.set_cons_succ]
  refine wpAnyH_take (i := 12) (oi := { dst := some 16, op := .load 3 (.tmp 15), type := 3, pos := "l08_raft.go:190", after := #[{ on := 11, ground := .data }], guard := none }) (v := ?_) rfl (by kernel_rfl) (by kernel_rfl) (by kernel_rfl) (fun _ _ _ h => h) (Or.inl ⟨by rfl, ?_⟩) (by assumption) ?_
  rotate_left 1
  · (intro w' hSw; (try dsimp only at hSw); go_simp; try with_reducible rfl)
  try simp only [Act.put, List.setIfInBounds_toArray, List.set_cons_zero, List.set_cons_succ]
  refine wpAnyH_ready (rs := [3, 13]) (by kernel_rfl) (by simp) ?_
  refine AllReadyH.cons (o := { dst := some 7, op := .buildSlice 36 1 #[(0, .tmp 6)], type := 36, pos := "l08_raft.go:190", after := #[{ on := 2, ground := .data }], guard := none }) rfl (fun K hK => ?_) (AllReadyH.cons (o := { dst := some 17, op := .makeSlice 36 (.tmp 16) (.tmp 16), type := 36, pos := "l08_raft.go:190", after := #[{ on := 12, ground := .data }, { on := 12, ground := .data }], guard := none }) rfl (fun K hK => ?_) (AllReadyH.nil))
  · skip
    obtain ⟨bx, hbx⟩ : ∃ bx, bx = v0.heap.size := ⟨_, rfl⟩
    have P1 := hide ((unhide P0).alloc (.cells #[.int .i64 x] 3))
    have O1 := hide ((unhide O0).trans (Outs.of_below (Go.Joins.below_alloc1 v0 (.cells #[.int .i64 x] 3))))
    have D1 := hide (BF.new v0 #[.int .i64 x] 3)
    rw [← hbx] at D1
    go_simp
    refine hK.out _ _ ?_ (fun hHeld3 => ?_)
    · exact (unhide P1).S 1
    clear hK K
    try simp only [Act.put, List.setIfInBounds_toArray, List.set_cons_zero, List.set_cons_succ]
    rw [← hbx]
    clear hbx
    generalize v0.alloc (.cells #[.int .i64 x] 3) = v1 at P1 O1 D1  hHeld3 ⊢
    clear P0 O0 
    refine wpAnyH_ready (rs := [8, 13]) (by kernel_rfl) (by simp) ?_
    refine AllReadyH.cons (o := { dst := some 12, op := .call { callee := .value (.func 39), args := #[.tmp 7, .tmp 11], argTypes := #[36, 3] }, type := 36, pos := "l08_raft.go:190", after := #[{ on := 3, ground := .data }, { on := 7, ground := .data }], guard := none }) rfl (fun K hK => ?_) (AllReadyH.cons (o := { dst := some 17, op := .makeSlice 36 (.tmp 16) (.tmp 16), type := 36, pos := "l08_raft.go:190", after := #[{ on := 12, ground := .data }, { on := 12, ground := .data }], guard := none }) rfl (fun K hK => ?_) (AllReadyH.nil))
    · skip
      go_simp
      refine (irep bx x m h1 h5 v1 ((unhide D1).S 0) (unhide D1).lt).mono ?_
      rintro e v2 ⟨rfl, ho2, hb2⟩
      have P2 := hide ((unhide P1).below hb2)
      have O2 := hide ((unhide O1).trans (Outs.of_below hb2))
      have NN := held_of ho2
      obtain ⟨gN, lN, hN, hgN, hlN, hhN⟩ : ∃ gN lN hN, gN = v1.heap.size ∧ lN = v1.heap.size ∧ hN = v2.heap.size := ⟨_, _, _, rfl, rfl, rfl⟩
      have N2 : Hid (Held v2 lN hN 3 (.slice (some ⟨gN, 0, none⟩) m m) m (cI (List.replicate m x))) := by show Held _ _ _ _ _ _ _; rw [hgN, hlN, hhN]; exact NN
      have HNL : Hid (w.heap.size ≤ lN) := by show _ ≤ _; have := (unhide O1).size; omega
      rw [← hgN]
      clear NN ho2 hb2 hgN hlN hhN P1 O1 D1
      go_wp2_with fail
      refine hK.out _ _ ?_ (fun hHeld8 => ?_)
      · exact (unhide P2).S 1
      clear hK K
      try simp only [Act.put, List.setIfInBounds_toArray, List.set_cons_zero, List.set_cons_succ]
      refine wpAnyH_take (i := 14) (oi := { dst := some 18, op := .nilCheck (.tmp 4), type := 0, pos := "l08_raft.go:190", after := #[{ on := 0, ground := .data }, { on := 0, ground := .phase }, { on := 1, ground := .textOnly Go.Departure.lateStores }, { on := 2, ground := .phase }, { on := 3, ground := .phase }, { on := 4, ground := .phase }, { on := 5, ground := .phase }, { on := 6, ground := .phase }, { on := 7, ground := .phase }, { on := 8, ground := .phase }, { on := 9, ground := .textOnly Go.Departure.lateStores }, { on := 10, ground := .textOnly Go.Departure.lateStoresUnsure }, { on := 11, ground := .textOnly Go.Departure.lateStoresUnsure }, { on := 12, ground := .phase }, { on := 13, ground := .textOnly Go.Departure.lateStoresUnsure }], guard := none }) (v := ?_) rfl (by kernel_rfl) (by kernel_rfl) (by kernel_rfl) (fun _ _ _ h => h) (Or.inl ⟨by rfl, ?_⟩) (by assumption) ?_
      rotate_left 1
      · (intro w' hSw; (try dsimp only at hSw); go_simp; try with_reducible rfl)
      try simp only [Act.put, List.setIfInBounds_toArray, List.set_cons_zero, List.set_cons_succ]
      refine wpAnyH_take (i := 15) (oi := { dst := some 19, op := .fieldAddr 38 (.tmp 18) 11, type := 0, pos := "l08_raft.go:190", after := #[{ on := 14, ground := .data }, { on := 0, ground := .phase }, { on := 1, ground := .textOnly Go.Departure.lateStores }, { on := 2, ground := .phase }, { on := 3, ground := .phase }, { on := 4, ground := .phase }, { on := 5, ground := .phase }, { on := 6, ground := .phase }, { on := 7, ground := .phase }, { on := 8, ground := .phase }, { on := 9, ground := .textOnly Go.Departure.lateStores }, { on := 10, ground := .textOnly Go.Departure.lateStoresUnsure }, { on := 11, ground := .textOnly Go.Departure.lateStoresUnsure }, { on := 12, ground := .phase }, { on := 13, ground := .textOnly Go.Departure.lateStoresUnsure }], guard := none }) (v := ?_) rfl (by kernel_rfl) (by kernel_rfl) (by kernel_rfl) (fun _ _ _ h => h) (Or.inl ⟨by rfl, ?_⟩) (by assumption) ?_
      rotate_left 1
      · (intro w' hSw; (try dsimp only at hSw); go_simp; try with_reducible rfl)
      try simp only [Act.put, List.setIfInBounds_toArray, List.set_cons_zero, List.set_cons_succ]
      refine wpAnyH_ready (rs := [13, 16]) (by kernel_rfl) (by simp) ?_
      refine AllReadyH.cons (o := { dst := some 17, op := .makeSlice 36 (.tmp 16) (.tmp 16), type := 36, pos := "l08_raft.go:190", after := #[{ on := 12, ground := .data }, { on := 12, ground := .data }], guard := none }) rfl (fun K hK => ?_) (AllReadyH.cons (o := { dst := none, op := .store 36 (.tmp 19) (.tmp 12), type := 0, pos := "l08_raft.go:190", after := #[{ on := 15, ground := .data }, { on := 8, ground := .data }, { on := 8, ground := .chain }, { on := 0, ground := .phase }, { on := 1, ground := .textOnly Go.Departure.lateStores }, { on := 2, ground := .phase }, { on := 3, ground := .phase }, { on := 4, ground := .phase }, { on := 5, ground := .phase }, { on := 6, ground := .phase }, { on := 7, ground := .phase }, { on := 8, ground := .phase }, { on := 9, ground := .textOnly Go.Departure.lateStores }, { on := 10, ground := .textOnly Go.Departure.lateStoresUnsure }, { on := 11, ground := .textOnly Go.Departure.lateStoresUnsure }, { on := 12, ground := .phase }, { on := 13, ground := .textOnly Go.Departure.lateStoresUnsure }], guard := none }) rfl (fun K hK => ?_) (AllReadyH.nil))
      · skip
        obtain ⟨v3, hrun, ho3, hgr⟩ := run_make_full (P := Try.prog) (w := v2) v2.heap.size 36 3 i0 (.int .i64 0) 1 Try.underlying36 hi hz0 hz1 .i64 .i64 m (by rw [hz2]; omega) (by unfold maxLen; omega) (Nat.le_refl _)
        have hb3 : Below v2.heap.size v2 v3 := (Below.refl _ _).grown hgr (Nat.le_refl _) (fun k hk => by cases hk)
        rw [show (madeCells (Value.int .i64 0).cells (m * 1)).toList = cI (List.replicate m 0) from by rw [show (Value.int .i64 0).cells = #[.int .i64 0] from rfl, toList_madeCells_one]; simp [cI]] at ho3
        have P3 := hide ((unhide P2).below hb3)
        have O3 := hide ((unhide O2).trans (Outs.of_below hb3))
        have NN := held_of ho3
        obtain ⟨gM, lM, hM, hgM, hlM, hhM⟩ : ∃ gM lM hM, gM = v2.heap.size ∧ lM = v2.heap.size ∧ hM = v3.heap.size := ⟨_, _, _, rfl, rfl, rfl⟩
        have M3 : Hid (Held v3 lM hM 3 (.slice (some ⟨gM, 0, none⟩) m m) m (cI (List.replicate m 0))) := by show Held _ _ _ _ _ _ _; rw [hgM, hlM, hhM]; exact NN
        have HML : Hid (w.heap.size ≤ lM) := by show _ ≤ _; have := (unhide O2).size; omega
        have N3 := hide ((unhide N2).below hb3 (unhide N2).le)
        have HAP : Hid (hN ≤ lM ∨ hM ≤ lN) := by show _ ∨ _; have := (unhide N2).le; omega
        rw [← hgM] at hrun
        clear NN ho3 hb3 hgr hgM hlM hhM P2 O2 N2
        go_simp
        refine hK.out _ _ ?_ (fun hHeld13 => ?_)
        · exact (unhide P3).S 1
        clear hK K
        try simp only [Act.put, List.setIfInBounds_toArray, List.set_cons_zero, List.set_cons_succ]
        clear hrun
        refine wpAnyH_ready (rs := [16]) (by kernel_rfl) (by simp) ?_
        refine AllReadyH.cons (o := { dst := none, op := .store 36 (.tmp 19) (.tmp 12), type := 0, pos := "l08_raft.go:190", after := #[{ on := 15, ground := .data }, { on := 8, ground := .data }, { on := 8, ground := .chain }, { on := 0, ground := .phase }, { on := 1, ground := .textOnly Go.Departure.lateStores }, { on := 2, ground := .phase }, { on := 3, ground := .phase }, { on := 4, ground := .phase }, { on := 5, ground := .phase }, { on := 6, ground := .phase }, { on := 7, ground := .phase }, { on := 8, ground := .phase }, { on := 9, ground := .textOnly Go.Departure.lateStores }, { on := 10, ground := .textOnly Go.Departure.lateStoresUnsure }, { on := 11, ground := .textOnly Go.Departure.lateStoresUnsure }, { on := 12, ground := .phase }, { on := 13, ground := .textOnly Go.Departure.lateStoresUnsure }], guard := none }) rfl (fun K hK => ?_) (AllReadyH.nil)
        have cp := (unhide P3).S
        have cf := (unhide P3).F
        have P4 : Hid (BF p #[.int .i64 id, .int .i64 (m : Int), .int .i64 tm, .int .i64 vt, .int .i64 ro, .bool up, E, .int .i64 cm, .int .i64 el, .int .i64 wt, V, .slice (some ⟨gN, 0, none⟩) m m, G] _) := (unhide P3).set 11 (by simp) (.slice (some ⟨gN, 0, none⟩) m m)
        have O4 := hide (outs_set (o := 11) (v := .slice (some ⟨gN, 0, none⟩) m m) (unhide O3))
        have N4 := hide ((unhide N3).setC (a := ⟨p, 11, none⟩) (by show p < lN; have := unhide HNL; have := unhide HPL; omega) (.slice (some ⟨gN, 0, none⟩) m m))
        have M4 := hide ((unhide M3).setC (a := ⟨p, 11, none⟩) (by show p < lM; have := unhide HML; have := unhide HPL; omega) (.slice (some ⟨gN, 0, none⟩) m m))
        go_simp
        refine hK.out _ _ ?_ (fun hHeld16 => ?_)
        · exact (unhide P4).S 1
        clear hK K
        try simp only [Act.put, List.setIfInBounds_toArray, List.set_cons_zero, List.set_cons_succ]
        clear cp cf P3 O3 N3 M3
        generalize v3.setCell ⟨p, 11, none⟩ (.slice (some ⟨gN, 0, none⟩) m m) = v4 at P4 O4 N4 M4 hHeld16 ⊢
        refine wpAnyH_take (i := 17) (oi := { dst := some 20, op := .nilCheck (.tmp 5), type := 0, pos := "l08_raft.go:190", after := #[{ on := 1, ground := .data }, { on := 0, ground := .phase }, { on := 1, ground := .phase }, { on := 2, ground := .phase }, { on := 3, ground := .phase }, { on := 4, ground := .phase }, { on := 5, ground := .phase }, { on := 6, ground := .phase }, { on := 7, ground := .phase }, { on := 8, ground := .phase }, { on := 9, ground := .phase }, { on := 10, ground := .phase }, { on := 11, ground := .phase }, { on := 12, ground := .phase }, { on := 13, ground := .phase }, { on := 14, ground := .phase }, { on := 15, ground := .phase }, { on := 16, ground := .phase }], guard := none }) (v := ?_) rfl (by kernel_rfl) (by kernel_rfl) (by kernel_rfl) (fun _ _ _ h => h) (Or.inl ⟨by rfl, ?_⟩) (by assumption) ?_
        rotate_left 1
        · (intro w' hSw; (try dsimp only at hSw); go_simp; try with_reducible rfl)
        try simp only [Act.put, List.setIfInBounds_toArray, List.set_cons_zero, List.set_cons_succ]
        refine wpAnyH_take (i := 18) (oi := { dst := some 21, op := .fieldAddr 38 (.tmp 20) 12, type := 0, pos := "l08_raft.go:190", after := #[{ on := 17, ground := .data }, { on := 0, ground := .phase }, { on := 1, ground := .phase }, { on := 2, ground := .phase }, { on := 3, ground := .phase }, { on := 4, ground := .phase }, { on := 5, ground := .phase }, { on := 6, ground := .phase }, { on := 7, ground := .phase }, { on := 8, ground := .phase }, { on := 9, ground := .phase }, { on := 10, ground := .phase }, { on := 11, ground := .phase }, { on := 12, ground := .phase }, { on := 13, ground := .phase }, { on := 14, ground := .phase }, { on := 15, ground := .phase }, { on := 16, ground := .phase }], guard := none }) (v := ?_) rfl (by kernel_rfl) (by kernel_rfl) (by kernel_rfl) (fun _ _ _ h => h) (Or.inl ⟨by rfl, ?_⟩) (by assumption) ?_
        rotate_left 1
        · (intro w' hSw; (try dsimp only at hSw); go_simp; try with_reducible rfl)
        try simp only [Act.put, List.setIfInBounds_toArray, List.set_cons_zero, List.set_cons_succ]
        refine wpAnyH_ready (rs := [19]) (by kernel_rfl) (by simp) ?_
        refine AllReadyH.cons (o := { dst := none, op := .store 36 (.tmp 21) (.tmp 17), type := 0, pos := "l08_raft.go:190", after := #[{ on := 18, ground := .data }, { on := 13, ground := .data }, { on := 16, ground := .chain }, { on := 0, ground := .phase }, { on := 1, ground := .phase }, { on := 2, ground := .phase }, { on := 3, ground := .phase }, { on := 4, ground := .phase }, { on := 5, ground := .phase }, { on := 6, ground := .phase }, { on := 7, ground := .phase }, { on := 8, ground := .phase }, { on := 9, ground := .phase }, { on := 10, ground := .phase }, { on := 11, ground := .phase }, { on := 12, ground := .phase }, { on := 13, ground := .phase }, { on := 14, ground := .phase }, { on := 15, ground := .phase }, { on := 16, ground := .phase }], guard := none }) rfl (fun K hK => ?_) (AllReadyH.nil)
        have cp := (unhide P4).S
        have cf := (unhide P4).F
        have PM : Hid (BF p #[.int .i64 id, .int .i64 (m : Int), .int .i64 tm, .int .i64 vt, .int .i64 ro, .bool up, E, .int .i64 cm, .int .i64 el, .int .i64 wt, V, .slice (some ⟨gN, 0, none⟩) m m, .slice (some ⟨gM, 0, none⟩) m m] _) := (unhide P4).set 12 (by simp) (.slice (some ⟨gM, 0, none⟩) m m)
        go_simp
        refine hK.out _ _ ?_ (fun hHeld19 => ?_)
        · exact (unhide PM).S 1
        clear hK K
        try simp only [Act.put, List.setIfInBounds_toArray, List.set_cons_zero, List.set_cons_succ]
        refine wpAnyH_done (by kernel_rfl) ?_ _
        clear cp cf
        go_wp2_with fail
        go_end0
        have hp := unhide HPL
        refine ⟨rfl, gN, gM, lN, hN, lM, hM, unhide PM, ?_, ?_, unhide HNL, unhide HML, unhide HAP, ?_, ?_⟩
        · refine Held.setC (unhide N4) ?_ _
          show p < lN; have := unhide HNL; omega
        · refine Held.setC (unhide M4) ?_ _
          show p < lM; have := unhide HML; omega
        · simp only [World.size_setCell]; exact ⟨(unhide N4).le, (unhide M4).le⟩
        · exact outs_set (unhide O4)
      · skip
        have cp := (unhide P2).S
        have cf := (unhide P2).F
        have P3 : Hid (BF p #[.int .i64 id, .int .i64 (m : Int), .int .i64 tm, .int .i64 vt, .int .i64 ro, .bool up, E, .int .i64 cm, .int .i64 el, .int .i64 wt, V, .slice (some ⟨gN, 0, none⟩) m m, G] _) := (unhide P2).set 11 (by simp) (.slice (some ⟨gN, 0, none⟩) m m)
        have O3 := hide (outs_set (o := 11) (v := .slice (some ⟨gN, 0, none⟩) m m) (unhide O2))
        have N3 := hide ((unhide N2).setC (a := ⟨p, 11, none⟩) (by show p < lN; have := unhide HNL; have := unhide HPL; omega) (.slice (some ⟨gN, 0, none⟩) m m))
        go_simp
        refine hK.out _ _ ?_ (fun hHeld16 => ?_)
        · exact (unhide P3).S 1
        clear hK K
        try simp only [Act.put, List.setIfInBounds_toArray, List.set_cons_zero, List.set_cons_succ]
        clear cp cf P2 O2 N2
        generalize v2.setCell ⟨p, 11, none⟩ (.slice (some ⟨gN, 0, none⟩) m m) = v3 at P3 O3 N3 hHeld16 ⊢
        refine wpAnyH_ready (rs := [13]) (by kernel_rfl) (by simp) ?_
        refine AllReadyH.cons (o := { dst := some 17, op := .makeSlice 36 (.tmp 16) (.tmp 16), type := 36, pos := "l08_raft.go:190", after := #[{ on := 12, ground := .data }, { on := 12, ground := .data }], guard := none }) rfl (fun K hK => ?_) (AllReadyH.nil)
        obtain ⟨v4, hrun, ho4, hgr⟩ := run_make_full (P := Try.prog) (w := v3) v3.heap.size 36 3 i0 (.int .i64 0) 1 Try.underlying36 hi hz0 hz1 .i64 .i64 m (by rw [hz2]; omega) (by unfold maxLen; omega) (Nat.le_refl _)
        have hb4 : Below v3.heap.size v3 v4 := (Below.refl _ _).grown hgr (Nat.le_refl _) (fun k hk => by cases hk)
        rw [show (madeCells (Value.int .i64 0).cells (m * 1)).toList = cI (List.replicate m 0) from by rw [show (Value.int .i64 0).cells = #[.int .i64 0] from rfl, toList_madeCells_one]; simp [cI]] at ho4
        have P4 := hide ((unhide P3).below hb4)
        have O4 := hide ((unhide O3).trans (Outs.of_below hb4))
        have NN := held_of ho4
        obtain ⟨gM, lM, hM, hgM, hlM, hhM⟩ : ∃ gM lM hM, gM = v3.heap.size ∧ lM = v3.heap.size ∧ hM = v4.heap.size := ⟨_, _, _, rfl, rfl, rfl⟩
        have M4 : Hid (Held v4 lM hM 3 (.slice (some ⟨gM, 0, none⟩) m m) m (cI (List.replicate m 0))) := by show Held _ _ _ _ _ _ _; rw [hgM, hlM, hhM]; exact NN
        have HML : Hid (w.heap.size ≤ lM) := by show _ ≤ _; have := (unhide O3).size; omega
        have N4 := hide ((unhide N3).below hb4 (unhide N3).le)
        have HAP : Hid (hN ≤ lM ∨ hM ≤ lN) := by show _ ∨ _; have := (unhide N3).le; omega
        rw [← hgM] at hrun
        clear NN ho4 hb4 hgr hgM hlM hhM P3 O3 N3
        go_simp
        refine hK.out _ _ ?_ (fun hHeld13 => ?_)
        · exact (unhide P4).S 1
        clear hK K
        try simp only [Act.put, List.setIfInBounds_toArray, List.set_cons_zero, List.set_cons_succ]
        clear hrun
        refine wpAnyH_take (i := 17) (oi := { dst := some 20, op := .nilCheck (.tmp 5), type := 0, pos := "l08_raft.go:190", after := #[{ on := 1, ground := .data }, { on := 0, ground := .phase }, { on := 1, ground := .phase }, { on := 2, ground := .phase }, { on := 3, ground := .phase }, { on := 4, ground := .phase }, { on := 5, ground := .phase }, { on := 6, ground := .phase }, { on := 7, ground := .phase }, { on := 8, ground := .phase }, { on := 9, ground := .phase }, { on := 10, ground := .phase }, { on := 11, ground := .phase }, { on := 12, ground := .phase }, { on := 13, ground := .phase }, { on := 14, ground := .phase }, { on := 15, ground := .phase }, { on := 16, ground := .phase }], guard := none }) (v := ?_) rfl (by kernel_rfl) (by kernel_rfl) (by kernel_rfl) (fun _ _ _ h => h) (Or.inl ⟨by rfl, ?_⟩) (by assumption) ?_
        rotate_left 1
        · (intro w' hSw; (try dsimp only at hSw); go_simp; try with_reducible rfl)
        try simp only [Act.put, List.setIfInBounds_toArray, List.set_cons_zero, List.set_cons_succ]
        refine wpAnyH_take (i := 18) (oi := { dst := some 21, op := .fieldAddr 38 (.tmp 20) 12, type := 0, pos := "l08_raft.go:190", after := #[{ on := 17, ground := .data }, { on := 0, ground := .phase }, { on := 1, ground := .phase }, { on := 2, ground := .phase }, { on := 3, ground := .phase }, { on := 4, ground := .phase }, { on := 5, ground := .phase }, { on := 6, ground := .phase }, { on := 7, ground := .phase }, { on := 8, ground := .phase }, { on := 9, ground := .phase }, { on := 10, ground := .phase }, { on := 11, ground := .phase }, { on := 12, ground := .phase }, { on := 13, ground := .phase }, { on := 14, ground := .phase }, { on := 15, ground := .phase }, { on := 16, ground := .phase }], guard := none }) (v := ?_) rfl (by kernel_rfl) (by kernel_rfl) (by kernel_rfl) (fun _ _ _ h => h) (Or.inl ⟨by rfl, ?_⟩) (by assumption) ?_
        rotate_left 1
        · (intro w' hSw; (try dsimp only at hSw); go_simp; try with_reducible rfl)
        try simp only [Act.put, List.setIfInBounds_toArray, List.set_cons_zero, List.set_cons_succ]
        refine wpAnyH_ready (rs := [19]) (by kernel_rfl) (by simp) ?_
        refine AllReadyH.cons (o := { dst := none, op := .store 36 (.tmp 21) (.tmp 17), type := 0, pos := "l08_raft.go:190", after := #[{ on := 18, ground := .data }, { on := 13, ground := .data }, { on := 16, ground := .chain }, { on := 0, ground := .phase }, { on := 1, ground := .phase }, { on := 2, ground := .phase }, { on := 3, ground := .phase }, { on := 4, ground := .phase }, { on := 5, ground := .phase }, { on := 6, ground := .phase }, { on := 7, ground := .phase }, { on := 8, ground := .phase }, { on := 9, ground := .phase }, { on := 10, ground := .phase }, { on := 11, ground := .phase }, { on := 12, ground := .phase }, { on := 13, ground := .phase }, { on := 14, ground := .phase }, { on := 15, ground := .phase }, { on := 16, ground := .phase }], guard := none }) rfl (fun K hK => ?_) (AllReadyH.nil)
        have cp := (unhide P4).S
        have cf := (unhide P4).F
        have PM : Hid (BF p #[.int .i64 id, .int .i64 (m : Int), .int .i64 tm, .int .i64 vt, .int .i64 ro, .bool up, E, .int .i64 cm, .int .i64 el, .int .i64 wt, V, .slice (some ⟨gN, 0, none⟩) m m, .slice (some ⟨gM, 0, none⟩) m m] _) := (unhide P4).set 12 (by simp) (.slice (some ⟨gM, 0, none⟩) m m)
        go_simp
        refine hK.out _ _ ?_ (fun hHeld19 => ?_)
        · exact (unhide PM).S 1
        clear hK K
        try simp only [Act.put, List.setIfInBounds_toArray, List.set_cons_zero, List.set_cons_succ]
        refine wpAnyH_done (by kernel_rfl) ?_ _
        clear cp cf
        go_wp2_with fail
        go_end0
        have hp := unhide HPL
        refine ⟨rfl, gN, gM, lN, hN, lM, hM, unhide PM, ?_, ?_, unhide HNL, unhide HML, unhide HAP, ?_, ?_⟩
        · refine Held.setC (unhide N4) ?_ _
          show p < lN; have := unhide HNL; omega
        · refine Held.setC (unhide M4) ?_ _
          show p < lM; have := unhide HML; omega
        · simp only [World.size_setCell]; exact ⟨(unhide N4).le, (unhide M4).le⟩
        · exact outs_set (unhide O4)
    · skip
      obtain ⟨v2, hrun, ho2, hgr⟩ := run_make_full (P := Try.prog) (w := v1) v1.heap.size 36 3 i0 (.int .i64 0) 1 Try.underlying36 hi hz0 hz1 .i64 .i64 m (by rw [hz2]; omega) (by unfold maxLen; omega) (Nat.le_refl _)
      have hb2 : Below v1.heap.size v1 v2 := (Below.refl _ _).grown hgr (Nat.le_refl _) (fun k hk => by cases hk)
      rw [show (madeCells (Value.int .i64 0).cells (m * 1)).toList = cI (List.replicate m 0) from by rw [show (Value.int .i64 0).cells = #[.int .i64 0] from rfl, toList_madeCells_one]; simp [cI]] at ho2
      have P2 := hide ((unhide P1).below hb2)
      have O2 := hide ((unhide O1).trans (Outs.of_below hb2))
      have NN := held_of ho2
      obtain ⟨gM, lM, hM, hgM, hlM, hhM⟩ : ∃ gM lM hM, gM = v1.heap.size ∧ lM = v1.heap.size ∧ hM = v2.heap.size := ⟨_, _, _, rfl, rfl, rfl⟩
      have M2 : Hid (Held v2 lM hM 3 (.slice (some ⟨gM, 0, none⟩) m m) m (cI (List.replicate m 0))) := by show Held _ _ _ _ _ _ _; rw [hgM, hlM, hhM]; exact NN
      have HML : Hid (w.heap.size ≤ lM) := by show _ ≤ _; have := (unhide O1).size; omega
      have D2 := hide ((unhide D1).below hb2)
      rw [← hgM] at hrun
      clear NN ho2 hb2 hgr hgM hlM hhM P1 O1 D1
      go_simp
      refine hK.out _ _ ?_ (fun hHeld13 => ?_)
      · exact (unhide P2).S 1
      clear hK K
      try simp only [Act.put, List.setIfInBounds_toArray, List.set_cons_zero, List.set_cons_succ]
      clear hrun
      refine wpAnyH_ready (rs := [8]) (by kernel_rfl) (by simp) ?_
      refine AllReadyH.cons (o := { dst := some 12, op := .call { callee := .value (.func 39), args := #[.tmp 7, .tmp 11], argTypes := #[36, 3] }, type := 36, pos := "l08_raft.go:190", after := #[{ on := 3, ground := .data }, { on := 7, ground := .data }], guard := none }) rfl (fun K hK => ?_) (AllReadyH.nil)
      go_simp
      refine (irep bx x m h1 h5 v2 ((unhide D2).S 0) (unhide D2).lt).mono ?_
      rintro e v3 ⟨rfl, ho3, hb3⟩
      have P3 := hide ((unhide P2).below hb3)
      have O3 := hide ((unhide O2).trans (Outs.of_below hb3))
      have NN := held_of ho3
      obtain ⟨gN, lN, hN, hgN, hlN, hhN⟩ : ∃ gN lN hN, gN = v2.heap.size ∧ lN = v2.heap.size ∧ hN = v3.heap.size := ⟨_, _, _, rfl, rfl, rfl⟩
      have N3 : Hid (Held v3 lN hN 3 (.slice (some ⟨gN, 0, none⟩) m m) m (cI (List.replicate m x))) := by show Held _ _ _ _ _ _ _; rw [hgN, hlN, hhN]; exact NN
      have HNL : Hid (w.heap.size ≤ lN) := by show _ ≤ _; have := (unhide O2).size; omega
      have M3 := hide ((unhide M2).below hb3 (unhide M2).le)
      have HAP : Hid (hN ≤ lM ∨ hM ≤ lN) := by show _ ∨ _; have := (unhide M2).le; omega
      rw [← hgN]
      clear NN ho3 hb3 hgN hlN hhN P2 O2 D2 M2
      go_wp2_with fail
      refine hK.out _ _ ?_ (fun hHeld8 => ?_)
      · exact (unhide P3).S 1
      clear hK K
      try simp only [Act.put, List.setIfInBounds_toArray, List.set_cons_zero, List.set_cons_succ]
      refine wpAnyH_take (i := 14) (oi := { dst := some 18, op := .nilCheck (.tmp 4), type := 0, pos := "l08_raft.go:190", after := #[{ on := 0, ground := .data }, { on := 0, ground := .phase }, { on := 1, ground := .textOnly Go.Departure.lateStores }, { on := 2, ground := .phase }, { on := 3, ground := .phase }, { on := 4, ground := .phase }, { on := 5, ground := .phase }, { on := 6, ground := .phase }, { on := 7, ground := .phase }, { on := 8, ground := .phase }, { on := 9, ground := .textOnly Go.Departure.lateStores }, { on := 10, ground := .textOnly Go.Departure.lateStoresUnsure }, { on := 11, ground := .textOnly Go.Departure.lateStoresUnsure }, { on := 12, ground := .phase }, { on := 13, ground := .textOnly Go.Departure.lateStoresUnsure }], guard := none }) (v := ?_) rfl (by kernel_rfl) (by kernel_rfl) (by kernel_rfl) (fun _ _ _ h => h) (Or.inl ⟨by rfl, ?_⟩) (by assumption) ?_
      rotate_left 1
      · (intro w' hSw; (try dsimp only at hSw); go_simp; try with_reducible rfl)
      try simp only [Act.put, List.setIfInBounds_toArray, List.set_cons_zero, List.set_cons_succ]
      refine wpAnyH_take (i := 15) (oi := { dst := some 19, op := .fieldAddr 38 (.tmp 18) 11, type := 0, pos := "l08_raft.go:190", after := #[{ on := 14, ground := .data }, { on := 0, ground := .phase }, { on := 1, ground := .textOnly Go.Departure.lateStores }, { on := 2, ground := .phase }, { on := 3, ground := .phase }, { on := 4, ground := .phase }, { on := 5, ground := .phase }, { on := 6, ground := .phase }, { on := 7, ground := .phase }, { on := 8, ground := .phase }, { on := 9, ground := .textOnly Go.Departure.lateStores }, { on := 10, ground := .textOnly Go.Departure.lateStoresUnsure }, { on := 11, ground := .textOnly Go.Departure.lateStoresUnsure }, { on := 12, ground := .phase }, { on := 13, ground := .textOnly Go.Departure.lateStoresUnsure }], guard := none }) (v := ?_) rfl (by kernel_rfl) (by kernel_rfl) (by kernel_rfl) (fun _ _ _ h => h) (Or.inl ⟨by rfl, ?_⟩) (by assumption) ?_
      rotate_left 1
      · (intro w' hSw; (try dsimp only at hSw); go_simp; try with_reducible rfl)
      try simp only [Act.put, List.setIfInBounds_toArray, List.set_cons_zero, List.set_cons_succ]
      refine wpAnyH_ready (rs := [16]) (by kernel_rfl) (by simp) ?_
      refine AllReadyH.cons (o := { dst := none, op := .store 36 (.tmp 19) (.tmp 12), type := 0, pos := "l08_raft.go:190", after := #[{ on := 15, ground := .data }, { on := 8, ground := .data }, { on := 8, ground := .chain }, { on := 0, ground := .phase }, { on := 1, ground := .textOnly Go.Departure.lateStores }, { on := 2, ground := .phase }, { on := 3, ground := .phase }, { on := 4, ground := .phase }, { on := 5, ground := .phase }, { on := 6, ground := .phase }, { on := 7, ground := .phase }, { on := 8, ground := .phase }, { on := 9, ground := .textOnly Go.Departure.lateStores }, { on := 10, ground := .textOnly Go.Departure.lateStoresUnsure }, { on := 11, ground := .textOnly Go.Departure.lateStoresUnsure }, { on := 12, ground := .phase }, { on := 13, ground := .textOnly Go.Departure.lateStoresUnsure }], guard := none }) rfl (fun K hK => ?_) (AllReadyH.nil)
      have cp := (unhide P3).S
      have cf := (unhide P3).F
      have P4 : Hid (BF p #[.int .i64 id, .int .i64 (m : Int), .int .i64 tm, .int .i64 vt, .int .i64 ro, .bool up, E, .int .i64 cm, .int .i64 el, .int .i64 wt, V, .slice (some ⟨gN, 0, none⟩) m m, G] _) := (unhide P3).set 11 (by simp) (.slice (some ⟨gN, 0, none⟩) m m)
      have O4 := hide (outs_set (o := 11) (v := .slice (some ⟨gN, 0, none⟩) m m) (unhide O3))
      have N4 := hide ((unhide N3).setC (a := ⟨p, 11, none⟩) (by show p < lN; have := unhide HNL; have := unhide HPL; omega) (.slice (some ⟨gN, 0, none⟩) m m))
      have M4 := hide ((unhide M3).setC (a := ⟨p, 11, none⟩) (by show p < lM; have := unhide HML; have := unhide HPL; omega) (.slice (some ⟨gN, 0, none⟩) m m))
      go_simp
      refine hK.out _ _ ?_ (fun hHeld16 => ?_)
      · exact (unhide P4).S 1
      clear hK K
      try simp only [Act.put, List.setIfInBounds_toArray, List.set_cons_zero, List.set_cons_succ]
      clear cp cf P3 O3 N3 M3
      generalize v3.setCell ⟨p, 11, none⟩ (.slice (some ⟨gN, 0, none⟩) m m) = v4 at P4 O4 N4 M4 hHeld16 ⊢
      refine wpAnyH_take (i := 17) (oi := { dst := some 20, op := .nilCheck (.tmp 5), type := 0, pos := "l08_raft.go:190", after := #[{ on := 1, ground := .data }, { on := 0, ground := .phase }, { on := 1, ground := .phase }, { on := 2, ground := .phase }, { on := 3, ground := .phase }, { on := 4, ground := .phase }, { on := 5, ground := .phase }, { on := 6, ground := .phase }, { on := 7, ground := .phase }, { on := 8, ground := .phase }, { on := 9, ground := .phase }, { on := 10, ground := .phase }, { on := 11, ground := .phase }, { on := 12, ground := .phase }, { on := 13, ground := .phase }, { on := 14, ground := .phase }, { on := 15, ground := .phase }, { on := 16, ground := .phase }], guard := none }) (v := ?_) rfl (by kernel_rfl) (by kernel_rfl) (by kernel_rfl) (fun _ _ _ h => h) (Or.inl ⟨by rfl, ?_⟩) (by assumption) ?_
      rotate_left 1
      · (intro w' hSw; (try dsimp only at hSw); go_simp; try with_reducible rfl)
      try simp only [Act.put, List.setIfInBounds_toArray, List.set_cons_zero, List.set_cons_succ]
      refine wpAnyH_take (i := 18) (oi := { dst := some 21, op := .fieldAddr 38 (.tmp 20) 12, type := 0, pos := "l08_raft.go:190", after := #[{ on := 17, ground := .data }, { on := 0, ground := .phase }, { on := 1, ground := .phase }, { on := 2, ground := .phase }, { on := 3, ground := .phase }, { on := 4, ground := .phase }, { on := 5, ground := .phase }, { on := 6, ground := .phase }, { on := 7, ground := .phase }, { on := 8, ground := .phase }, { on := 9, ground := .phase }, { on := 10, ground := .phase }, { on := 11, ground := .phase }, { on := 12, ground := .phase }, { on := 13, ground := .phase }, { on := 14, ground := .phase }, { on := 15, ground := .phase }, { on := 16, ground := .phase }], guard := none }) (v := ?_) rfl (by kernel_rfl) (by kernel_rfl) (by kernel_rfl) (fun _ _ _ h => h) (Or.inl ⟨by rfl, ?_⟩) (by assumption) ?_
      rotate_left 1
      · (intro w' hSw; (try dsimp only at hSw); go_simp; try with_reducible rfl)
      try simp only [Act.put, List.setIfInBounds_toArray, List.set_cons_zero, List.set_cons_succ]
      refine wpAnyH_ready (rs := [19]) (by kernel_rfl) (by simp) ?_
      refine AllReadyH.cons (o := { dst := none, op := .store 36 (.tmp 21) (.tmp 17), type := 0, pos := "l08_raft.go:190", after := #[{ on := 18, ground := .data }, { on := 13, ground := .data }, { on := 16, ground := .chain }, { on := 0, ground := .phase }, { on := 1, ground := .phase }, { on := 2, ground := .phase }, { on := 3, ground := .phase }, { on := 4, ground := .phase }, { on := 5, ground := .phase }, { on := 6, ground := .phase }, { on := 7, ground := .phase }, { on := 8, ground := .phase }, { on := 9, ground := .phase }, { on := 10, ground := .phase }, { on := 11, ground := .phase }, { on := 12, ground := .phase }, { on := 13, ground := .phase }, { on := 14, ground := .phase }, { on := 15, ground := .phase }, { on := 16, ground := .phase }], guard := none }) rfl (fun K hK => ?_) (AllReadyH.nil)
      have cp := (unhide P4).S
      have cf := (unhide P4).F
      have PM : Hid (BF p #[.int .i64 id, .int .i64 (m : Int), .int .i64 tm, .int .i64 vt, .int .i64 ro, .bool up, E, .int .i64 cm, .int .i64 el, .int .i64 wt, V, .slice (some ⟨gN, 0, none⟩) m m, .slice (some ⟨gM, 0, none⟩) m m] _) := (unhide P4).set 12 (by simp) (.slice (some ⟨gM, 0, none⟩) m m)
      go_simp
      refine hK.out _ _ ?_ (fun hHeld19 => ?_)
      · exact (unhide PM).S 1
      clear hK K
      try simp only [Act.put, List.setIfInBounds_toArray, List.set_cons_zero, List.set_cons_succ]
      refine wpAnyH_done (by kernel_rfl) ?_ _
      clear cp cf
      go_wp2_with fail
      go_end0
      have hp := unhide HPL
      refine ⟨rfl, gN, gM, lN, hN, lM, hM, unhide PM, ?_, ?_, unhide HNL, unhide HML, unhide HAP, ?_, ?_⟩
      · refine Held.setC (unhide N4) ?_ _
        show p < lN; have := unhide HNL; omega
      · refine Held.setC (unhide M4) ?_ _
        show p < lM; have := unhide HML; omega
      · simp only [World.size_setCell]; exact ⟨(unhide N4).le, (unhide M4).le⟩
      · exact outs_set (unhide O4)
  · skip
    obtain ⟨v1, hrun, ho1, hgr⟩ := run_make_full (P := Try.prog) (w := v0) v0.heap.size 36 3 i0 (.int .i64 0) 1 Try.underlying36 hi hz0 hz1 .i64 .i64 m (by rw [hz2]; omega) (by unfold maxLen; omega) (Nat.le_refl _)
    have hb1 : Below v0.heap.size v0 v1 := (Below.refl _ _).grown hgr (Nat.le_refl _) (fun k hk => by cases hk)
    rw [show (madeCells (Value.int .i64 0).cells (m * 1)).toList = cI (List.replicate m 0) from by rw [show (Value.int .i64 0).cells = #[.int .i64 0] from rfl, toList_madeCells_one]; simp [cI]] at ho1
    have P1 := hide ((unhide P0).below hb1)
    have O1 := hide ((unhide O0).trans (Outs.of_below hb1))
    have NN := held_of ho1
    obtain ⟨gM, lM, hM, hgM, hlM, hhM⟩ : ∃ gM lM hM, gM = v0.heap.size ∧ lM = v0.heap.size ∧ hM = v1.heap.size := ⟨_, _, _, rfl, rfl, rfl⟩
    have M1 : Hid (Held v1 lM hM 3 (.slice (some ⟨gM, 0, none⟩) m m) m (cI (List.replicate m 0))) := by show Held _ _ _ _ _ _ _; rw [hgM, hlM, hhM]; exact NN
    have HML : Hid (w.heap.size ≤ lM) := by show _ ≤ _; have := (unhide O0).size; omega
    rw [← hgM] at hrun
    clear NN ho1 hb1 hgr hgM hlM hhM P0 O0 
    go_simp
    refine hK.out _ _ ?_ (fun hHeld13 => ?_)
    · exact (unhide P1).S 1
    clear hK K
    try simp only [Act.put, List.setIfInBounds_toArray, List.set_cons_zero, List.set_cons_succ]
    clear hrun
    refine wpAnyH_ready (rs := [3]) (by kernel_rfl) (by simp) ?_
    refine AllReadyH.cons (o := { dst := some 7, op := .buildSlice 36 1 #[(0, .tmp 6)], type := 36, pos := "l08_raft.go:190", after := #[{ on := 2, ground := .data }], guard := none }) rfl (fun K hK => ?_) (AllReadyH.nil)
    obtain ⟨bx, hbx⟩ : ∃ bx, bx = v1.heap.size := ⟨_, rfl⟩
    have P2 := hide ((unhide P1).alloc (.cells #[.int .i64 x] 3))
    have O2 := hide ((unhide O1).trans (Outs.of_below (Go.Joins.below_alloc1 v1 (.cells #[.int .i64 x] 3))))
    have D2 := hide (BF.new v1 #[.int .i64 x] 3)
    rw [← hbx] at D2
    have M2 := hide ((unhide M1).below (Go.Joins.below_alloc1 v1 (.cells #[.int .i64 x] 3)) (unhide M1).le)
    go_simp
    refine hK.out _ _ ?_ (fun hHeld3 => ?_)
    · exact (unhide P2).S 1
    clear hK K
    try simp only [Act.put, List.setIfInBounds_toArray, List.set_cons_zero, List.set_cons_succ]
    rw [← hbx]
    clear hbx
    generalize v1.alloc (.cells #[.int .i64 x] 3) = v2 at P2 O2 D2 M2 hHeld3 ⊢
    clear P1 O1 M1
    refine wpAnyH_ready (rs := [8]) (by kernel_rfl) (by simp) ?_
    refine AllReadyH.cons (o := { dst := some 12, op := .call { callee := .value (.func 39), args := #[.tmp 7, .tmp 11], argTypes := #[36, 3] }, type := 36, pos := "l08_raft.go:190", after := #[{ on := 3, ground := .data }, { on := 7, ground := .data }], guard := none }) rfl (fun K hK => ?_) (AllReadyH.nil)
    go_simp
    refine (irep bx x m h1 h5 v2 ((unhide D2).S 0) (unhide D2).lt).mono ?_
    rintro e v3 ⟨rfl, ho3, hb3⟩
    have P3 := hide ((unhide P2).below hb3)
    have O3 := hide ((unhide O2).trans (Outs.of_below hb3))
    have NN := held_of ho3
    obtain ⟨gN, lN, hN, hgN, hlN, hhN⟩ : ∃ gN lN hN, gN = v2.heap.size ∧ lN = v2.heap.size ∧ hN = v3.heap.size := ⟨_, _, _, rfl, rfl, rfl⟩
    have N3 : Hid (Held v3 lN hN 3 (.slice (some ⟨gN, 0, none⟩) m m) m (cI (List.replicate m x))) := by show Held _ _ _ _ _ _ _; rw [hgN, hlN, hhN]; exact NN
    have HNL : Hid (w.heap.size ≤ lN) := by show _ ≤ _; have := (unhide O2).size; omega
    have M3 := hide ((unhide M2).below hb3 (unhide M2).le)
    have HAP : Hid (hN ≤ lM ∨ hM ≤ lN) := by show _ ∨ _; have := (unhide M2).le; omega
    rw [← hgN]
    clear NN ho3 hb3 hgN hlN hhN P2 O2 D2 M2
    go_wp2_with fail
    refine hK.out _ _ ?_ (fun hHeld8 => ?_)
    · exact (unhide P3).S 1
    clear hK K
    try simp only [Act.put, List.setIfInBounds_toArray, List.set_cons_zero, List.set_cons_succ]
    refine wpAnyH_take (i := 14) (oi := { dst := some 18, op := .nilCheck (.tmp 4), type := 0, pos := "l08_raft.go:190", after := #[{ on := 0, ground := .data }, { on := 0, ground := .phase }, { on := 1, ground := .textOnly Go.Departure.lateStores }, { on := 2, ground := .phase }, { on := 3, ground := .phase }, { on := 4, ground := .phase }, { on := 5, ground := .phase }, { on := 6, ground := .phase }, { on := 7, ground := .phase }, { on := 8, ground := .phase }, { on := 9, ground := .textOnly Go.Departure.lateStores }, { on := 10, ground := .textOnly Go.Departure.lateStoresUnsure }, { on := 11, ground := .textOnly Go.Departure.lateStoresUnsure }, { on := 12, ground := .phase }, { on := 13, ground := .textOnly Go.Departure.lateStoresUnsure }], guard := none }) (v := ?_) rfl (by kernel_rfl) (by kernel_rfl) (by kernel_rfl) (fun _ _ _ h => h) (Or.inl ⟨by rfl, ?_⟩) (by assumption) ?_
    rotate_left 1
    · (intro w' hSw; (try dsimp only at hSw); go_simp; try with_reducible rfl)
    try simp only [Act.put, List.setIfInBounds_toArray, List.set_cons_zero, List.set_cons_succ]
    refine wpAnyH_take (i := 15) (oi := { dst := some 19, op := .fieldAddr 38 (.tmp 18) 11, type := 0, pos := "l08_raft.go:190", after := #[{ on := 14, ground := .data }, { on := 0, ground := .phase }, { on := 1, ground := .textOnly Go.Departure.lateStores }, { on := 2, ground := .phase }, { on := 3, ground := .phase }, { on := 4, ground := .phase }, { on := 5, ground := .phase }, { on := 6, ground := .phase }, { on := 7, ground := .phase }, { on := 8, ground := .phase }, { on := 9, ground := .textOnly Go.Departure.lateStores }, { on := 10, ground := .textOnly Go.Departure.lateStoresUnsure }, { on := 11, ground := .textOnly Go.Departure.lateStoresUnsure }, { on := 12, ground := .phase }, { on := 13, ground := .textOnly Go.Departure.lateStoresUnsure }], guard := none }) (v := ?_) rfl (by kernel_rfl) (by kernel_rfl) (by kernel_rfl) (fun _ _ _ h => h) (Or.inl ⟨by rfl, ?_⟩) (by assumption) ?_
    rotate_left 1
    · (intro w' hSw; (try dsimp only at hSw); go_simp; try with_reducible rfl)
    try simp only [Act.put, List.setIfInBounds_toArray, List.set_cons_zero, List.set_cons_succ]
    refine wpAnyH_ready (rs := [16]) (by kernel_rfl) (by simp) ?_
    refine AllReadyH.cons (o := { dst := none, op := .store 36 (.tmp 19) (.tmp 12), type := 0, pos := "l08_raft.go:190", after := #[{ on := 15, ground := .data }, { on := 8, ground := .data }, { on := 8, ground := .chain }, { on := 0, ground := .phase }, { on := 1, ground := .textOnly Go.Departure.lateStores }, { on := 2, ground := .phase }, { on := 3, ground := .phase }, { on := 4, ground := .phase }, { on := 5, ground := .phase }, { on := 6, ground := .phase }, { on := 7, ground := .phase }, { on := 8, ground := .phase }, { on := 9, ground := .textOnly Go.Departure.lateStores }, { on := 10, ground := .textOnly Go.Departure.lateStoresUnsure }, { on := 11, ground := .textOnly Go.Departure.lateStoresUnsure }, { on := 12, ground := .phase }, { on := 13, ground := .textOnly Go.Departure.lateStoresUnsure }], guard := none }) rfl (fun K hK => ?_) (AllReadyH.nil)
    have cp := (unhide P3).S
    have cf := (unhide P3).F
    have P4 : Hid (BF p #[.int .i64 id, .int .i64 (m : Int), .int .i64 tm, .int .i64 vt, .int .i64 ro, .bool up, E, .int .i64 cm, .int .i64 el, .int .i64 wt, V, .slice (some ⟨gN, 0, none⟩) m m, G] _) := (unhide P3).set 11 (by simp) (.slice (some ⟨gN, 0, none⟩) m m)
    have O4 := hide (outs_set (o := 11) (v := .slice (some ⟨gN, 0, none⟩) m m) (unhide O3))
    have N4 := hide ((unhide N3).setC (a := ⟨p, 11, none⟩) (by show p < lN; have := unhide HNL; have := unhide HPL; omega) (.slice (some ⟨gN, 0, none⟩) m m))
    have M4 := hide ((unhide M3).setC (a := ⟨p, 11, none⟩) (by show p < lM; have := unhide HML; have := unhide HPL; omega) (.slice (some ⟨gN, 0, none⟩) m m))
    go_simp
    refine hK.out _ _ ?_ (fun hHeld16 => ?_)
    · exact (unhide P4).S 1
    clear hK K
    try simp only [Act.put, List.setIfInBounds_toArray, List.set_cons_zero, List.set_cons_succ]
    clear cp cf P3 O3 N3 M3
    generalize v3.setCell ⟨p, 11, none⟩ (.slice (some ⟨gN, 0, none⟩) m m) = v4 at P4 O4 N4 M4 hHeld16 ⊢
    refine wpAnyH_take (i := 17) (oi := { dst := some 20, op := .nilCheck (.tmp 5), type := 0, pos := "l08_raft.go:190", after := #[{ on := 1, ground := .data }, { on := 0, ground := .phase }, { on := 1, ground := .phase }, { on := 2, ground := .phase }, { on := 3, ground := .phase }, { on := 4, ground := .phase }, { on := 5, ground := .phase }, { on := 6, ground := .phase }, { on := 7, ground := .phase }, { on := 8, ground := .phase }, { on := 9, ground := .phase }, { on := 10, ground := .phase }, { on := 11, ground := .phase }, { on := 12, ground := .phase }, { on := 13, ground := .phase }, { on := 14, ground := .phase }, { on := 15, ground := .phase }, { on := 16, ground := .phase }], guard := none }) (v := ?_) rfl (by kernel_rfl) (by kernel_rfl) (by kernel_rfl) (fun _ _ _ h => h) (Or.inl ⟨by rfl, ?_⟩) (by assumption) ?_
    rotate_left 1
    · (intro w' hSw; (try dsimp only at hSw); go_simp; try with_reducible rfl)
    try simp only [Act.put, List.setIfInBounds_toArray, List.set_cons_zero, List.set_cons_succ]
    refine wpAnyH_take (i := 18) (oi := { dst := some 21, op := .fieldAddr 38 (.tmp 20) 12, type := 0, pos := "l08_raft.go:190", after := #[{ on := 17, ground := .data }, { on := 0, ground := .phase }, { on := 1, ground := .phase }, { on := 2, ground := .phase }, { on := 3, ground := .phase }, { on := 4, ground := .phase }, { on := 5, ground := .phase }, { on := 6, ground := .phase }, { on := 7, ground := .phase }, { on := 8, ground := .phase }, { on := 9, ground := .phase }, { on := 10, ground := .phase }, { on := 11, ground := .phase }, { on := 12, ground := .phase }, { on := 13, ground := .phase }, { on := 14, ground := .phase }, { on := 15, ground := .phase }, { on := 16, ground := .phase }], guard := none }) (v := ?_) rfl (by kernel_rfl) (by kernel_rfl) (by kernel_rfl) (fun _ _ _ h => h) (Or.inl ⟨by rfl, ?_⟩) (by assumption) ?_
    rotate_left 1
    · (intro w' hSw; (try dsimp only at hSw); go_simp; try with_reducible rfl)
    try simp only [Act.put, List.setIfInBounds_toArray, List.set_cons_zero, List.set_cons_succ]
    refine wpAnyH_ready (rs := [19]) (by kernel_rfl) (by simp) ?_
    refine AllReadyH.cons (o := { dst := none, op := .store 36 (.tmp 21) (.tmp 17), type := 0, pos := "l08_raft.go:190", after := #[{ on := 18, ground := .data }, { on := 13, ground := .data }, { on := 16, ground := .chain }, { on := 0, ground := .phase }, { on := 1, ground := .phase }, { on := 2, ground := .phase }, { on := 3, ground := .phase }, { on := 4, ground := .phase }, { on := 5, ground := .phase }, { on := 6, ground := .phase }, { on := 7, ground := .phase }, { on := 8, ground := .phase }, { on := 9, ground := .phase }, { on := 10, ground := .phase }, { on := 11, ground := .phase }, { on := 12, ground := .phase }, { on := 13, ground := .phase }, { on := 14, ground := .phase }, { on := 15, ground := .phase }, { on := 16, ground := .phase }], guard := none }) rfl (fun K hK => ?_) (AllReadyH.nil)
    have cp := (unhide P4).S
    have cf := (unhide P4).F
    have PM : Hid (BF p #[.int .i64 id, .int .i64 (m : Int), .int .i64 tm, .int .i64 vt, .int .i64 ro, .bool up, E, .int .i64 cm, .int .i64 el, .int .i64 wt, V, .slice (some ⟨gN, 0, none⟩) m m, .slice (some ⟨gM, 0, none⟩) m m] _) := (unhide P4).set 12 (by simp) (.slice (some ⟨gM, 0, none⟩) m m)
    go_simp
    refine hK.out _ _ ?_ (fun hHeld19 => ?_)
    · exact (unhide PM).S 1
    clear hK K
    try simp only [Act.put, List.setIfInBounds_toArray, List.set_cons_zero, List.set_cons_succ]
    refine wpAnyH_done (by kernel_rfl) ?_ _
    clear cp cf
    go_wp2_with fail
    go_end0
    have hp := unhide HPL
    refine ⟨rfl, gN, gM, lN, hN, lM, hM, unhide PM, ?_, ?_, unhide HNL, unhide HML, unhide HAP, ?_, ?_⟩
    · refine Held.setC (unhide N4) ?_ _
      show p < lN; have := unhide HNL; omega
    · refine Held.setC (unhide M4) ?_ _
      show p < lM; have := unhide HML; omega
    · simp only [World.size_setCell]; exact ⟨(unhide N4).le, (unhide M4).le⟩
    · exact outs_set (unhide O4)
set_option maxHeartbeats 4000000 in
set_option maxRecDepth 100000 in
theorem ifollow (p m : Nat) (h1 : 1 ≤ m) (h5 : m ≤ 5) (id tm vt ro cm el wt : Int) (up : Bool) (E V X G : Value) (w : World) (hp : BF p #[.int .i64 id, .int .i64 (m : Int), .int .i64 tm, .int .i64 vt, .int .i64 ro, .bool up, E, .int .i64 cm, .int .i64 el, .int .i64 wt, V, X, G] w) :
    Calls Try.prog 27 #[.pointer (some ⟨p, 0, none⟩)] w fun e w' => e = .returned (.tuple #[]) ∧ ∃ gN gM lN hN lM hM, BF p #[.int .i64 id, .int .i64 (m : Int), .int .i64 tm, .int .i64 vt, .int .i64 0, .bool up, E, .int .i64 cm, .int .i64 el, .int .i64 wt, .slice none 0 0, .slice (some ⟨gN, 0, none⟩) m m, .slice (some ⟨gM, 0, none⟩) m m] w' ∧ Held w' lN hN 3 (.slice (some ⟨gN, 0, none⟩) m m) m (cI (List.replicate m 1)) ∧ Held w' lM hM 3 (.slice (some ⟨gM, 0, none⟩) m m) m (cI (List.replicate m 0)) ∧ w.heap.size ≤ lN ∧ w.heap.size ≤ lM ∧ (hN ≤ lM ∨ hM ≤ lN) ∧ (hN ≤ w'.heap.size ∧ hM ≤ w'.heap.size) ∧ Outs p (p + 1) w w' := by
  have P1 : Hid (BF p #[.int .i64 id, .int .i64 (m : Int), .int .i64 tm, .int .i64 vt, .int .i64 0, .bool up, E, .int .i64 cm, .int .i64 el, .int .i64 wt, V, X, G] _) := hp.set 4 (by simp) (.int .i64 0)
  have P2 : Hid (BF p #[.int .i64 id, .int .i64 (m : Int), .int .i64 tm, .int .i64 vt, .int .i64 0, .bool up, E, .int .i64 cm, .int .i64 el, .int .i64 wt, .slice none 0 0, X, G] _) := (unhide P1).set 10 (by simp) (.slice none 0 0)
  have O2 := hide (outs_set (o := 10) (v := .slice none 0 0) (outs_set (o := 4) (v := .int .i64 0) (show Outs p (p + 1) w w from Outs.of_below (Below.refl _ _))))
  have HS := hide hp.S
  have HF := hide hp.F
  have c4 := hp.S 4
  have f4 := hp.F 4
  have c10 := hp.S 10
  have f10 := hp.F 10
  have cs := hp.S
  have cf := hp.F
  clear hp
  go_enter Try.func27, Try.ntmps27
  go_wp2_with fail
  refine (istart p m 1 h1 h5 id tm vt 0 cm el wt up E (.slice none 0 0) X G _ (unhide P2)).mono ?_
  rintro e w1 ⟨rfl, gN, gM, lN, hN, lM, hM, hP, hNr, hMr, h3, h4, h6, h7, hO⟩
  simp only [World.size_setCell] at h3 h4
  have HP := hide hP
  have HN := hide hNr
  have HM := hide hMr
  have H3 := hide h3
  have H4 := hide h4
  have H6 := hide h6
  have H7 := hide h7
  have HO := hide ((unhide O2).trans hO)
  clear hP hNr hMr h3 h4 h6 h7 hO P1 P2 O2 c4 f4 c10 f10 cs cf
  go_wp2_with fail
  go_end0
  exact ⟨rfl, gN, gM, lN, hN, lM, hM, unhide HP, unhide HN, unhide HM, unhide H3, unhide H4, unhide H6, unhide H7, unhide HO⟩
end Go.Proofs.Ythbkcijkokaoeaa
