/- Rows of messages in the law's own words: two that are alike. -/
import Derived.Test.YthbkcijkokaoeaaMgM
import Derived.Test.YthbkcijkokaoeaaMsgL
import Derived.Deep.Cut
namespace Go.Proofs.Ythbkcijkokaoeaa
open Go.ChangeShapes Go.WideShapes Go.ChangeAt Go.RowKit
set_option linter.unusedVariables false
set_option maxHeartbeats 4000000 in
set_option maxRecDepth 100000 in
theorem eqMsgs (v1 v2 : Value) (n : Nat) (hn : n ≤ 1048576) (L1 L2 : List MgA) (HN1 : Hid (L1.length = n)) (HN2 : Hid (L2.length = n)) (HE : Hid (L1.map (·.1) = L2.map (·.1))) (HLE : Hid (∀ p ∈ L1, p.1.es.length ≤ 1048576)) (w : World) (h1 : MRow w v1 L1) (h2 : MRow w v2 L2) :
    Calls Try.prog 15 #[v1, v2] w fun e w' => e = .returned (.bool true) ∧ Below w.heap.size w w' := by
  obtain ⟨⟨a, cap, rfl, hr1⟩, he1⟩ := h1
  obtain ⟨⟨c, cap2, rfl, hr2⟩, he2⟩ := h2
  have HR1 := hide hr1
  have HR2 := hide hr2
  have HE1 := hide he1
  have HE2 := hide he2
  rw [unhide HN1, unhide HN2]
  have nn : ((n : Int) != (n : Int)) = false := by simp
  clear hr1 hr2 he1 he2
  go_enter Try.func15, Try.ntmps15
  go_wp2_with fail
  go_loopw [5] (fun i wr => ∃ k : Nat, k ≤ n ∧ i = .int .i64 k ∧ Hid (Below w.heap.size w wr)) (fun i _ => n - (intOf i).toNat)
  case atStart => exact ⟨0, by omega, rfl, Below.refl _ _⟩
  case round =>
    obtain ⟨k, hk, rfl, HB⟩ := hrel
    by_cases hlt : k < n
    · have hk1 : k < L1.length := by rw [unhide HN1]; exact hlt
      have hk2 : k < L2.length := by rw [unhide HN2]; exact hlt
      have he : L1[k].1 = L2[k].1 := by
        have e := congrArg (fun l => l[k]?) (unhide HE)
        simp only [List.getElem?_map, List.getElem?_eq_getElem hk1, List.getElem?_eq_getElem hk2] at e
        exact Option.some.inj e
      obtain ⟨b, off, rfl, hblt, hc1⟩ := (unhide HR1).at (by rw [cMs_len]; omega)
      obtain ⟨d, og, rfl, hdlt, hc2⟩ := (unhide HR2).at (by rw [cMs_len]; omega)
      have m1 := (row_msg hc1 k hk1).below (unhide HB) hblt
      have m2 := (row_msg hc2 k hk2).below (unhide HB) hdlt
      have r1 := (unhide HE1 _ (List.getElem_mem hk1)).below (unhide HB)
      have r2 := (unhide HE2 _ (List.getElem_mem hk2)).below (unhide HB)
      have hne := unhide HLE _ (List.getElem_mem hk1)
      generalize L1[k] = p1 at he m1 r1 hne
      generalize L2[k] = p2 at he m2 r2
      obtain ⟨⟨kd, fr, dst, tm, ix, lt, cm, ok, es⟩, a1, c1⟩ := p1
      obtain ⟨g2, a2, c2⟩ := p2
      simp only at he
      subst he
      obtain ⟨ne, hnn⟩ : ∃ ne, es.length = ne := ⟨_, rfl⟩
      unfold M9 at m1 m2
      simp only [hnn] at m1 m2 hne
      have HNE := hide hnn
      have E1 := hide r1
      have E2 := hide r2
      have hblt := Nat.lt_of_lt_of_le hblt (unhide HB).size
      have hdlt := Nat.lt_of_lt_of_le hdlt (unhide HB).size
      have i1 : (k : Int) < (n : Int) := by omega
      have i0 : (0 : Int) ≤ (k : Int) := by omega
      have K0 := And.intro m1 m2
      have TD : Hid (Below wr.heap.size wr wr.drew) := (Below.refl _ _).drew
      have KD : Hid (M9 wr b (off + k * 9) (⟨kd, fr, dst, tm, ix, lt, cm, ok, es⟩, a1, c1) ∧ M9 wr d (og + k * 9) (⟨kd, fr, dst, tm, ix, lt, cm, ok, es⟩, a2, c2)) := by
        show _ ∧ _; unfold M9; simp only [hnn]; exact ⟨m1, m2⟩
      clear hc1 hc2 hk1 hk2 hnn r1 r2 m1 m2
      go_wp2_with fail
      refine wp_region_held_drew (S := fun w' => (w'.cell? ⟨b, off + k * 9, none⟩ = some (.int .i64 kd) ∧ w'.cell? ⟨b, off + k * 9 + 1, none⟩ = some (.int .i64 fr) ∧ w'.cell? ⟨b, off + k * 9 + 2, none⟩ = some (.int .i64 dst) ∧ w'.cell? ⟨b, off + k * 9 + 3, none⟩ = some (.int .i64 tm) ∧ w'.cell? ⟨b, off + k * 9 + 4, none⟩ = some (.int .i64 ix) ∧ w'.cell? ⟨b, off + k * 9 + 5, none⟩ = some (.int .i64 lt) ∧ w'.cell? ⟨b, off + k * 9 + 6, none⟩ = some (.int .i64 cm) ∧ w'.cell? ⟨b, off + k * 9 + 7, none⟩ = some (.bool ok) ∧ w'.cell? ⟨b, off + k * 9 + 8, none⟩ = some (.slice a1 ne c1)) ∧ (w'.cell? ⟨d, og + k * 9, none⟩ = some (.int .i64 kd) ∧ w'.cell? ⟨d, og + k * 9 + 1, none⟩ = some (.int .i64 fr) ∧ w'.cell? ⟨d, og + k * 9 + 2, none⟩ = some (.int .i64 dst) ∧ w'.cell? ⟨d, og + k * 9 + 3, none⟩ = some (.int .i64 tm) ∧ w'.cell? ⟨d, og + k * 9 + 4, none⟩ = some (.int .i64 ix) ∧ w'.cell? ⟨d, og + k * 9 + 5, none⟩ = some (.int .i64 lt) ∧ w'.cell? ⟨d, og + k * 9 + 6, none⟩ = some (.int .i64 cm) ∧ w'.cell? ⟨d, og + k * 9 + 7, none⟩ = some (.bool ok) ∧ w'.cell? ⟨d, og + k * 9 + 8, none⟩ = some (.slice a2 ne c2))) (by kernel_rfl) K0 (fun hHeld => ?_)
      generalize wr.drew = wd at TD KD hHeld ⊢
      refine wpAnyH_take (i := 0) (oi := { dst := some 17, op := .move (.tmp 0), type := 24, pos := "exact.go:1902", after := #[], guard := none }) (v := ?_) rfl (by kernel_rfl) (by kernel_rfl) (by kernel_rfl) (fun _ _ _ h => h) (Or.inl ⟨by rfl, ?_⟩) (by assumption) ?_
      rotate_left 1
      · (intro w' hSw; (try dsimp only at hSw); go_simp; try with_reducible rfl)
      try simp only [Act.put, List.setIfInBounds_toArray, List.set_cons_zero, List.set_cons_succ]
      refine wpAnyH_take (i := 1) (oi := { dst := some 18, op := .move (.tmp 5), type := 3, pos := "exact.go:1902", after := #[], guard := none }) (v := ?_) rfl (by kernel_rfl) (by kernel_rfl) (by kernel_rfl) (fun _ _ _ h => h) (Or.inl ⟨by rfl, ?_⟩) (by assumption) ?_
      rotate_left 1
      · (intro w' hSw; (try dsimp only at hSw); go_simp; try with_reducible rfl)
      try simp only [Act.put, List.setIfInBounds_toArray, List.set_cons_zero, List.set_cons_succ]
      refine wpAnyH_take (i := 2) (oi := { dst := some 19, op := .indexAddr 24 (.tmp 17) (.tmp 18), type := 0, pos := "exact.go:1902", after := #[{ on := 0, ground := .data }, { on := 1, ground := .data }], guard := none }) (v := ?_) rfl (by kernel_rfl) (by kernel_rfl) (by kernel_rfl) (fun _ _ _ h => h) (Or.inl ⟨by rfl, ?_⟩) (by assumption) ?_
      rotate_left 1
      · (intro w' hSw; (try dsimp only at hSw); go_simp; try with_reducible rfl)
      try simp only [Act.put, List.setIfInBounds_toArray, List.set_cons_zero, List.set_cons_succ]
      refine wpAnyH_take (i := 3) (oi := { dst := some 20, op := .load 58 (.tmp 19), type := 58, pos := "exact.go:1902", after := #[{ on := 2, ground := .data }], guard := none }) (v := ?_) rfl (by kernel_rfl) (by kernel_rfl) (by kernel_rfl) (fun _ _ _ h => h) (Or.inl ⟨by rfl, ?_⟩) (by assumption) ?_
      rotate_left 1
      · (intro w' hSw; (try dsimp only at hSw); go_simp; try with_reducible rfl)
      try simp only [Act.put, List.setIfInBounds_toArray, List.set_cons_zero, List.set_cons_succ]
      refine wpAnyH_take (i := 4) (oi := { dst := some 21, op := .move (.tmp 1), type := 24, pos := "exact.go:1902", after := #[], guard := none }) (v := ?_) rfl (by kernel_rfl) (by kernel_rfl) (by kernel_rfl) (fun _ _ _ h => h) (Or.inl ⟨by rfl, ?_⟩) (by assumption) ?_
      rotate_left 1
      · (intro w' hSw; (try dsimp only at hSw); go_simp; try with_reducible rfl)
      try simp only [Act.put, List.setIfInBounds_toArray, List.set_cons_zero, List.set_cons_succ]
      refine wpAnyH_take (i := 5) (oi := { dst := some 22, op := .move (.tmp 5), type := 3, pos := "exact.go:1902", after := #[], guard := none }) (v := ?_) rfl (by kernel_rfl) (by kernel_rfl) (by kernel_rfl) (fun _ _ _ h => h) (Or.inl ⟨by rfl, ?_⟩) (by assumption) ?_
      rotate_left 1
      · (intro w' hSw; (try dsimp only at hSw); go_simp; try with_reducible rfl)
      try simp only [Act.put, List.setIfInBounds_toArray, List.set_cons_zero, List.set_cons_succ]
      refine wpAnyH_take (i := 6) (oi := { dst := some 23, op := .indexAddr 24 (.tmp 21) (.tmp 22), type := 0, pos := "exact.go:1902", after := #[{ on := 4, ground := .data }, { on := 5, ground := .data }], guard := none }) (v := ?_) rfl (by kernel_rfl) (by kernel_rfl) (by kernel_rfl) (fun _ _ _ h => h) (Or.inl ⟨by rfl, ?_⟩) (by assumption) ?_
      rotate_left 1
      · (intro w' hSw; (try dsimp only at hSw); go_simp; try with_reducible rfl)
      try simp only [Act.put, List.setIfInBounds_toArray, List.set_cons_zero, List.set_cons_succ]
      refine wpAnyH_take (i := 7) (oi := { dst := some 24, op := .load 58 (.tmp 23), type := 58, pos := "exact.go:1902", after := #[{ on := 6, ground := .data }], guard := none }) (v := ?_) rfl (by kernel_rfl) (by kernel_rfl) (by kernel_rfl) (fun _ _ _ h => h) (Or.inl ⟨by rfl, ?_⟩) (by assumption) ?_
      rotate_left 1
      · (intro w' hSw; (try dsimp only at hSw); go_simp; try with_reducible rfl)
      try simp only [Act.put, List.setIfInBounds_toArray, List.set_cons_zero, List.set_cons_succ]
      refine wpAnyH_ready (rs := [8]) (by kernel_rfl) (by simp) ?_
      refine AllReadyH.cons (o := { dst := some 25, op := .call { callee := .value (.func 30), args := #[.tmp 20, .tmp 24], argTypes := #[58, 58] }, type := 4, pos := "exact.go:1902", after := #[{ on := 3, ground := .data }, { on := 7, ground := .data }], guard := none }) rfl (fun K hK => ?_) AllReadyH.nil
      go_simp
      refine (eqMsg kd fr dst tm ix lt cm ok a1 a2 c1 c2 ne es HNE hne _ ((unhide E1).below (unhide TD)) ((unhide E2).below (unhide TD))).mono ?_
      rintro e w2 ⟨rfl, hb2⟩
      have T2 := hide ((unhide TD).trans (hb2.mono (unhide TD).size))
      have K2q := And.intro ((unhide KD).1.below (unhide T2) hblt) ((unhide KD).2.below (unhide T2) hdlt)
      unfold M9 at K2q
      simp only [show es.length = ne from unhide HNE] at K2q
      have K2 := hide K2q
      clear K2q
      clear hb2
      go_wp2_with fail
      refine hK.out _ _ ?_ (fun hHeld8 => ?_)
      · exact unhide K2
      clear hK K
      try simp only [Act.put, List.setIfInBounds_toArray, List.set_cons_zero, List.set_cons_succ]
      refine wpAnyH_take (i := 9) (oi := { dst := some 26, op := .unOp .not 4 (.tmp 25), type := 4, pos := "exact.go:1902", after := #[{ on := 8, ground := .data }], guard := none }) (v := ?_) rfl (by kernel_rfl) (by kernel_rfl) (by kernel_rfl) (fun _ _ _ h => h) (Or.inl ⟨by rfl, ?_⟩) (by assumption) ?_
      rotate_left 1
      · (intro w' hSw; (try dsimp only at hSw); go_simp; try with_reducible rfl)
      try simp only [Act.put, List.setIfInBounds_toArray, List.set_cons_zero, List.set_cons_succ]
      refine wpAnyH_done (by kernel_rfl) ?_ _
      have B2 := hide ((unhide HB).trans ((unhide T2).mono (unhide HB).size))
      clear K0 TD KD K2 T2 HB hHeld hHeld8
      go_wp2_with fail
      go_roundw
      case rel => exact ⟨k + 1, by omega, by go_num, B2⟩
      case measure => simp [intOf]; omega
    · obtain rfl : k = n := by omega
      go_wp2_with fail
      go_ret
      exact ⟨rfl, unhide HB⟩
end Go.Proofs.Ythbkcijkokaoeaa
