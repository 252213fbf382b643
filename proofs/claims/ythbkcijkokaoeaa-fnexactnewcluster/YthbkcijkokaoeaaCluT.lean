/- Rows of stores, of messages in the law's own words: their size, their copies. -/
import Derived.Test.YthbkcijkokaoeaaCluM
import Derived.Test.YthbkcijkokaoeaaMsgL
import Derived.Test.YthbkcijkokaoeaaStoL
import Derived.Deep.Cut
namespace Go.Proofs.Ythbkcijkokaoeaa
open Go.ChangeShapes Go.WideShapes Go.ChangeAt Go.RowKit
set_option linter.unusedVariables false
def zMg : MgA := (⟨0, 0, 0, 0, 0, 0, 0, false, []⟩, none, 0)
def zSt : StA := (⟨#[]⟩, 0)
theorem norows_nil {A : Type} (L : List A) : L.flatMap norows = [] := by induction L with
  | nil => rfl
  | cons p L ih => rw [List.flatMap_cons, ih]; rfl
set_option maxHeartbeats 4000000 in
set_option maxRecDepth 100000 in
theorem eqStores (v1 v2 : Value) (n : Nat) (hn : n ≤ 1048576) (L1 L2 : List StA) (HN1 : Hid (L1.length = n)) (HN2 : Hid (L2.length = n)) (HE : Hid (L1 = L2)) (w : World) (h1 : RRow cSt norows w v1 L1) (h2 : RRow cSt norows w v2 L2) :
    Calls Try.prog 14 #[v1, v2] w fun e w' => e = .returned (.bool true) ∧ Below w.heap.size w w' := by
  obtain ⟨⟨a, cap, rfl, hr1⟩, he1⟩ := h1
  obtain ⟨⟨c, cap2, rfl, hr2⟩, he2⟩ := h2
  have HR1 := hide hr1
  have HR2 := hide hr2
  have HE1 := hide he1
  have HE2 := hide he2
  rw [unhide HN1, unhide HN2]
  have nn : ((n : Int) != (n : Int)) = false := by simp
  clear hr1 hr2 he1 he2
  go_enter Try.func14, Try.ntmps14
  go_wp2_with fail
  go_loopw [5] (fun i wr => ∃ k : Nat, k ≤ n ∧ i = .int .i64 k ∧ Hid (Below w.heap.size w wr)) (fun i _ => n - (intOf i).toNat)
  case atStart => exact ⟨0, by omega, rfl, Below.refl _ _⟩
  case round =>
    obtain ⟨k, hk, rfl, HB⟩ := hrel
    by_cases hlt : k < n
    · have hk1 : k < L1.length := by rw [unhide HN1]; exact hlt
      have hk2 : k < L2.length := by rw [unhide HN2]; exact hlt
      have he : L1[k] = L2[k] := by
        have e := congrArg (fun l => l[k]?) (unhide HE)
        simp only [List.getElem?_eq_getElem hk1, List.getElem?_eq_getElem hk2] at e
        exact Option.some.inj e
      obtain ⟨b, off, rfl, hblt, hc1⟩ := (unhide HR1).at (by rw [flat_len (c := cSt) (z := 2) (fun p => rfl) L1]; omega)
      obtain ⟨bd, og, rfl, hdlt, hc2⟩ := (unhide HR2).at (by rw [flat_len (c := cSt) (z := 2) (fun p => rfl) L2]; omega)
      have m1 := (row_S2 hc1 k hk1).below (unhide HB) hblt
      have m2 := (row_S2 hc2 k hk2).below (unhide HB) hdlt
      generalize L1[k] = p1 at he m1
      generalize L2[k] = p2 at he m2
      obtain ⟨d, s⟩ := p1
      obtain ⟨g2, s2⟩ := p2
      obtain ⟨rfl, rfl⟩ := Prod.mk.inj he
      unfold S2 at m1 m2
      simp only [] at m1 m2
      have hblt := Nat.lt_of_lt_of_le hblt (unhide HB).size
      have hdlt := Nat.lt_of_lt_of_le hdlt (unhide HB).size
      have i1 : (k : Int) < (n : Int) := by omega
      have i0 : (0 : Int) ≤ (k : Int) := by omega
      have K0 := And.intro m1 m2
      have TD : Hid (Below wr.heap.size wr wr.drew) := (Below.refl _ _).drew
      have KD : Hid (S2 wr b (off + k * 2) ((d, s) : StA) ∧ S2 wr bd (og + k * 2) ((d, s) : StA)) := by
        show _ ∧ _; unfold S2; simp only []; exact ⟨m1, m2⟩
      clear hc1 hc2 hk1 hk2  m1 m2
      go_wp2_with fail
      refine wp_region_held_drew (S := fun w' => (w'.cell? ⟨b, off + k * 2, none⟩ = some (.string d) ∧ w'.cell? ⟨b, off + k * 2 + 1, none⟩ = some (.int .i64 s)) ∧ (w'.cell? ⟨bd, og + k * 2, none⟩ = some (.string d) ∧ w'.cell? ⟨bd, og + k * 2 + 1, none⟩ = some (.int .i64 s))) (by kernel_rfl) K0 (fun hHeld => ?_)
      generalize wr.drew = wd at TD KD hHeld ⊢
      refine wpAnyH_take (i := 0) (oi := { dst := some 17, op := .move (.tmp 0), type := 23, pos := "exact.go:2004", after := #[], guard := none }) (v := ?_) rfl (by kernel_rfl) (by kernel_rfl) (by kernel_rfl) (fun _ _ _ h => h) (Or.inl ⟨by rfl, ?_⟩) (by assumption) ?_
      rotate_left 1
      · (intro w' hSw; (try dsimp only at hSw); go_simp; try with_reducible rfl)
      try simp only [Act.put, List.setIfInBounds_toArray, List.set_cons_zero, List.set_cons_succ]
      refine wpAnyH_take (i := 1) (oi := { dst := some 18, op := .move (.tmp 5), type := 3, pos := "exact.go:2004", after := #[], guard := none }) (v := ?_) rfl (by kernel_rfl) (by kernel_rfl) (by kernel_rfl) (fun _ _ _ h => h) (Or.inl ⟨by rfl, ?_⟩) (by assumption) ?_
      rotate_left 1
      · (intro w' hSw; (try dsimp only at hSw); go_simp; try with_reducible rfl)
      try simp only [Act.put, List.setIfInBounds_toArray, List.set_cons_zero, List.set_cons_succ]
      refine wpAnyH_take (i := 2) (oi := { dst := some 19, op := .indexAddr 23 (.tmp 17) (.tmp 18), type := 0, pos := "exact.go:2004", after := #[{ on := 0, ground := .data }, { on := 1, ground := .data }], guard := none }) (v := ?_) rfl (by kernel_rfl) (by kernel_rfl) (by kernel_rfl) (fun _ _ _ h => h) (Or.inl ⟨by rfl, ?_⟩) (by assumption) ?_
      rotate_left 1
      · (intro w' hSw; (try dsimp only at hSw); go_simp; try with_reducible rfl)
      try simp only [Act.put, List.setIfInBounds_toArray, List.set_cons_zero, List.set_cons_succ]
      refine wpAnyH_take (i := 3) (oi := { dst := some 20, op := .load 53 (.tmp 19), type := 53, pos := "exact.go:2004", after := #[{ on := 2, ground := .data }], guard := none }) (v := ?_) rfl (by kernel_rfl) (by kernel_rfl) (by kernel_rfl) (fun _ _ _ h => h) (Or.inl ⟨by rfl, ?_⟩) (by assumption) ?_
      rotate_left 1
      · (intro w' hSw; (try dsimp only at hSw); go_simp; try with_reducible rfl)
      try simp only [Act.put, List.setIfInBounds_toArray, List.set_cons_zero, List.set_cons_succ]
      refine wpAnyH_take (i := 4) (oi := { dst := some 21, op := .move (.tmp 1), type := 23, pos := "exact.go:2004", after := #[], guard := none }) (v := ?_) rfl (by kernel_rfl) (by kernel_rfl) (by kernel_rfl) (fun _ _ _ h => h) (Or.inl ⟨by rfl, ?_⟩) (by assumption) ?_
      rotate_left 1
      · (intro w' hSw; (try dsimp only at hSw); go_simp; try with_reducible rfl)
      try simp only [Act.put, List.setIfInBounds_toArray, List.set_cons_zero, List.set_cons_succ]
      refine wpAnyH_take (i := 5) (oi := { dst := some 22, op := .move (.tmp 5), type := 3, pos := "exact.go:2004", after := #[], guard := none }) (v := ?_) rfl (by kernel_rfl) (by kernel_rfl) (by kernel_rfl) (fun _ _ _ h => h) (Or.inl ⟨by rfl, ?_⟩) (by assumption) ?_
      rotate_left 1
      · (intro w' hSw; (try dsimp only at hSw); go_simp; try with_reducible rfl)
      try simp only [Act.put, List.setIfInBounds_toArray, List.set_cons_zero, List.set_cons_succ]
      refine wpAnyH_take (i := 6) (oi := { dst := some 23, op := .indexAddr 23 (.tmp 21) (.tmp 22), type := 0, pos := "exact.go:2004", after := #[{ on := 4, ground := .data }, { on := 5, ground := .data }], guard := none }) (v := ?_) rfl (by kernel_rfl) (by kernel_rfl) (by kernel_rfl) (fun _ _ _ h => h) (Or.inl ⟨by rfl, ?_⟩) (by assumption) ?_
      rotate_left 1
      · (intro w' hSw; (try dsimp only at hSw); go_simp; try with_reducible rfl)
      try simp only [Act.put, List.setIfInBounds_toArray, List.set_cons_zero, List.set_cons_succ]
      refine wpAnyH_take (i := 7) (oi := { dst := some 24, op := .load 53 (.tmp 23), type := 53, pos := "exact.go:2004", after := #[{ on := 6, ground := .data }], guard := none }) (v := ?_) rfl (by kernel_rfl) (by kernel_rfl) (by kernel_rfl) (fun _ _ _ h => h) (Or.inl ⟨by rfl, ?_⟩) (by assumption) ?_
      rotate_left 1
      · (intro w' hSw; (try dsimp only at hSw); go_simp; try with_reducible rfl)
      try simp only [Act.put, List.setIfInBounds_toArray, List.set_cons_zero, List.set_cons_succ]
      refine wpAnyH_ready (rs := [8]) (by kernel_rfl) (by simp) ?_
      refine AllReadyH.cons (o := { dst := some 25, op := .call { callee := .value (.func 29), args := #[.tmp 20, .tmp 24], argTypes := #[53, 53] }, type := 4, pos := "exact.go:2004", after := #[{ on := 3, ground := .data }, { on := 7, ground := .data }], guard := none }) rfl (fun K hK => ?_) AllReadyH.nil
      go_simp
      refine (eqStore d s _).mono ?_
      rintro e w2 ⟨rfl, hb2⟩
      have T2 := hide ((unhide TD).trans (hb2.mono (unhide TD).size))
      have K2q := And.intro ((unhide KD).1.below (unhide T2) hblt) ((unhide KD).2.below (unhide T2) hdlt)
      unfold S2 at K2q
      simp only at K2q
      have K2 := hide K2q
      clear K2q
      clear hb2
      go_wp2_with fail
      refine hK.out _ _ ?_ (fun hHeld8 => ?_)
      · exact unhide K2
      clear hK K
      try simp only [Act.put, List.setIfInBounds_toArray, List.set_cons_zero, List.set_cons_succ]
      refine wpAnyH_take (i := 9) (oi := { dst := some 26, op := .unOp .not 4 (.tmp 25), type := 4, pos := "exact.go:2004", after := #[{ on := 8, ground := .data }], guard := none }) (v := ?_) rfl (by kernel_rfl) (by kernel_rfl) (by kernel_rfl) (fun _ _ _ h => h) (Or.inl ⟨by rfl, ?_⟩) (by assumption) ?_
      rotate_left 1
      · (intro w' hSw; (try dsimp only at hSw); go_simp; try with_reducible rfl)
      try simp only [Act.put, List.setIfInBounds_toArray, List.set_cons_zero, List.set_cons_succ]
      refine wpAnyH_done (by kernel_rfl) ?_ _
      have B2 := hide ((unhide HB).trans ((unhide T2).mono (unhide HB).size))
      clear K0 TD KD K2 T2 HB hHeld hHeld8
      go_wp2_with fail
      go_roundw
      case rel => exact ⟨k + 1, by omega, by go_num, B2⟩
      case measure => simp [intOf]; omega
    · obtain rfl : k = n := by omega
      go_wp2_with fail
      go_ret
      exact ⟨rfl, unhide HB⟩
end Go.Proofs.Ythbkcijkokaoeaa
