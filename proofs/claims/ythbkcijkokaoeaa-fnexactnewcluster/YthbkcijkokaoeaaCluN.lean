/- Rows of nodes in the law's own words: their size, their copies. -/
import Derived.Test.YthbkcijkokaoeaaCluM
import Derived.Test.YthbkcijkokaoeaaNdL
import Derived.Deep.Cut
namespace Go.Proofs.Ythbkcijkokaoeaa
open Go.ChangeShapes Go.WideShapes Go.ChangeAt Go.RowKit
set_option linter.unusedVariables false
def zNd : NdA := ⟨nfZ, none, 0, none, 0, none, 0, none, 0⟩
set_option maxHeartbeats 4000000 in
set_option maxRecDepth 100000 in
theorem eqNodes (v1 v2 : Value) (n : Nat) (hn : n ≤ 1048576) (L1 L2 : List NdA) (HN1 : Hid (L1.length = n)) (HN2 : Hid (L2.length = n)) (HE : Hid (L1.map (·.n) = L2.map (·.n))) (HLE : Hid (∀ p ∈ L1, NdA.fits 1048576 p)) (w : World) (h1 : RRow cN nrows w v1 L1) (h2 : RRow cN nrows w v2 L2) :
    Calls Try.prog 13 #[v1, v2] w fun e w' => e = .returned (.bool true) ∧ Below w.heap.size w w' := by
  obtain ⟨⟨a, cap, rfl, hr1⟩, he1⟩ := h1
  obtain ⟨⟨c, cap2, rfl, hr2⟩, he2⟩ := h2
  have HR1 := hide hr1
  have HR2 := hide hr2
  have HE1 := hide he1
  have HE2 := hide he2
  rw [unhide HN1, unhide HN2]
  have nn : ((n : Int) != (n : Int)) = false := by simp
  clear hr1 hr2 he1 he2
  go_enter Try.func13, Try.ntmps13
  go_wp2_with fail
  go_loopw [5] (fun i wr => ∃ k : Nat, k ≤ n ∧ i = .int .i64 k ∧ Hid (Below w.heap.size w wr)) (fun i _ => n - (intOf i).toNat)
  case atStart => exact ⟨0, by omega, rfl, Below.refl _ _⟩
  case round =>
    obtain ⟨k, hk, rfl, HB⟩ := hrel
    by_cases hlt : k < n
    · have hk1 : k < L1.length := by rw [unhide HN1]; exact hlt
      have hk2 : k < L2.length := by rw [unhide HN2]; exact hlt
      have he : L1[k].n = L2[k].n := by
        have e := congrArg (fun l => l[k]?) (unhide HE)
        simp only [List.getElem?_map, List.getElem?_eq_getElem hk1, List.getElem?_eq_getElem hk2] at e
        exact Option.some.inj e
      obtain ⟨b, off, rfl, hblt, hc1⟩ := (unhide HR1).at (by rw [flat_len (c := cN) (z := 13) (fun p => rfl) L1]; omega)
      obtain ⟨bd, og, rfl, hdlt, hc2⟩ := (unhide HR2).at (by rw [flat_len (c := cN) (z := 13) (fun p => rfl) L2]; omega)
      have m1 := (row_N13 hc1 k hk1).below (unhide HB) hblt
      have m2 := (row_N13 hc2 k hk2).below (unhide HB) hdlt
      have r1 := nd_rows (fun r hr => (unhide HE1 _ (List.getElem_mem hk1) r hr).below (unhide HB))
      have r2 := nd_rows (fun r hr => (unhide HE2 _ (List.getElem_mem hk2) r hr).below (unhide HB))
      have hne := unhide HLE _ (List.getElem_mem hk1)
      generalize L1[k] = p1 at he m1 r1 hne
      generalize L2[k] = p2 at he m2 r2
      obtain ⟨⟨id, nd, tm, vt, ro, up, l, cm, el, wt, lv, lx, lg⟩, ea1, ec1, va1, vc1, xa1, xc1, ga1, gc1⟩ := p1
      obtain ⟨g2, ea2, ec2, va2, vc2, xa2, xc2, ga2, gc2⟩ := p2
      simp only at he
      subst he
      obtain ⟨n0, hnn0⟩ : ∃ n0, l.length = n0 := ⟨_, rfl⟩
      obtain ⟨nv, hnnv⟩ : ∃ nv, lv.length = nv := ⟨_, rfl⟩
      obtain ⟨nx, hnnx⟩ : ∃ nx, lx.length = nx := ⟨_, rfl⟩
      obtain ⟨ng, hnng⟩ : ∃ ng, lg.length = ng := ⟨_, rfl⟩
      unfold N13 at m1 m2
      simp only [hnn0, hnnv, hnnx, hnng] at m1 m2
      have HN0 : Hid (l.length = n0) := hnn0
      have HNv : Hid (lv.length = nv) := hnnv
      have HNx : Hid (lx.length = nx) := hnnx
      have HNg : Hid (lg.length = ng) := hnng
      obtain ⟨f0, fv, fx, fg, fs⟩ := hne
      rw [hnn0] at f0; rw [hnnv] at fv; rw [hnnx] at fx; rw [hnng] at fg
      have E10 := hide r1.1
      have E1v := hide r1.2.1
      have E1x := hide r1.2.2.1
      have E1g := hide r1.2.2.2
      have E20 := hide r2.1
      have E2v := hide r2.2.1
      have E2x := hide r2.2.2.1
      have E2g := hide r2.2.2.2
      have hblt := Nat.lt_of_lt_of_le hblt (unhide HB).size
      have hdlt := Nat.lt_of_lt_of_le hdlt (unhide HB).size
      have i1 : (k : Int) < (n : Int) := by omega
      have i0 : (0 : Int) ≤ (k : Int) := by omega
      have K0 := And.intro m1 m2
      have TD : Hid (Below wr.heap.size wr wr.drew) := (Below.refl _ _).drew
      have KD : Hid (N13 wr b (off + k * 13) (⟨⟨id, nd, tm, vt, ro, up, l, cm, el, wt, lv, lx, lg⟩, ea1, ec1, va1, vc1, xa1, xc1, ga1, gc1⟩ : NdA) ∧ N13 wr bd (og + k * 13) (⟨⟨id, nd, tm, vt, ro, up, l, cm, el, wt, lv, lx, lg⟩, ea2, ec2, va2, vc2, xa2, xc2, ga2, gc2⟩ : NdA)) := by
        show _ ∧ _; unfold N13; simp only [hnn0, hnnv, hnnx, hnng]; exact ⟨m1, m2⟩
      clear hc1 hc2 hk1 hk2 hnn0 hnnv hnnx hnng r1 r2 m1 m2
      go_wp2_with fail
      refine wp_region_held_drew (S := fun w' => (w'.cell? ⟨b, off + k * 13, none⟩ = some (.int .i64 id) ∧ w'.cell? ⟨b, off + k * 13 + 1, none⟩ = some (.int .i64 nd) ∧ w'.cell? ⟨b, off + k * 13 + 2, none⟩ = some (.int .i64 tm) ∧ w'.cell? ⟨b, off + k * 13 + 3, none⟩ = some (.int .i64 vt) ∧ w'.cell? ⟨b, off + k * 13 + 4, none⟩ = some (.int .i64 ro) ∧ w'.cell? ⟨b, off + k * 13 + 5, none⟩ = some (.bool up) ∧ w'.cell? ⟨b, off + k * 13 + 6, none⟩ = some (.slice ea1 n0 ec1) ∧ w'.cell? ⟨b, off + k * 13 + 7, none⟩ = some (.int .i64 cm) ∧ w'.cell? ⟨b, off + k * 13 + 8, none⟩ = some (.int .i64 el) ∧ w'.cell? ⟨b, off + k * 13 + 9, none⟩ = some (.int .i64 wt) ∧ w'.cell? ⟨b, off + k * 13 + 10, none⟩ = some (.slice va1 nv vc1) ∧ w'.cell? ⟨b, off + k * 13 + 11, none⟩ = some (.slice xa1 nx xc1) ∧ w'.cell? ⟨b, off + k * 13 + 12, none⟩ = some (.slice ga1 ng gc1)) ∧ (w'.cell? ⟨bd, og + k * 13, none⟩ = some (.int .i64 id) ∧ w'.cell? ⟨bd, og + k * 13 + 1, none⟩ = some (.int .i64 nd) ∧ w'.cell? ⟨bd, og + k * 13 + 2, none⟩ = some (.int .i64 tm) ∧ w'.cell? ⟨bd, og + k * 13 + 3, none⟩ = some (.int .i64 vt) ∧ w'.cell? ⟨bd, og + k * 13 + 4, none⟩ = some (.int .i64 ro) ∧ w'.cell? ⟨bd, og + k * 13 + 5, none⟩ = some (.bool up) ∧ w'.cell? ⟨bd, og + k * 13 + 6, none⟩ = some (.slice ea2 n0 ec2) ∧ w'.cell? ⟨bd, og + k * 13 + 7, none⟩ = some (.int .i64 cm) ∧ w'.cell? ⟨bd, og + k * 13 + 8, none⟩ = some (.int .i64 el) ∧ w'.cell? ⟨bd, og + k * 13 + 9, none⟩ = some (.int .i64 wt) ∧ w'.cell? ⟨bd, og + k * 13 + 10, none⟩ = some (.slice va2 nv vc2) ∧ w'.cell? ⟨bd, og + k * 13 + 11, none⟩ = some (.slice xa2 nx xc2) ∧ w'.cell? ⟨bd, og + k * 13 + 12, none⟩ = some (.slice ga2 ng gc2))) (by kernel_rfl) K0 (fun hHeld => ?_)
      generalize wr.drew = wd at TD KD hHeld ⊢
      refine wpAnyH_take (i := 0) (oi := { dst := some 17, op := .move (.tmp 0), type := 22, pos := "exact.go:1992", after := #[], guard := none }) (v := ?_) rfl (by kernel_rfl) (by kernel_rfl) (by kernel_rfl) (fun _ _ _ h => h) (Or.inl ⟨by rfl, ?_⟩) (by assumption) ?_
      rotate_left 1
      · (intro w' hSw; (try dsimp only at hSw); go_simp; try with_reducible rfl)
      try simp only [Act.put, List.setIfInBounds_toArray, List.set_cons_zero, List.set_cons_succ]
      refine wpAnyH_take (i := 1) (oi := { dst := some 18, op := .move (.tmp 5), type := 3, pos := "exact.go:1992", after := #[], guard := none }) (v := ?_) rfl (by kernel_rfl) (by kernel_rfl) (by kernel_rfl) (fun _ _ _ h => h) (Or.inl ⟨by rfl, ?_⟩) (by assumption) ?_
      rotate_left 1
      · (intro w' hSw; (try dsimp only at hSw); go_simp; try with_reducible rfl)
      try simp only [Act.put, List.setIfInBounds_toArray, List.set_cons_zero, List.set_cons_succ]
      refine wpAnyH_take (i := 2) (oi := { dst := some 19, op := .indexAddr 22 (.tmp 17) (.tmp 18), type := 0, pos := "exact.go:1992", after := #[{ on := 0, ground := .data }, { on := 1, ground := .data }], guard := none }) (v := ?_) rfl (by kernel_rfl) (by kernel_rfl) (by kernel_rfl) (fun _ _ _ h => h) (Or.inl ⟨by rfl, ?_⟩) (by assumption) ?_
      rotate_left 1
      · (intro w' hSw; (try dsimp only at hSw); go_simp; try with_reducible rfl)
      try simp only [Act.put, List.setIfInBounds_toArray, List.set_cons_zero, List.set_cons_succ]
      refine wpAnyH_take (i := 3) (oi := { dst := some 20, op := .load 38 (.tmp 19), type := 38, pos := "exact.go:1992", after := #[{ on := 2, ground := .data }], guard := none }) (v := ?_) rfl (by kernel_rfl) (by kernel_rfl) (by kernel_rfl) (fun _ _ _ h => h) (Or.inl ⟨by rfl, ?_⟩) (by assumption) ?_
      rotate_left 1
      · (intro w' hSw; (try dsimp only at hSw); go_simp; try with_reducible rfl)
      try simp only [Act.put, List.setIfInBounds_toArray, List.set_cons_zero, List.set_cons_succ]
      refine wpAnyH_take (i := 4) (oi := { dst := some 21, op := .move (.tmp 1), type := 22, pos := "exact.go:1992", after := #[], guard := none }) (v := ?_) rfl (by kernel_rfl) (by kernel_rfl) (by kernel_rfl) (fun _ _ _ h => h) (Or.inl ⟨by rfl, ?_⟩) (by assumption) ?_
      rotate_left 1
      · (intro w' hSw; (try dsimp only at hSw); go_simp; try with_reducible rfl)
      try simp only [Act.put, List.setIfInBounds_toArray, List.set_cons_zero, List.set_cons_succ]
      refine wpAnyH_take (i := 5) (oi := { dst := some 22, op := .move (.tmp 5), type := 3, pos := "exact.go:1992", after := #[], guard := none }) (v := ?_) rfl (by kernel_rfl) (by kernel_rfl) (by kernel_rfl) (fun _ _ _ h => h) (Or.inl ⟨by rfl, ?_⟩) (by assumption) ?_
      rotate_left 1
      · (intro w' hSw; (try dsimp only at hSw); go_simp; try with_reducible rfl)
      try simp only [Act.put, List.setIfInBounds_toArray, List.set_cons_zero, List.set_cons_succ]
      refine wpAnyH_take (i := 6) (oi := { dst := some 23, op := .indexAddr 22 (.tmp 21) (.tmp 22), type := 0, pos := "exact.go:1992", after := #[{ on := 4, ground := .data }, { on := 5, ground := .data }], guard := none }) (v := ?_) rfl (by kernel_rfl) (by kernel_rfl) (by kernel_rfl) (fun _ _ _ h => h) (Or.inl ⟨by rfl, ?_⟩) (by assumption) ?_
      rotate_left 1
      · (intro w' hSw; (try dsimp only at hSw); go_simp; try with_reducible rfl)
      try simp only [Act.put, List.setIfInBounds_toArray, List.set_cons_zero, List.set_cons_succ]
      refine wpAnyH_take (i := 7) (oi := { dst := some 24, op := .load 38 (.tmp 23), type := 38, pos := "exact.go:1992", after := #[{ on := 6, ground := .data }], guard := none }) (v := ?_) rfl (by kernel_rfl) (by kernel_rfl) (by kernel_rfl) (fun _ _ _ h => h) (Or.inl ⟨by rfl, ?_⟩) (by assumption) ?_
      rotate_left 1
      · (intro w' hSw; (try dsimp only at hSw); go_simp; try with_reducible rfl)
      try simp only [Act.put, List.setIfInBounds_toArray, List.set_cons_zero, List.set_cons_succ]
      refine wpAnyH_ready (rs := [8]) (by kernel_rfl) (by simp) ?_
      refine AllReadyH.cons (o := { dst := some 25, op := .call { callee := .value (.func 28), args := #[.tmp 20, .tmp 24], argTypes := #[38, 38] }, type := 4, pos := "exact.go:1992", after := #[{ on := 3, ground := .data }, { on := 7, ground := .data }], guard := none }) rfl (fun K hK => ?_) AllReadyH.nil
      go_simp
      refine (eqNd id nd tm vt ro cm el wt up ea1 ea2 ec1 ec2 n0 l HN0 va1 va2 vc1 vc2 nv lv HNv xa1 xa2 xc1 xc2 nx lx HNx ga1 ga2 gc1 gc2 ng lg HNg f0 fv fx fg _ ((unhide E10).below (unhide TD)) ((unhide E1v).below (unhide TD)) ((unhide E1x).below (unhide TD)) ((unhide E1g).below (unhide TD)) ((unhide E20).below (unhide TD)) ((unhide E2v).below (unhide TD)) ((unhide E2x).below (unhide TD)) ((unhide E2g).below (unhide TD))).mono ?_
      rintro e w2 ⟨rfl, hb2⟩
      have T2 := hide ((unhide TD).trans (hb2.mono (unhide TD).size))
      have K2q := And.intro ((unhide KD).1.below (unhide T2) hblt) ((unhide KD).2.below (unhide T2) hdlt)
      unfold N13 at K2q
      simp only [show l.length = n0 from unhide HN0, show lv.length = nv from unhide HNv, show lx.length = nx from unhide HNx, show lg.length = ng from unhide HNg] at K2q
      have K2 := hide K2q
      clear K2q
      clear hb2
      go_wp2_with fail
      refine hK.out _ _ ?_ (fun hHeld8 => ?_)
      · exact unhide K2
      clear hK K
      try simp only [Act.put, List.setIfInBounds_toArray, List.set_cons_zero, List.set_cons_succ]
      refine wpAnyH_take (i := 9) (oi := { dst := some 26, op := .unOp .not 4 (.tmp 25), type := 4, pos := "exact.go:1992", after := #[{ on := 8, ground := .data }], guard := none }) (v := ?_) rfl (by kernel_rfl) (by kernel_rfl) (by kernel_rfl) (fun _ _ _ h => h) (Or.inl ⟨by rfl, ?_⟩) (by assumption) ?_
      rotate_left 1
      · (intro w' hSw; (try dsimp only at hSw); go_simp; try with_reducible rfl)
      try simp only [Act.put, List.setIfInBounds_toArray, List.set_cons_zero, List.set_cons_succ]
      refine wpAnyH_done (by kernel_rfl) ?_ _
      have B2 := hide ((unhide HB).trans ((unhide T2).mono (unhide HB).size))
      clear K0 TD KD K2 T2 HB hHeld hHeld8
      go_wp2_with fail
      go_roundw
      case rel => exact ⟨k + 1, by omega, by go_num, B2⟩
      case measure => simp [intOf]; omega
    · obtain rfl : k = n := by omega
      go_wp2_with fail
      go_ret
      exact ⟨rfl, unhide HB⟩
end Go.Proofs.Ythbkcijkokaoeaa
