/- Rows of entries, states: what the laws' own helpers mark, and tell of marked rows. -/
import Derived.Test.YthbkcijkokaoeaaEntL
import Derived.Test.YthbkcijkokaoeaaMarkS
import Derived.Test.YthbkcijkokaoeaaEntD
import Derived.Deep.Cut
namespace Go.Proofs.Ythbkcijkokaoeaa
open Go.ChangeShapes Go.WideShapes Go.ChangeAt Go.RowKit
set_option linter.unusedVariables false
set_option maxHeartbeats 1000000 in
set_option maxRecDepth 100000 in
theorem markEnt (v : Value) (n lo hi k0 : Nat) (xs : List Value) (h1 : 0 < k0) (hk0 : k0 + n * 2 ≤ 3000000) (w : World) (h : HeldZ 2 w lo hi 67 v n xs) :
    Calls Try.prog 31 #[v, .int .i64 (k0 : Int)] w fun e w' => e = .returned (.int .i64 ((k0 + n * 2 : Nat) : Int)) ∧ HeldZ 2 w' lo hi 67 v n (onesEnt k0 n) ∧ w.grownBy w' v.ownBlock := by
  have HX := hide (show xs.length = n * 2 from h.1.1)
  unfold onesEnt
  rcases h.1.2 with ⟨rfl, rfl⟩ | ⟨g, cap, cur, rfl, _⟩
  · go_enter Try.func31, Try.ntmps31
    go_wp2_with fail
    go_loopw [1, 5] (fun kk i wr => kk = .int .i64 (k0 : Int) ∧ i = .int .i64 0 ∧ wr = w) (fun _ _ _ => 0)
    case atStart => exact ⟨rfl, rfl, rfl⟩
    case round =>
      obtain ⟨rfl, rfl, rfl⟩ := hrel
      have h' : HeldZ 2 wr lo hi 67 (.slice none 0 0) 0 ((List.range (0 * 2)).map (mkE k0)) := by
        have := List.length_eq_zero_iff.1 ((unhide HX).trans (by omega)); subst this; exact h
      go_wp2_with fail
      go_ret
      exact ⟨ret_int (by simp), h', grownBy_refl _ _⟩
  · have HH := hide h
    clear h
    go_enter Try.func31, Try.ntmps31
    go_wp2_with fail
    go_loopw [1, 5] (fun kk i wr => ∃ j q : Nat, j ≤ n ∧ Hid (q = k0 + j * 2) ∧ i = .int .i64 j ∧ kk = .int .i64 (q : Int) ∧ Hid (HeldZ 2 wr lo hi 67 (.slice (some ⟨g, 0, none⟩) n cap) n (markV xs (mkE k0) (j * 2))) ∧ Hid (w.grownBy wr (some g))) (fun _ i _ => n - (intOf i).toNat)
    case atStart => exact ⟨0, k0, by omega, by show k0 = k0 + 0 * 2; omega, rfl, rfl, by rw [Nat.zero_mul, markV_zero]; exact HH, grownBy_refl _ _⟩
    case round =>
      clear HH
      obtain ⟨j, q, hj, HQ, rfl, rfl, HH, HG⟩ := hrel
      by_cases hlt : j < n
      · obtain ⟨u0, hu0⟩ := cell_of (xs := xs) (j := j * 2) (by rw [unhide HX]; omega)
        obtain ⟨u1, hu1⟩ := cell_of (xs := xs) (j := j * 2 + 1) (by rw [unhide HX]; omega)
        have hq2 : q ≤ 3300000 := by have := unhide HQ; omega
        obtain ⟨q1, hq1⟩ : ∃ q1, q1 = q + 1 := ⟨_, rfl⟩
        have hown := (unhide HH).1
        have hc2 : wr.cell? ⟨g, j * 2, none⟩ = some u0 := by rw [hown.cellAt (j * 2) (by omega), markV_at, hu0]
        have hf2 := hown.frozenAt (j * 2)
        have R := (hown.stored (j * 2) (mkE k0 (j * 2))).1
        rw [markV_set xs (mkE k0) (j * 2) (by rw [unhide HX]; omega), mkE_even] at R
        have hqe : ((k0 + j * 2 : Nat) : Int) = (q : Int) := by rw [unhide HQ]
        rw [hqe] at R
        have RH : Hid (HeldZ 2 (wr.setCell ⟨g, j * 2, none⟩ (.int .i64 (q : Int))) lo hi 67 (.slice (some ⟨g, 0, none⟩) n cap) n (markV xs (mkE k0) (j * 2 + 1))) := ⟨R, (unhide HH).2.1, by have := (unhide HH).2.2; simpa using this⟩
        have RG := hide (World.grownBy.trans' (unhide HG) (stored_grown (g := g) (j := j * 2) (u := .int .i64 (q : Int))))
        have hlt' : (j : Int) < (n : Int) := by omega
        have hlt0 : (0 : Int) ≤ (j : Int) := by omega
        have a1 : (q : Int) + 1 = (q1 : Int) := by omega
        have hqb : (q : Int) ≤ 3300000 := by omega
        have HQ1 := hide hq1
        have hq1p : 0 < q1 := by omega
        have hq1b : q1 ≤ 4000000 := by omega
        have HU1 := hide hu1
        clear hqe R hown HH HG hu0 hu1 hq1
        go_upto_region 6 with fail
        generalize wr.setCell ⟨g, j * 2, none⟩ (.int .i64 (q : Int)) = w1 at RH RG ⊢
        go_wp2_with fail
        refine (markText27 q1 hq1p hq1b _).mono ?_
        rintro e w2 ⟨rfl, hb2⟩
        have H2 := (unhide RH).below hb2 (unhide RH).le
        have hown2 := H2.1
        have hc3 : w2.cell? ⟨g, j * 2 + 1, none⟩ = some u1 := by rw [hown2.cellAt (j * 2 + 1) (by omega), markV_at, unhide HU1]
        have hf3 := hown2.frozenAt (j * 2 + 1)
        have R := (hown2.stored (j * 2 + 1) (mkE k0 (j * 2 + 1))).1
        rw [markV_set xs (mkE k0) (j * 2 + 1) (by rw [unhide HX]; omega), mkE_odd, show j * 2 + 1 + 1 = (j + 1) * 2 from by omega] at R
        have hqe : k0 + (j * 2 + 1) = q1 := by have := unhide HQ; have := unhide HQ1; omega
        rw [hqe] at R
        have RH2 : Hid (HeldZ 2 (w2.setCell ⟨g, j * 2 + 1, none⟩ (.string (mtS q1))) lo hi 67 (.slice (some ⟨g, 0, none⟩) n cap) n (markV xs (mkE k0) ((j + 1) * 2))) := ⟨R, H2.2.1, by have := H2.2.2; simpa using this⟩
        have RG2 := hide (World.grownBy.trans' (World.grownBy.trans' (unhide RG) (below_asGrown hb2)) (stored_grown (g := g) (j := j * 2 + 1) (u := .string (mtS q1))))
        have hz2 : ¬ w2.heap.size = g := by have := (H2.blk g rfl).2; have := H2.le; omega
        have a2 : (q1 : Int) ≤ 4000000 := by omega
        clear R hown2 H2 hqe hb2 RH RG HU1 a1
        go_wp2_with fail
        go_roundw
        case rel => exact ⟨j + 1, q1 + 1, by omega, by show q1 + 1 = k0 + (j + 1) * 2; have := unhide HQ; have := unhide HQ1; omega, by go_num, by go_num, RH2, RG2⟩
        case measure => simp [intOf]; omega
      · have ej : j = n := by omega
        rw [ej, markV_all xs _ (n * 2) (unhide HX).symm] at HH
        have eq2 : (q : Int) = ((k0 + n * 2 : Nat) : Int) := by rw [unhide HQ, ej]
        go_wp2_with fail
        go_ret
        exact ⟨ret_int eq2, unhide HH, unhide HG⟩
set_option maxHeartbeats 1000000 in
set_option maxRecDepth 100000 in
theorem heldEnt (v : Value) (n lo hi k0 : Nat) (h1 : 0 < k0) (hk0 : k0 + n * 2 ≤ 3000000) (w : World) (h : HeldZ 2 w lo hi 67 v n (onesEnt k0 n)) :
    Calls Try.prog 34 #[v, .int .i64 (k0 : Int)] w fun e w' => e = .returned (.int .i64 ((k0 + n * 2 : Nat) : Int)) ∧ Below w.heap.size w w' := by
  unfold onesEnt at h
  obtain ⟨a, cap, rfl, hr⟩ := h.row
  have HR := hide hr
  clear hr h
  go_enter Try.func34, Try.ntmps34
  go_wp2_with fail
  go_loopw [1, 5] (fun kk i wr => ∃ j q : Nat, j ≤ n ∧ Hid (q = k0 + j * 2) ∧ i = .int .i64 j ∧ kk = .int .i64 (q : Int) ∧ Hid (Below w.heap.size w wr)) (fun _ i _ => n - (intOf i).toNat)
  case atStart => exact ⟨0, k0, by omega, by show k0 = k0 + 0 * 2; omega, rfl, rfl, Below.refl _ _⟩
  case round =>
    obtain ⟨j, q, hj, HQ, rfl, rfl, HB⟩ := hrel
    have hq := unhide HQ
    have hq2 : q ≤ 3000000 := by omega
    by_cases hlt : j < n
    · obtain ⟨b, off, ha, hblt, hc⟩ := (unhide HR).at (by simp; omega)
      subst ha
      obtain ⟨q1, hq1⟩ : ∃ q1, q1 = q + 1 := ⟨_, rfl⟩
      have hc1 : wr.cell? ⟨b, off + j * 2, none⟩ = some (.int .i64 (q : Int)) := by
        rw [(unhide HB).cell (p := ⟨b, off + j * 2, none⟩) hblt, hc (j * 2) _ (by rw [List.getElem?_map, List.getElem?_range (by omega)]; rfl), mkE_even, hq]
      have hc2 : wr.cell? ⟨b, off + j * 2 + 1, none⟩ = some (.string (mtS q1)) := by
        rw [show off + j * 2 + 1 = off + (j * 2 + 1) from by omega, (unhide HB).cell (p := ⟨b, off + (j * 2 + 1), none⟩) hblt, hc (j * 2 + 1) _ (by rw [List.getElem?_map, List.getElem?_range (by omega)]; rfl), mkE_odd, hq1, hq]
        rfl
      have hlt' : (j : Int) < (n : Int) := by omega
      have hlt0 : (0 : Int) ≤ (j : Int) := by omega
      have hq1p : 0 < q1 := by omega
      have hq1b : q1 ≤ 4000000 := by omega
      have hbw : b < wr.heap.size := Nat.lt_of_lt_of_le hblt (unhide HB).size
      have a1 : (q : Int) + 1 = (q1 : Int) := by omega
      have hqb : (q : Int) ≤ 3000000 := by omega
      have hqb1 : (q1 : Int) ≤ 4000000 := by omega
      obtain ⟨x, hx⟩ : ∃ x, x = mtS q1 := ⟨_, rfl⟩
      rw [← hx] at hc2
      have HX := hide hx
      have hne : (x.toList != x.toList) = false := by simp
      have hne0 : ((q : Int) != (q : Int)) = false := by simp
      have HQ1 := hide hq1
      clear hq hc HR hx hq1
      go_wp2_with fail
      go_region_held3 (fun w' => w'.cell? ⟨b, off + j * 2 + 1, none⟩ = some (.string x)) (first | exact hc2 | exact hc3) (first | (go_at_call 33; refine (markText27 q1 hq1p hq1b _).mono ?_; rintro e w2 ⟨rfl, hb2⟩; rw [← unhide HX]; have hc3 : w2.cell? ⟨b, off + j * 2 + 1, none⟩ = some (.string x) := ((below_undrew hb2).cell (p := ⟨b, off + j * 2 + 1, none⟩) hbw).trans hc2; have HB2 := hide ((unhide HB).trans ((below_undrew hb2).mono (unhide HB).size)); clear hb2))
      all_goals
        go_wp2_with fail
        go_roundw
        case rel => exact ⟨j + 1, q1 + 1, by omega, by show q1 + 1 = k0 + (j + 1) * 2; have := unhide HQ; have := unhide HQ1; omega, by go_num, by go_num, HB2⟩
        case measure => simp [intOf]; omega
    · have ej : j = n := by omega
      go_wp2_with fail
      go_ret
      exact ⟨ret_int (by rw [hq, ej]), unhide HB⟩
end Go.Proofs.Ythbkcijkokaoeaa
