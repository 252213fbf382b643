/- Rows of a view: what the laws' own helpers mark, and tell of marked rows. -/
import Derived.Test.YtpbnjncbbllpdaaZG42
import Derived.Test.YtpbnjncbbllpdaaZRwL
import Derived.Deep.Cut
namespace Go.Proofs.Ytpbnjncbbllpdaa
open Go.ChangeShapes Go.WideShapes Go.ChangeAt Go.RowKit
set_option linter.unusedVariables false
set_option maxHeartbeats 1000000 in
set_option maxRecDepth 100000 in
theorem markRow (v : Value) (n lo hi k0 : Nat) (xs : List Value) (h1 : 0 < k0) (hk0 : k0 + n * 2 ≤ 3000000) (w : World) (h : HeldZ 2 w lo hi 46 v n xs) :
    Calls Try.prog 23 #[v, .int .i64 (k0 : Int)] w fun e w' => e = .returned (.int .i64 ((k0 + n * 2 : Nat) : Int)) ∧ HeldZ 2 w' lo hi 46 v n (onesEnt k0 n) ∧ w.grownBy w' v.ownBlock := by
  have HX := hide (show xs.length = n * 2 from h.1.1)
  unfold onesEnt
  rcases h.1.2 with ⟨rfl, rfl⟩ | ⟨g, cap, cur, rfl, _⟩
  · go_enter Try.func23, Try.ntmps23
    go_wp2_with fail
    go_loopw [1, 5] (fun kk i wr => kk = .int .i64 (k0 : Int) ∧ i = .int .i64 0 ∧ wr = w) (fun _ _ _ => 0)
    case atStart => exact ⟨rfl, rfl, rfl⟩
    case round =>
      obtain ⟨rfl, rfl, rfl⟩ := hrel
      have h' : HeldZ 2 wr lo hi 46 (.slice none 0 0) 0 ((List.range (0 * 2)).map (mkE k0)) := by
        have := List.length_eq_zero_iff.1 ((unhide HX).trans (by omega)); subst this; exact h
      go_wp2_with fail
      go_ret
      exact ⟨ret_int (by simp), h', grownBy_refl _ _⟩
  · have HH := hide h
    clear h
    go_enter Try.func23, Try.ntmps23
    go_wp2_with fail
    go_loopw [1, 5] (fun kk i wr => ∃ j q : Nat, j ≤ n ∧ Hid (q = k0 + j * 2) ∧ i = .int .i64 j ∧ kk = .int .i64 (q : Int) ∧ Hid (HeldZ 2 wr lo hi 46 (.slice (some ⟨g, 0, none⟩) n cap) n (markV xs (mkE k0) (j * 2))) ∧ Hid (w.grownBy wr (some g))) (fun _ i _ => n - (intOf i).toNat)
    case atStart => exact ⟨0, k0, by omega, by show k0 = k0 + 0 * 2; omega, rfl, rfl, by rw [Nat.zero_mul, markV_zero]; exact HH, grownBy_refl _ _⟩
    case round =>
      clear HH
      obtain ⟨j, q, hj, HQ, rfl, rfl, HH, HG⟩ := hrel
      by_cases hlt : j < n
      · obtain ⟨u0, hu0⟩ := cell_of (xs := xs) (j := j * 2) (by rw [unhide HX]; omega)
        obtain ⟨u1, hu1⟩ := cell_of (xs := xs) (j := j * 2 + 1) (by rw [unhide HX]; omega)
        have hq2 : q ≤ 3300000 := by have := unhide HQ; omega
        obtain ⟨q1, hq1⟩ : ∃ q1, q1 = q + 1 := ⟨_, rfl⟩
        have hown := (unhide HH).1
        have hc2 : wr.cell? ⟨g, j * 2, none⟩ = some u0 := by rw [hown.cellAt (j * 2) (by omega), markV_at, hu0]
        have hf2 := hown.frozenAt (j * 2)
        have R := (hown.stored (j * 2) (mkE k0 (j * 2))).1
        rw [markV_set xs (mkE k0) (j * 2) (by rw [unhide HX]; omega), mkE_even] at R
        have hqe : ((k0 + j * 2 : Nat) : Int) = (q : Int) := by rw [unhide HQ]
        rw [hqe] at R
        have RH : Hid (HeldZ 2 (wr.setCell ⟨g, j * 2, none⟩ (.int .i64 (q : Int))) lo hi 46 (.slice (some ⟨g, 0, none⟩) n cap) n (markV xs (mkE k0) (j * 2 + 1))) := ⟨R, (unhide HH).2.1, by have := (unhide HH).2.2; simpa using this⟩
        have RG := hide (World.grownBy.trans' (unhide HG) (stored_grown (g := g) (j := j * 2) (u := .int .i64 (q : Int))))
        have hlt' : (j : Int) < (n : Int) := by omega
        have hlt0 : (0 : Int) ≤ (j : Int) := by omega
        have a1 : (q : Int) + 1 = (q1 : Int) := by omega
        have hqb : (q : Int) ≤ 3300000 := by omega
        have HQ1 := hide hq1
        have hq1p : 0 < q1 := by omega
        have hq1b : q1 ≤ 4000000 := by omega
        have HU1 := hide hu1
        clear hqe R hown HH HG hu0 hu1 hq1
        go_upto_region 6 with fail
        generalize wr.setCell ⟨g, j * 2, none⟩ (.int .i64 (q : Int)) = w1 at RH RG ⊢
        go_wp2_with fail
        refine (markText27 q1 hq1p hq1b _).mono ?_
        rintro e w2 ⟨rfl, hb2⟩
        have H2 := (unhide RH).below hb2 (unhide RH).le
        have hown2 := H2.1
        have hc3 : w2.cell? ⟨g, j * 2 + 1, none⟩ = some u1 := by rw [hown2.cellAt (j * 2 + 1) (by omega), markV_at, unhide HU1]
        have hf3 := hown2.frozenAt (j * 2 + 1)
        have R := (hown2.stored (j * 2 + 1) (mkE k0 (j * 2 + 1))).1
        rw [markV_set xs (mkE k0) (j * 2 + 1) (by rw [unhide HX]; omega), mkE_odd, show j * 2 + 1 + 1 = (j + 1) * 2 from by omega] at R
        have hqe : k0 + (j * 2 + 1) = q1 := by have := unhide HQ; have := unhide HQ1; omega
        rw [hqe] at R
        have RH2 : Hid (HeldZ 2 (w2.setCell ⟨g, j * 2 + 1, none⟩ (.string (mtS q1))) lo hi 46 (.slice (some ⟨g, 0, none⟩) n cap) n (markV xs (mkE k0) ((j + 1) * 2))) := ⟨R, H2.2.1, by have := H2.2.2; simpa using this⟩
        have RG2 := hide (World.grownBy.trans' (World.grownBy.trans' (unhide RG) (below_asGrown hb2)) (stored_grown (g := g) (j := j * 2 + 1) (u := .string (mtS q1))))
        have hz2 : ¬ w2.heap.size = g := by have := (H2.blk g rfl).2; have := H2.le; omega
        have a2 : (q1 : Int) ≤ 4000000 := by omega
        clear R hown2 H2 hqe hb2 RH RG HU1 a1
        go_wp2_with fail
        go_roundw
        case rel => exact ⟨j + 1, q1 + 1, by omega, by show q1 + 1 = k0 + (j + 1) * 2; have := unhide HQ; have := unhide HQ1; omega, by go_num, by go_num, RH2, RG2⟩
        case measure => simp [intOf]; omega
      · have ej : j = n := by omega
        rw [ej, markV_all xs _ (n * 2) (unhide HX).symm] at HH
        have eq2 : (q : Int) = ((k0 + n * 2 : Nat) : Int) := by rw [unhide HQ, ej]
        go_wp2_with fail
        go_ret
        exact ⟨ret_int eq2, unhide HH, unhide HG⟩
end Go.Proofs.Ytpbnjncbbllpdaa
