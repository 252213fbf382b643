/- Rows of stores in the law's own words: their marks, these found again. -/
import Derived.Test.YthbkcijkokaoeaaMkE
import Derived.Test.YthbkcijkokaoeaaMarkS
import Derived.Test.YthbkcijkokaoeaaCluM
import Derived.Deep.Cut
namespace Go.Proofs.Ythbkcijkokaoeaa
open Go.ChangeShapes Go.WideShapes Go.ChangeAt Go.RowKit
set_option linter.unusedVariables false
def mkT (k0 j : Nat) : Value := if j % 2 = 0 then .string (mtS (k0 + j)) else .int .i64 ((k0 + j : Nat) : Int)
theorem mkT_even (k0 j : Nat) : mkT k0 (j * 2) = .string (mtS (k0 + j * 2)) := by unfold mkT; rw [if_pos (by omega)]
theorem mkT_odd (k0 j : Nat) : mkT k0 (j * 2 + 1) = .int .i64 ((k0 + (j * 2 + 1) : Nat) : Int) := by unfold mkT; rw [if_neg (by omega)]
def onesSto (k0 n : Nat) : List Value := (List.range (n * 2)).map (mkT k0)
set_option maxHeartbeats 4000000 in
set_option maxRecDepth 100000 in
theorem markSto (v : Value) (n lo hi k0 : Nat) (xs : List Value) (h1 : 0 < k0) (hk0 : k0 + n * 2 ≤ 3000000) (w : World) (h : HeldZ 2 w lo hi 53 v n xs) :
    Calls Try.prog 18 #[v, .int .i64 (k0 : Int)] w fun e w' => e = .returned (.int .i64 ((k0 + n * 2 : Nat) : Int)) ∧ HeldZ 2 w' lo hi 53 v n (onesSto k0 n) ∧ w.grownBy w' v.ownBlock := by
  have HX := hide (show xs.length = n * 2 from h.1.1)
  unfold onesSto
  rcases h.1.2 with ⟨rfl, rfl⟩ | ⟨g, cap, cur, rfl, _⟩
  · go_enter Try.func18, Try.ntmps18
    go_wp2_with fail
    go_loopw [1, 5] (fun kk i wr => kk = .int .i64 (k0 : Int) ∧ i = .int .i64 0 ∧ wr = w) (fun _ _ _ => 0)
    case atStart => exact ⟨rfl, rfl, rfl⟩
    case round =>
      obtain ⟨rfl, rfl, rfl⟩ := hrel
      have h' : HeldZ 2 wr lo hi 53 (.slice none 0 0) 0 ((List.range (0 * 2)).map (mkT k0)) := by
        have := List.length_eq_zero_iff.1 ((unhide HX).trans (by omega)); subst this; exact h
      go_wp2_with fail
      go_ret
      exact ⟨ret_int (by simp), h', grownBy_refl _ _⟩
  · have HH := hide h
    clear h
    go_enter Try.func18, Try.ntmps18
    go_wp2_with fail
    go_loopw [1, 5] (fun kk i wr => ∃ j q : Nat, j ≤ n ∧ Hid (q = k0 + j * 2) ∧ i = .int .i64 j ∧ kk = .int .i64 (q : Int) ∧ Hid (HeldZ 2 wr lo hi 53 (.slice (some ⟨g, 0, none⟩) n cap) n (markV xs (mkT k0) (j * 2))) ∧ Hid (w.grownBy wr (some g))) (fun _ i _ => n - (intOf i).toNat)
    case atStart => exact ⟨0, k0, by omega, by show k0 = k0 + 0 * 2; omega, rfl, rfl, by rw [Nat.zero_mul, markV_zero]; exact HH, grownBy_refl _ _⟩
    case round =>
      clear HH
      obtain ⟨j, q, hj, HQ, rfl, rfl, HH, HG⟩ := hrel
      by_cases hlt : j < n
      · obtain ⟨u0, hu0⟩ := cell_of (xs := xs) (j := j * 2) (by rw [unhide HX]; omega)
        obtain ⟨u1, hu1⟩ := cell_of (xs := xs) (j := j * 2 + 1) (by rw [unhide HX]; omega)
        have hqp : 0 < q := by have := unhide HQ; omega
        have hqn : q ≤ 3300000 := by have := unhide HQ; omega
        have hqb4 : q ≤ 4000000 := by omega
        obtain ⟨q1, hq1⟩ : ∃ q1, q1 = q + 1 := ⟨_, rfl⟩
        have HQ1 := hide hq1
        have hlt' : (j : Int) < (n : Int) := by omega
        have hlt0 : (0 : Int) ≤ (j : Int) := by omega
        have hqb : (q : Int) ≤ 3300000 := by omega
        have a1 : (q : Int) + 1 = (q1 : Int) := by omega
        have HU0 := hide hu0
        have HU1 := hide hu1
        clear hu0 hu1 hq1
        go_wp2_with fail
        refine (markText27 q hqp hqb4 _).mono ?_
        rintro e w2 ⟨rfl, hb2⟩
        have H2 := (unhide HH).below hb2 (unhide HH).le
        have hown2 := H2.1
        have hc3 : w2.cell? ⟨g, j * 2, none⟩ = some u0 := by rw [hown2.cellAt (j * 2) (by omega), markV_at, unhide HU0]
        have hf3 := hown2.frozenAt (j * 2)
        have R := (hown2.stored (j * 2) (mkT k0 (j * 2))).1
        rw [markV_set xs (mkT k0) (j * 2) (by rw [unhide HX]; omega), mkT_even] at R
        have hqe : k0 + j * 2 = q := by have := unhide HQ; omega
        rw [hqe] at R
        have RH : Hid (HeldZ 2 (w2.setCell ⟨g, j * 2, none⟩ (.string (mtS q))) lo hi 53 (.slice (some ⟨g, 0, none⟩) n cap) n (markV xs (mkT k0) (j * 2 + 1))) := ⟨R, H2.2.1, by have := H2.2.2; simpa using this⟩
        have RG := hide (World.grownBy.trans' (World.grownBy.trans' (unhide HG) (below_asGrown hb2)) (stored_grown (g := g) (j := j * 2) (u := .string (mtS q))))
        have hz2 : ¬ w2.heap.size = g := by have := (H2.blk g rfl).2; have := H2.le; omega
        clear R hown2 H2 hqe hb2 HH HG HU0
        go_upto_region 6 with fail
        clear hc3 hf3 hz2
        generalize w2.setCell ⟨g, j * 2, none⟩ (.string (mtS q)) = w1 at RH RG ⊢
        have hown := (unhide RH).1
        have hc2 : w1.cell? ⟨g, j * 2 + 1, none⟩ = some u1 := by rw [hown.cellAt (j * 2 + 1) (by omega), markV_at, unhide HU1]
        have hf2 := hown.frozenAt (j * 2 + 1)
        have R := (hown.stored (j * 2 + 1) (mkT k0 (j * 2 + 1))).1
        rw [markV_set xs (mkT k0) (j * 2 + 1) (by rw [unhide HX]; omega), mkT_odd, show j * 2 + 1 + 1 = (j + 1) * 2 from by omega] at R
        have hqe : ((k0 + (j * 2 + 1) : Nat) : Int) = (q1 : Int) := by have := unhide HQ; have := unhide HQ1; omega
        rw [hqe] at R
        have RH2 : Hid (HeldZ 2 (w1.setCell ⟨g, j * 2 + 1, none⟩ (.int .i64 (q1 : Int))) lo hi 53 (.slice (some ⟨g, 0, none⟩) n cap) n (markV xs (mkT k0) ((j + 1) * 2))) := ⟨R, (unhide RH).2.1, by have := (unhide RH).2.2; simpa using this⟩
        have RG2 := hide (World.grownBy.trans' (unhide RG) (stored_grown (g := g) (j := j * 2 + 1) (u := .int .i64 (q1 : Int))))
        have a2 : (q1 : Int) ≤ 4000000 := by have := unhide HQ1; omega
        clear R hown hqe RH RG HU1 a1
        go_wp2_with fail
        go_roundw
        case rel => exact ⟨j + 1, q1 + 1, by omega, by show q1 + 1 = k0 + (j + 1) * 2; have := unhide HQ; have := unhide HQ1; omega, by go_num, by go_num, RH2, RG2⟩
        case measure => simp [intOf]; omega
      · have ej : j = n := by omega
        rw [ej, markV_all xs _ (n * 2) (unhide HX).symm] at HH
        have eq2 : (q : Int) = ((k0 + n * 2 : Nat) : Int) := by rw [unhide HQ, ej]
        go_wp2_with fail
        go_ret
        exact ⟨ret_int eq2, unhide HH, unhide HG⟩
set_option maxHeartbeats 4000000 in
set_option maxRecDepth 100000 in
theorem heldSto (v : Value) (n lo hi k0 : Nat) (h1 : 0 < k0) (hk0 : k0 + n * 2 ≤ 3000000) (w : World) (h : HeldZ 2 w lo hi 53 v n (onesSto k0 n)) :
    Calls Try.prog 22 #[v, .int .i64 (k0 : Int)] w fun e w' => e = .returned (.int .i64 ((k0 + n * 2 : Nat) : Int)) ∧ Below w.heap.size w w' := by
  unfold onesSto at h
  obtain ⟨a, cap, rfl, hr⟩ := h.row
  have HR := hide hr
  clear hr h
  go_enter Try.func22, Try.ntmps22
  go_wp2_with fail
  go_loopw [1, 5] (fun kk i wr => ∃ j q : Nat, j ≤ n ∧ Hid (q = k0 + j * 2) ∧ i = .int .i64 j ∧ kk = .int .i64 (q : Int) ∧ Hid (Below w.heap.size w wr)) (fun _ i _ => n - (intOf i).toNat)
  case atStart => exact ⟨0, k0, by omega, by show k0 = k0 + 0 * 2; omega, rfl, rfl, Below.refl _ _⟩
  case round =>
    obtain ⟨j, q, hj, HQ, rfl, rfl, HB⟩ := hrel
    have hq := unhide HQ
    have hq2 : q ≤ 3000000 := by omega
    by_cases hlt : j < n
    · obtain ⟨b, off, ha, hblt, hc⟩ := (unhide HR).at (by simp; omega)
      subst ha
      obtain ⟨q1, hq1⟩ : ∃ q1, q1 = q + 1 := ⟨_, rfl⟩
      have hc2 : wr.cell? ⟨b, off + j * 2, none⟩ = some (.string (mtS q)) := by
        rw [(unhide HB).cell (p := ⟨b, off + j * 2, none⟩) hblt, hc (j * 2) _ (by rw [List.getElem?_map, List.getElem?_range (by omega)]; rfl), mkT_even, hq]
      have hc1 : wr.cell? ⟨b, off + j * 2 + 1, none⟩ = some (.int .i64 (q1 : Int)) := by
        rw [show off + j * 2 + 1 = off + (j * 2 + 1) from by omega, (unhide HB).cell (p := ⟨b, off + (j * 2 + 1), none⟩) hblt, hc (j * 2 + 1) _ (by rw [List.getElem?_map, List.getElem?_range (by omega)]; rfl), mkT_odd, hq1, hq]
        rfl
      have hlt' : (j : Int) < (n : Int) := by omega
      have hlt0 : (0 : Int) ≤ (j : Int) := by omega
      have hqp : 0 < q := by omega
      have hqb4 : q ≤ 4000000 := by omega
      have hbw : b < wr.heap.size := Nat.lt_of_lt_of_le hblt (unhide HB).size
      have a1 : (q : Int) + 1 = (q1 : Int) := by omega
      have hqb : (q : Int) ≤ 3000000 := by omega
      have hqb1 : (q1 : Int) ≤ 4000000 := by omega
      obtain ⟨x, hx⟩ : ∃ x, x = mtS q := ⟨_, rfl⟩
      rw [← hx] at hc2
      have HX := hide hx
      have hne : (x.toList != x.toList) = false := by simp
      have hne0 : ((q1 : Int) != (q1 : Int)) = false := by simp
      have HQ1 := hide hq1
      have HC1 := hide hc1
      clear hq hc HR hx hq1 hc1
      go_wp2_with fail
      go_region_held3 (fun w' => w'.cell? ⟨b, off + j * 2, none⟩ = some (.string x)) (first | exact hc2 | exact hc3) (first | (go_at_call 33; refine (markText27 q hqp hqb4 _).mono ?_; rintro e w2 ⟨rfl, hb2⟩; rw [← unhide HX]; have hc3 : w2.cell? ⟨b, off + j * 2, none⟩ = some (.string x) := ((below_undrew hb2).cell (p := ⟨b, off + j * 2, none⟩) hbw).trans hc2; have hc4 : w2.cell? ⟨b, off + j * 2 + 1, none⟩ = some (.int .i64 (q1 : Int)) := ((below_undrew hb2).cell (p := ⟨b, off + j * 2 + 1, none⟩) hbw).trans (unhide HC1); have HB2 := hide ((unhide HB).trans ((below_undrew hb2).mono (unhide HB).size)); clear hb2))
      all_goals
        go_wp2_with fail
        go_roundw
        case rel => exact ⟨j + 1, q1 + 1, by omega, by show q1 + 1 = k0 + (j + 1) * 2; have := unhide HQ; have := unhide HQ1; omega, by go_num, by go_num, HB2⟩
        case measure => simp [intOf]; omega
    · have ej : j = n := by omega
      go_wp2_with fail
      go_ret
      exact ⟨ret_int (by rw [hq, ej]), unhide HB⟩
end Go.Proofs.Ythbkcijkokaoeaa
