/- Marks in a row of integers from any number on, and these found again. -/
import Derived.Test.YthbkcijkokaoeaaIntS
namespace Go.Proofs.Ythbkcijkokaoeaa
open Go.ChangeShapes Go.WideShapes Go.ChangeAt Go.RowKit
set_option maxHeartbeats 400000 in
set_option maxRecDepth 100000 in
theorem markIntK (v : Value) (n lo hi k0 : Nat) (xs : List Value) (hn : n ≤ 3000000) (hk0 : k0 ≤ 3000000) (w : World) (h : Held w lo hi 3 v n xs) :
    Calls Try.prog 32 #[v, .int .i64 (k0 : Int)] w fun e w' => e = .returned (.int .i64 ((k0 + n : Nat) : Int)) ∧ Held w' lo hi 3 v n ((List.range n).map fun j => .int .i64 (((k0 + j : Nat) : Int))) ∧ w.grownBy w' v.ownBlock := by
  have HX := hide (show xs.length = n from by have := h.1.1; omega)
  rcases h.1.2 with ⟨rfl, rfl⟩ | ⟨g, cap, cur, rfl, _⟩
  · go_enter Try.func32, Try.ntmps32
    go_wp2_with fail
    go_loopw [1, 5] (fun kk i wr => kk = .int .i64 (k0 : Int) ∧ i = .int .i64 0 ∧ wr = w) (fun _ _ _ => 0)
    case atStart => exact ⟨rfl, rfl, rfl⟩
    case round =>
      obtain ⟨rfl, rfl, rfl⟩ := hrel
      have h' : Held wr lo hi 3 (.slice none 0 0) 0 ((List.range 0).map fun j => .int .i64 (((k0 + j : Nat) : Int))) := by
        have := List.length_eq_zero_iff.1 (unhide HX); subst this; exact h
      go_wp2_with fail
      go_ret
      exact ⟨ret_int (by simp), h', grownBy_refl _ _⟩
  · have HH := hide h
    clear h
    go_enter Try.func32, Try.ntmps32
    go_wp2_with fail
    go_loopw [1, 5] (fun kk i wr => ∃ j q : Nat, j ≤ n ∧ q = k0 + j ∧ i = .int .i64 j ∧ kk = .int .i64 (q : Int) ∧ Held wr lo hi 3 (.slice (some ⟨g, 0, none⟩) n cap) n (markV xs (fun j => .int .i64 (((k0 + j : Nat) : Int))) j) ∧ w.grownBy wr (some g)) (fun _ i _ => n - (intOf i).toNat)
    case atStart => exact ⟨0, k0, by omega, rfl, rfl, rfl, by rw [markV_zero]; exact unhide HH, grownBy_refl _ _⟩
    case round =>
      clear HH
      obtain ⟨j, q, hj, hq, rfl, rfl, HH, hg⟩ := hrel
      by_cases hlt : j < n
      · obtain ⟨u0, hu0⟩ := cell_of (xs := xs) (j := j) (by rw [unhide HX]; exact hlt)
        have hown := HH.1
        have hc2 : wr.cell? ⟨g, j, none⟩ = some u0 := by rw [hown.cellAt j (by omega), markV_at, hu0]
        have hf2 := hown.frozenAt j
        have hlt' : (j : Int) < (n : Int) := by omega
        have hq2 : (q : Int) ≤ 8000000 := by omega
        have R := (hown.stored j (.int .i64 (((k0 + j : Nat) : Int)))).1
        rw [markV_set xs (fun j => .int .i64 (((k0 + j : Nat) : Int))) j (by rw [unhide HX]; exact hlt)] at R
        have RH : Held (wr.setCell ⟨g, j, none⟩ (.int .i64 (((k0 + j : Nat) : Int)))) lo hi 3 (.slice (some ⟨g, 0, none⟩) n cap) n (markV xs (fun j => .int .i64 (((k0 + j : Nat) : Int))) (j + 1)) := ⟨R, HH.2.1, by have := HH.2.2; simpa using this⟩
        have RG := World.grownBy.trans' hg (stored_grown (g := g) (j := j) (u := .int .i64 (((k0 + j : Nat) : Int))))
        have hqe : ((k0 + j : Nat) : Int) = (q : Int) := by omega
        rw [hqe] at RH RG
        have RH := hide RH
        have RG := hide RG
        have HQ := hide hq
        clear hqe hq
        have hne : ((q : Int) != (q : Int)) = false := by simp
        clear hown R HH hg hu0
        go_wp2_with fail
        go_roundw
        case rel => exact ⟨j + 1, q + 1, by omega, by have := unhide HQ; omega, by go_num, by go_num, unhide RH, unhide RG⟩
        case measure => simp [intOf]; omega
      · have ej : j = n := by omega
        rw [ej, markV_all xs _ n (unhide HX).symm] at HH
        have eq2 : (q : Int) = ((k0 + n : Nat) : Int) := by omega
        clear hq
        go_wp2_with fail
        go_ret
        exact ⟨ret_int eq2, HH, hg⟩

set_option maxHeartbeats 400000 in
set_option maxRecDepth 100000 in
theorem heldIntK (v : Value) (n lo hi k0 : Nat) (hn : n ≤ 3000000) (hk0 : k0 ≤ 3000000) (w : World) (h : Held w lo hi 3 v n ((List.range n).map fun j => .int .i64 (((k0 + j : Nat) : Int)))) :
    Calls Try.prog 35 #[v, .int .i64 (k0 : Int)] w fun e w' => e = .returned (.int .i64 ((k0 + n : Nat) : Int)) ∧ Below w.heap.size w w' := by
  obtain ⟨a, cap, rfl, hr⟩ := h.row
  have HR := hide hr
  clear hr h
  go_enter Try.func35, Try.ntmps35
  go_wp2_with fail
  go_loopw [1, 5] (fun kk i wr => ∃ j q : Nat, j ≤ n ∧ q = k0 + j ∧ i = .int .i64 j ∧ kk = .int .i64 (q : Int) ∧ Below w.heap.size w wr) (fun _ i _ => n - (intOf i).toNat)
  case atStart => exact ⟨0, k0, by omega, rfl, rfl, rfl, Below.refl _ _⟩
  case round =>
    obtain ⟨j, q, hj, hq, rfl, rfl, hb⟩ := hrel
    by_cases hlt : j < n
    · obtain ⟨b, off, ha, hblt, hc⟩ := (unhide HR).at (by simp; omega)
      subst ha
      have hc1 : wr.cell? ⟨b, off + j, none⟩ = some (.int .i64 (((k0 + j : Nat) : Int))) := (hb.cell (p := ⟨b, off + j, none⟩) hblt).trans (hc j _ (by rw [List.getElem?_map, List.getElem?_range hlt]; rfl))
      have hlt' : (j : Int) < (n : Int) := by omega
      have hlt0 : (0 : Int) ≤ (j : Int) := by omega
      have hqe : ((k0 + j : Nat) : Int) = (q : Int) := by omega
      have hq2 : (q : Int) ≤ 8000000 := by omega
      rw [hqe] at hc1
      have HQ := hide hq
      clear hqe hq
      have hne : ((q : Int) != (q : Int)) = false := by simp
      clear hc HR
      go_wp2_with fail
      all_goals
        go_roundw
        case rel => exact ⟨j + 1, q + 1, by omega, by have := unhide HQ; omega, by go_num, by go_num, hb⟩
        case measure => simp [intOf]; omega
    · go_wp2_with fail
      go_ret
      exact ⟨ret_int (by omega), hb⟩
end Go.Proofs.Ythbkcijkokaoeaa
