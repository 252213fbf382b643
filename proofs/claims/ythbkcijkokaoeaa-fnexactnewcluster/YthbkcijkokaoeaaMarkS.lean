/- Rows of texts: marked by the laws' own helper. -/
import Derived.Test.YthbkcijkokaoeaaStrS
namespace Go.Proofs.Ythbkcijkokaoeaa
open Go.ChangeShapes Go.WideShapes Go.ChangeAt Go.RowKit
def onesString (n : Nat) : List Value := (List.range n).map fun j => .string (mtS (1 + j))
theorem below_asGrown {w w' : World} {row : Option Nat} (h : Below w.heap.size w w') : w.grownBy w' row := ⟨h.os, h.tape, h.output, h.size, fun k hk _ => h.block k hk⟩
set_option maxHeartbeats 400000 in
set_option maxRecDepth 100000 in
theorem markString (v : Value) (n lo hi k0 : Nat) (xs : List Value) (hn : n ≤ 2000000) (h1 : 0 < k0) (hk0 : k0 ≤ 2000000) (w : World) (h : Held w lo hi 9 v n xs) :
    Calls Try.prog 20 #[v, .int .i64 (k0 : Int)] w fun e w' => e = .returned (.int .i64 ((k0 + n : Nat) : Int)) ∧ Held w' lo hi 9 v n ((List.range n).map fun j => .string (mtS (k0 + j))) ∧ w.grownBy w' v.ownBlock := by
  have HX := hide (show xs.length = n from by have := h.1.1; omega)
  rcases h.1.2 with ⟨rfl, rfl⟩ | ⟨g, cap, cur, rfl, _⟩
  · go_enter Try.func20, Try.ntmps20
    go_wp2_with fail
    go_loopw [1, 5] (fun kk i wr => kk = .int .i64 (k0 : Int) ∧ i = .int .i64 0 ∧ wr = w) (fun _ _ _ => 0)
    case atStart => exact ⟨rfl, rfl, rfl⟩
    case round =>
      obtain ⟨rfl, rfl, rfl⟩ := hrel
      have h' : Held wr lo hi 9 (.slice none 0 0) 0 ((List.range 0).map fun j => .string (mtS (k0 + j))) := by
        have := List.length_eq_zero_iff.1 (unhide HX); subst this; exact h
      go_wp2_with fail
      go_ret
      exact ⟨ret_int (by simp), h', grownBy_refl _ _⟩
  · have HH := hide h
    clear h
    go_enter Try.func20, Try.ntmps20
    go_wp2_with fail
    go_loopw [1, 5] (fun kk i wr => ∃ j q : Nat, j ≤ n ∧ Hid (q = k0 + j) ∧ i = .int .i64 j ∧ kk = .int .i64 (q : Int) ∧ Hid (Held wr lo hi 9 (.slice (some ⟨g, 0, none⟩) n cap) n (markV xs (fun j => .string (mtS (k0 + j))) j)) ∧ Hid (w.grownBy wr (some g))) (fun _ i _ => n - (intOf i).toNat)
    case atStart => exact ⟨0, k0, by omega, rfl, rfl, rfl, by rw [markV_zero]; exact HH, grownBy_refl _ _⟩
    case round =>
      clear HH
      obtain ⟨j, q, hj, HQ, rfl, rfl, HH, HG⟩ := hrel
      have hq := unhide HQ
      have hq2 : q ≤ 4000000 := by omega
      by_cases hlt : j < n
      · have hlt' : (j : Int) < (n : Int) := by omega
        have hq1 : 0 < q := by omega
        clear hq
        go_wp2_with fail
        refine (markText27 q hq1 hq2 _).mono ?_
        rintro e w2 ⟨rfl, hb2⟩
        obtain ⟨u0, hu0⟩ := cell_of (xs := xs) (j := j) (by rw [unhide HX]; exact hlt)
        have H2 := (unhide HH).below hb2 (unhide HH).le
        have hown := H2.1
        have hc2 : w2.cell? ⟨g, j, none⟩ = some u0 := by rw [hown.cellAt j (by omega), markV_at, hu0]
        have hf2 := hown.frozenAt j
        have hz2 : ¬ w2.heap.size = g := by have := (H2.blk g rfl).2; have := H2.le; omega
        have R := (hown.stored j (.string (mtS q))).1
        have hqe : mtS q = mtS (k0 + j) := by rw [unhide HQ]
        have hst := markV_set xs (fun j => Value.string (mtS (k0 + j))) j (by rw [unhide HX]; exact hlt)
        rw [hqe] at R
        rw [hst] at R
        rw [← hqe] at R
        have RH : Hid (Held (w2.setCell ⟨g, j, none⟩ (.string (mtS q))) lo hi 9 (.slice (some ⟨g, 0, none⟩) n cap) n (markV xs (fun j => .string (mtS (k0 + j))) (j + 1))) := ⟨R, H2.2.1, by have := H2.2.2; simpa using this⟩
        have RG := hide (World.grownBy.trans' (World.grownBy.trans' (unhide HG) (below_asGrown hb2)) (stored_grown (g := g) (j := j) (u := .string (mtS q))))
        clear hown R HH HG hu0 H2 hst hqe hb2
        go_wp2_with fail
        go_roundw
        case rel => exact ⟨j + 1, q + 1, by omega, by show q + 1 = k0 + (j + 1); have := unhide HQ; omega, by go_num, by go_num, RH, RG⟩
        case measure => simp [intOf]; omega
      · have ej : j = n := by omega
        rw [ej, markV_all xs _ n (unhide HX).symm] at HH
        have eq2 : (q : Int) = ((k0 + n : Nat) : Int) := by omega
        clear hq
        go_wp2_with fail
        go_ret
        exact ⟨ret_int eq2, unhide HH, unhide HG⟩
theorem markString1 (v : Value) (n lo hi : Nat) (q : Int) (xs : List Value) (hq : q = ((1 + n : Nat) : Int)) (hn : n ≤ 2000000) (w : World) (h : Held w lo hi 9 v n xs) :
    Calls Try.prog 20 #[v, .int .i64 1] w fun e w' => e = .returned (.int .i64 q) ∧ Held w' lo hi 9 v n (onesString n) ∧ w.grownBy w' v.ownBlock := by
  subst hq; exact markString v n lo hi 1 xs hn (by decide) (by decide) w h
end Go.Proofs.Ythbkcijkokaoeaa
