/- Rows of cells (pairs of integers): the laws' own helpers. -/
import Derived.Test.YtpcdjpfffanlbaaDoorZPair
import Derived.Lib.SmallJoins
namespace Go.Proofs.YtpcdjpfffanlbaaDoor
open Go.ChangeShapes Go.WideShapes Go.ChangeAt Go.RowKit
theorem row_two {w : World} {b off : Nat} {l : List (Int × Int)} (hc : ∀ i u, (cP l)[i]? = some u → w.cell? ⟨b, off + i, none⟩ = some u) (k : Nat) (h : k < l.length) :
  w.cell? ⟨b, off + k * 2, none⟩ = some (.int .i64 l[k].1) ∧ w.cell? ⟨b, off + k * 2 + 1, none⟩ = some (.int .i64 l[k].2) :=
 ⟨hc _ _ (cP_at l k h).1, hc _ _ (cP_at l k h).2⟩
set_option maxHeartbeats 400000 in
set_option maxRecDepth 100000 in
theorem eqCell1 (x y : Int) (w : World) : Calls Tryd.prog 38 #[.agg #[.int .i64 x, .int .i64 y], .agg #[.int .i64 x, .int .i64 y]] w fun e w' => e = .returned (.bool true) ∧ Below w.heap.size w w' := by
 have n1 : (x != x) = false := by simp
 have n2 : (y != y) = false := by simp
 have hb0 := Go.Joins.below_alloc2 w (Obj.cells #[.int .i64 x, .int .i64 y] 53) (Obj.cells #[.int .i64 x, .int .i64 y] 53)
 have HB := hide hb0
 clear hb0
 go_enter Tryd.func38, Tryd.ntmps38
 go_wp2_with fail
 go_ret
 exact ⟨rfl, unhide HB⟩
set_option maxHeartbeats 400000 in
set_option maxRecDepth 100000 in
theorem sameCell (a c : Option Addr) (cap cap2 : Nat) (l : List (Int × Int)) (hl : l.length ≤ 1048576) (w : World) (hr : RowV w a (cP l)) (hr2 : RowV w c (cP l)) :
  Calls Tryd.prog 16 #[.slice a l.length cap, .slice c l.length cap2] w fun e w' => e = .returned (.bool true) ∧ Below w.heap.size w w' := by
 have HR := hide hr
 have HR2 := hide hr2
 have HCL := hide (cP_len l)
 clear hr hr2
 have hne : ((l.length : Int) != (l.length : Int)) = false := by simp
 go_enter Tryd.func16, Tryd.ntmps16
 go_wp2_with fail
 go_loopw [5] (fun i wr => ∃ k : Nat, k ≤ l.length ∧ i = .int .i64 k ∧ Below w.heap.size w wr) (fun i _ => l.length - (intOf i).toNat)
 case atStart => exact ⟨0, by omega, rfl, Below.refl _ _⟩
 case round =>
  obtain ⟨k, hk, rfl, hb⟩ := hrel
  by_cases hlt : k < l.length
  ·obtain ⟨b, off, ha, hblt, hc⟩ := (unhide HR).at (by rw [unhide HCL]; omega)
   obtain ⟨b2, off2, ha2, hblt2, hc2⟩ := (unhide HR2).at (by rw [unhide HCL]; omega)
   subst ha ha2
   obtain ⟨x0, x1⟩ := row_two hc k hlt
   obtain ⟨y0, y1⟩ := row_two hc2 k hlt
   obtain ⟨x, ex⟩ : ∃ x, x = l[k].1 := ⟨_, rfl⟩
   obtain ⟨y, ey⟩ : ∃ y, y = l[k].2 := ⟨_, rfl⟩
   rw [← ex] at x0 y0
   rw [← ey] at x1 y1
   have hx0 : wr.cell? ⟨b, off + k * 2, none⟩ = some (.int .i64 x) := (hb.cell (p := ⟨b, off + k * 2, none⟩) hblt).trans x0
   have hx1 : wr.cell? ⟨b, off + k * 2 + 1, none⟩ = some (.int .i64 y) := (hb.cell (p := ⟨b, off + k * 2 + 1, none⟩) hblt).trans x1
   have hy0 : wr.cell? ⟨b2, off2 + k * 2, none⟩ = some (.int .i64 x) := (hb.cell (p := ⟨b2, off2 + k * 2, none⟩) hblt2).trans y0
   have hy1 : wr.cell? ⟨b2, off2 + k * 2 + 1, none⟩ = some (.int .i64 y) := (hb.cell (p := ⟨b2, off2 + k * 2 + 1, none⟩) hblt2).trans y1
   have hlt' : (k : Int) < (l.length : Int) := by omega
   have hlt0 : (0 : Int) ≤ (k : Int) := by omega
   have HB := hide hb
   clear hc hc2 HR HR2 HCL x0 x1 y0 y1 ex ey hb
   have hbw : b < wr.heap.size := Nat.lt_of_lt_of_le hblt (unhide HB).size
   have hbw2 : b2 < wr.heap.size := Nat.lt_of_lt_of_le hblt2 (unhide HB).size
   go_wp2_with fail
   go_region_held3 (fun w' => w'.cell? ⟨b, off + k * 2, none⟩ = some (.int .i64 x) ∧ w'.cell? ⟨b, off + k * 2 + 1, none⟩ = some (.int .i64 y) ∧ w'.cell? ⟨b2, off2 + k * 2, none⟩ = some (.int .i64 x) ∧ w'.cell? ⟨b2, off2 + k * 2 + 1, none⟩ = some (.int .i64 y)) (first | exact ⟨hx0, hx1, hy0, hy1⟩ | exact hs2) (first | (go_at_call 38; refine (eqCell1 x y _).mono ?_; rintro e w2 ⟨rfl, hb2⟩; have hs2 : w2.cell? ⟨b, off + k * 2, none⟩ = some (.int .i64 x) ∧ w2.cell? ⟨b, off + k * 2 + 1, none⟩ = some (.int .i64 y) ∧ w2.cell? ⟨b2, off2 + k * 2, none⟩ = some (.int .i64 x) ∧ w2.cell? ⟨b2, off2 + k * 2 + 1, none⟩ = some (.int .i64 y) := ⟨((below_undrew hb2).cell (p := ⟨b, off + k * 2, none⟩) hbw).trans hx0, ((below_undrew hb2).cell (p := ⟨b, off + k * 2 + 1, none⟩) hbw).trans hx1, ((below_undrew hb2).cell (p := ⟨b2, off2 + k * 2, none⟩) hbw2).trans hy0, ((below_undrew hb2).cell (p := ⟨b2, off2 + k * 2 + 1, none⟩) hbw2).trans hy1⟩; have HB2 := hide ((unhide HB).trans ((below_undrew hb2).mono (unhide HB).size)); clear hb2))
   go_wp2_with fail
   go_roundw
   case rel => exact ⟨k + 1, by omega, by go_num, unhide HB2⟩
   case measure => simp [intOf]; omega
  ·go_wp2_with fail
   go_ret
   exact ⟨rfl, hb⟩
def onesCell (k0 n : Nat) : List Value := (List.range (n * 2)).map fun j => .int .i64 (((k0 + j : Nat) : Int))
set_option maxHeartbeats 400000 in
set_option maxRecDepth 100000 in
theorem markCell (v : Value) (n lo hi k0 : Nat) (xs : List Value) (hn : n ≤ 2000000) (hk0 : k0 ≤ 2000000) (w : World) (h : HeldZ 2 w lo hi 53 v n xs) :
  Calls Tryd.prog 18 #[v, .int .i64 (k0 : Int)] w fun e w' => e = .returned (.int .i64 ((k0 + n * 2 : Nat) : Int)) ∧ HeldZ 2 w' lo hi 53 v n (onesCell k0 n) ∧ w.grownBy w' v.ownBlock := by
 have HX := hide (show xs.length = n * 2 from h.1.1)
 unfold onesCell
 rcases h.1.2 with ⟨rfl, rfl⟩ | ⟨g, cap, cur, rfl, _⟩
 ·go_enter Tryd.func18, Tryd.ntmps18
  go_wp2_with fail
  go_loopw [1, 5] (fun kk i wr => kk = .int .i64 (k0 : Int) ∧ i = .int .i64 0 ∧ wr = w) (fun _ _ _ => 0)
  case atStart => exact ⟨rfl, rfl, rfl⟩
  case round =>
   obtain ⟨rfl, rfl, rfl⟩ := hrel
   have h' : HeldZ 2 wr lo hi 53 (.slice none 0 0) 0 ((List.range (0 * 2)).map fun j => .int .i64 (((k0 + j : Nat) : Int))) := by
    have := List.length_eq_zero_iff.1 ((unhide HX).trans (by omega)); subst this; exact h
   go_wp2_with fail
   go_ret
   exact ⟨ret_int (by simp), h', grownBy_refl _ _⟩
 ·have HH := hide h
  clear h
  go_enter Tryd.func18, Tryd.ntmps18
  go_wp2_with fail
  go_loopw [1, 5] (fun kk i wr => ∃ j q : Nat, j ≤ n ∧ q = k0 + j * 2 ∧ i = .int .i64 j ∧ kk = .int .i64 (q : Int) ∧ Hid (HeldZ 2 wr lo hi 53 (.slice (some ⟨g, 0, none⟩) n cap) n (markV xs (fun j => .int .i64 (((k0 + j : Nat) : Int))) (j * 2))) ∧ Hid (w.grownBy wr (some g))) (fun _ i _ => n - (intOf i).toNat)
  case atStart => exact ⟨0, k0, by omega, rfl, rfl, rfl, by rw [Nat.zero_mul, markV_zero]; exact HH, grownBy_refl _ _⟩
  case round =>
   clear HH
   obtain ⟨j, q, hj, hq, rfl, rfl, HH, HG⟩ := hrel
   by_cases hlt : j < n
   ·obtain ⟨u0, hu0⟩ := cell_of (xs := xs) (j := j * 2) (by rw [unhide HX]; omega)
    obtain ⟨u1, hu1⟩ := cell_of (xs := xs) (j := j * 2 + 1) (by rw [unhide HX]; omega)
    have hown := (unhide HH).1
    have hc2 : wr.cell? ⟨g, j * 2, none⟩ = some u0 := by rw [hown.cellAt (j * 2) (by omega), markV_at, hu0]
    have hc3 : wr.cell? ⟨g, j * 2 + 1, none⟩ = some u1 := by
     have e := markV_set xs (fun j => Value.int .i64 (((k0 + j : Nat) : Int))) (j * 2) (by rw [unhide HX]; omega)
     have e2 := congrArg (fun l => l[j * 2 + 1]?) e
     simp only [List.getElem?_set] at e2
     rw [if_neg (by omega), markV_at, hu1] at e2
     rw [hown.cellAt (j * 2 + 1) (by omega), e2]
    have hf2 := hown.frozenAt (j * 2)
    have hf3 := hown.frozenAt (j * 2 + 1)
    have hlt' : (j : Int) < (n : Int) := by omega
    have hq2 : (q : Int) ≤ 8000000 := by omega
    obtain ⟨q1, hq1⟩ : ∃ q1, q1 = q + 1 := ⟨_, rfl⟩
    have a1 : (q : Int) + 1 = (q1 : Int) := by omega
    have R := ((hown.stored (j * 2) (.int .i64 (((k0 + j * 2 : Nat) : Int)))).1.stored (j * 2 + 1) (.int .i64 (((k0 + (j * 2 + 1) : Nat) : Int)))).1
    rw [markV_set xs (fun j => .int .i64 (((k0 + j : Nat) : Int))) (j * 2) (by rw [unhide HX]; omega), markV_set xs (fun j => .int .i64 (((k0 + j : Nat) : Int))) (j * 2 + 1) (by rw [unhide HX]; omega), show j * 2 + 1 + 1 = (j + 1) * 2 from by omega] at R
    have RH : HeldZ 2 ((wr.setCell ⟨g, j * 2, none⟩ (.int .i64 (((k0 + j * 2 : Nat) : Int)))).setCell ⟨g, j * 2 + 1, none⟩ (.int .i64 (((k0 + (j * 2 + 1) : Nat) : Int)))) lo hi 53 (.slice (some ⟨g, 0, none⟩) n cap) n (markV xs (fun j => .int .i64 (((k0 + j : Nat) : Int))) ((j + 1) * 2)) := ⟨R, (unhide HH).2.1, by have := (unhide HH).2.2; simpa using this⟩
    have RG := World.grownBy.trans' (World.grownBy.trans' (unhide HG) (stored_grown (g := g) (j := j * 2) (u := .int .i64 (((k0 + j * 2 : Nat) : Int))))) (stored_grown (g := g) (j := j * 2 + 1) (u := .int .i64 (((k0 + (j * 2 + 1) : Nat) : Int))))
    have hqe : ((k0 + j * 2 : Nat) : Int) = (q : Int) := by omega
    have hqe1 : ((k0 + (j * 2 + 1) : Nat) : Int) = (q1 : Int) := by omega
    rw [hqe, hqe1] at RH RG
    have RH := hide RH
    have RG := hide RG
    have HQ := hide hq
    have HQ1 := hide hq1
    clear hqe hqe1 hq hq1 hown R HH HG hu0 hu1
    go_wp2_with fail
    go_roundw
    case rel => exact ⟨j + 1, q1 + 1, by omega, by have := unhide HQ; have := unhide HQ1; omega, by go_num, by go_num, RH, RG⟩
    case measure => simp [intOf]; omega
   ·have ej : j = n := by omega
    rw [ej, markV_all xs _ (n * 2) (unhide HX).symm] at HH
    have eq2 : (q : Int) = ((k0 + n * 2 : Nat) : Int) := by omega
    clear hq
    go_wp2_with fail
    go_ret
    exact ⟨ret_int eq2, unhide HH, unhide HG⟩
set_option maxHeartbeats 400000 in
set_option maxRecDepth 100000 in
theorem heldCell (v : Value) (n lo hi k0 : Nat) (hn : n ≤ 2000000) (hk0 : k0 ≤ 2000000) (w : World) (h : HeldZ 2 w lo hi 53 v n (onesCell k0 n)) :
  Calls Tryd.prog 20 #[v, .int .i64 (k0 : Int)] w fun e w' => e = .returned (.int .i64 ((k0 + n * 2 : Nat) : Int)) ∧ Below w.heap.size w w' := by
 unfold onesCell at h
 obtain ⟨a, cap, rfl, hr⟩ := h.row
 have HR := hide hr
 clear hr h
 go_enter Tryd.func20, Tryd.ntmps20
 go_wp2_with fail
 go_loopw [1, 5] (fun kk i wr => ∃ j q : Nat, j ≤ n ∧ q = k0 + j * 2 ∧ i = .int .i64 j ∧ kk = .int .i64 (q : Int) ∧ Below w.heap.size w wr) (fun _ i _ => n - (intOf i).toNat)
 case atStart => exact ⟨0, k0, by omega, rfl, rfl, rfl, Below.refl _ _⟩
 case round =>
  obtain ⟨j, q, hj, hq, rfl, rfl, hb⟩ := hrel
  by_cases hlt : j < n
  ·obtain ⟨b, off, ha, hblt, hc⟩ := (unhide HR).at (by simp; omega)
   subst ha
   have hc1 : wr.cell? ⟨b, off + j * 2, none⟩ = some (.int .i64 (((k0 + j * 2 : Nat) : Int))) := (hb.cell (p := ⟨b, off + j * 2, none⟩) hblt).trans (hc (j * 2) _ (by rw [List.getElem?_map, List.getElem?_range (by omega)]; rfl))
   have hc2 : wr.cell? ⟨b, off + j * 2 + 1, none⟩ = some (.int .i64 (((k0 + (j * 2 + 1) : Nat) : Int))) := (hb.cell (p := ⟨b, off + j * 2 + 1, none⟩) hblt).trans (hc (j * 2 + 1) _ (by rw [List.getElem?_map, List.getElem?_range (by omega)]; rfl))
   have hlt' : (j : Int) < (n : Int) := by omega
   have hlt0 : (0 : Int) ≤ (j : Int) := by omega
   obtain ⟨q1, hq1⟩ : ∃ q1, q1 = q + 1 := ⟨_, rfl⟩
   have a1 : (q : Int) + 1 = (q1 : Int) := by omega
   have hqe : ((k0 + j * 2 : Nat) : Int) = (q : Int) := by omega
   have hqe1 : ((k0 + (j * 2 + 1) : Nat) : Int) = (q1 : Int) := by omega
   have hq2 : (q : Int) ≤ 8000000 := by omega
   rw [hqe] at hc1
   rw [hqe1] at hc2
   have HQ := hide hq
   have HQ1 := hide hq1
   clear hqe hqe1 hq hq1
   have hne : ((q : Int) != (q : Int)) = false := by simp
   have hne1 : ((q1 : Int) != (q1 : Int)) = false := by simp
   clear hc HR
   go_wp2_with fail
   all_goals
    go_roundw
    case rel => exact ⟨j + 1, q1 + 1, by omega, by have := unhide HQ; have := unhide HQ1; omega, by go_num, by go_num, hb⟩
    case measure => simp [intOf]; omega
  ·go_wp2_with fail
   go_ret
   exact ⟨ret_int (by omega), hb⟩
end Go.Proofs.YtpcdjpfffanlbaaDoor
