/- Texts put together: HeldS SizeS. -/
import Derived.Test.YtpcdjpfffanlbaaDoorZMarkS
import Derived.Test.YtpcdjpfffanlbaaDoorZStrS
/- Rows of texts: what the laws' own helper tells of a marked row. -/
namespace Go.Proofs.YtpcdjpfffanlbaaDoor
open Go.ChangeShapes Go.WideShapes Go.ChangeAt Go.RowKit
set_option maxHeartbeats 400000 in
set_option maxRecDepth 100000 in
theorem heldString (v : Value) (n lo hi k0 : Nat) (hn : n ≤ 2000000) (h1 : 0 < k0) (hk0 : k0 ≤ 2000000) (w : World) (h : Held w lo hi 9 v n ((List.range n).map fun j => .string (mtS (k0 + j)))) :
  Calls Tryd.prog 21 #[v, .int .i64 (k0 : Int)] w fun e w' => e = .returned (.int .i64 ((k0 + n : Nat) : Int)) ∧ Below w.heap.size w w' := by
 obtain ⟨a, cap, rfl, hr⟩ := h.row
 have HR := hide hr
 clear hr h
 go_enter Tryd.func21, Tryd.ntmps21
 go_wp2_with fail
 go_loopw [1, 5] (fun kk i wr => ∃ j q : Nat, j ≤ n ∧ Hid (q = k0 + j) ∧ i = .int .i64 j ∧ kk = .int .i64 (q : Int) ∧ Hid (Below w.heap.size w wr)) (fun _ i _ => n - (intOf i).toNat)
 case atStart => exact ⟨0, k0, by omega, rfl, rfl, rfl, Below.refl _ _⟩
 case round =>
  obtain ⟨j, q, hj, HQ, rfl, rfl, HB⟩ := hrel
  have hq := unhide HQ
  have hq2 : q ≤ 4000000 := by omega
  by_cases hlt : j < n
  ·obtain ⟨b, off, ha, hblt, hc⟩ := (unhide HR).at (by simp; omega)
   subst ha
   have hc1 : wr.cell? ⟨b, off + j, none⟩ = some (.string (mtS q)) := by rw [hq]; exact ((unhide HB).cell (p := ⟨b, off + j, none⟩) hblt).trans (hc j _ (by rw [List.getElem?_map, List.getElem?_range hlt]; rfl))
   have hlt' : (j : Int) < (n : Int) := by omega
   have hlt0 : (0 : Int) ≤ (j : Int) := by omega
   have hq1 : 0 < q := by omega
   have hbw : b < wr.heap.size := Nat.lt_of_lt_of_le hblt (unhide HB).size
   obtain ⟨x, hx⟩ : ∃ x, x = mtS q := ⟨_, rfl⟩
   rw [← hx] at hc1
   have HX := hide hx
   have hne : (x.toList != x.toList) = false := by simp
   clear hq hc HR hx
   go_wp2_with fail
   go_region_held3 (fun w' => w'.cell? ⟨b, off + j, none⟩ = some (.string x)) (first | exact hc1 | exact hc2) (first | (go_at_call 39; refine (markText27 q hq1 hq2 _).mono ?_; rintro e w2 ⟨rfl, hb2⟩; rw [← unhide HX]; have hc2 : w2.cell? ⟨b, off + j, none⟩ = some (.string x) := ((below_undrew hb2).cell (p := ⟨b, off + j, none⟩) hbw).trans hc1; have HB2 := hide ((unhide HB).trans ((below_undrew hb2).mono (unhide HB).size)); clear hb2))
   all_goals
    go_wp2_with fail
    go_roundw
    case rel => exact ⟨j + 1, q + 1, by omega, by show q + 1 = k0 + (j + 1); have := unhide HQ; omega, by go_num, by go_num, HB2⟩
    case measure => simp [intOf]; omega
  ·go_wp2_with fail
   go_ret
   exact ⟨ret_int (by omega), unhide HB⟩
end Go.Proofs.YtpcdjpfffanlbaaDoor

/- The size of a list of texts, as the laws reckon it. -/
namespace Go.Proofs.YtpcdjpfffanlbaaDoor
open Go.ChangeShapes Go.WideShapes Go.ChangeAt Go.RowKit
end Go.Proofs.YtpcdjpfffanlbaaDoor
