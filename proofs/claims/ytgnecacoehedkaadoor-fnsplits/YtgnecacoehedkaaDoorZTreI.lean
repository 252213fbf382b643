/- isPane, panePart, paneNumberOK: what the program answers. -/
import Derived.Test.YtgnecacoehedkaaDoorZTreM
import Derived.Lib.SmallJoins
namespace Go.Proofs.YtgnecacoehedkaaDoor
open Go.ChangeShapes Go.WideShapes Go.ChangeAt Go.RowKit
theorem ipane_pane (b : Nat) (n : Int) (w : World) (h : BF b (iBx.leaf n) w) : Calls Tryd.prog 50 #[.pointer (some ⟨b, 0, none⟩)] w fun e w' => e = .returned (.bool true) ∧ w' = w := by
 have c3 : w.cell? ⟨b, 3, none⟩ = some (.pointer none) := h.S 3
 clear h
 go_enter Tryd.func50, Tryd.ntmps50
 go_wp2_with fail
 go_ret
 exact ⟨rfl, rfl⟩
theorem ipane_split (b : Nat) (r : Bool) (s : Int) (bl br : Nat) (w : World) (h : BF b (iBx.node r s bl br) w) : Calls Tryd.prog 50 #[.pointer (some ⟨b, 0, none⟩)] w fun e w' => e = .returned (.bool false) ∧ w' = w := by
 have c3 : w.cell? ⟨b, 3, none⟩ = some (.pointer (some ⟨bl, 0, none⟩)) := h.S 3
 clear h
 go_enter Tryd.func50, Tryd.ntmps50
 go_wp2_with fail
 go_ret
 exact ⟨rfl, rfl⟩
set_option maxHeartbeats 400000 in
set_option maxRecDepth 100000 in
theorem ippart (n : Int) (w : World) : Calls Tryd.prog 61 #[.int .i64 n] w fun e w' => e = .returned (.agg #[.int .i64 n, .bool false, .int .i64 0, .int .i64 (-1), .int .i64 (-1)]) ∧ Below w.heap.size w w' := by
 go_enter Tryd.func61, Tryd.ntmps61
 go_wp2_with fail
 refine bodyPost_ret (v := .agg #[.int .i64 n, .bool false, .int .i64 0, .int .i64 (-1), .int .i64 (-1)]) (by simp [results, Tryd.results61, go_sem]) rfl ⟨rfl, ?_⟩
 repeat refine Below.setCell ?_ (by exact Nat.le_refl _) _
 first | exact Go.Joins.below_alloc1 w _ | exact Go.Joins.below_alloc2 w _ _
set_option maxHeartbeats 400000 in
theorem ipnok (n : Int) (w : World) : Calls Tryd.prog 18 #[.int .i64 n] w fun e w' => e = .returned (.bool (pnB n)) ∧ w' = w := by
 have e : pnB n = (decide (1 ≤ n) && decide (n ≤ 1000)) := by unfold pnB; simp only [Bool.decide_and]
 rw [e]
 clear e
 by_cases h1 : 1 ≤ n
 ·by_cases h2 : n ≤ 1000
  all_goals
   go_enter Tryd.func18, Tryd.ntmps18
   go_wp2_with fail
   go_ret
   exact ⟨ret_bool (by simp [*] <;> omega), rfl⟩
 ·go_enter Tryd.func18, Tryd.ntmps18
  go_wp2_with fail
  go_ret
  exact ⟨ret_bool (by simp [*] <;> omega), rfl⟩
end Go.Proofs.YtgnecacoehedkaaDoor
