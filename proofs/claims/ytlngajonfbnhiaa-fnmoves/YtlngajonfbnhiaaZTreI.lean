/- isPane, panePart, paneNumberOK: what the program answers. -/
import Derived.Test.YtlngajonfbnhiaaZTreM
import Derived.Lib.SmallJoins
namespace Go.Proofs.Ytlngajonfbnhiaa
open Go.ChangeShapes Go.WideShapes Go.ChangeAt Go.RowKit
theorem ipane_pane (b : Nat) (n : Int) (w : World) (h : BF b (iBx.leaf n) w) : Calls Try.prog 42 #[.pointer (some ⟨b, 0, none⟩)] w fun e w' => e = .returned (.bool true) ∧ w' = w := by
 have c3 : w.cell? ⟨b, 3, none⟩ = some (.pointer none) := h.S 3
 clear h
 go_enter Try.func42, Try.ntmps42
 go_wp2_with fail
 go_ret
 exact ⟨rfl, rfl⟩
theorem ipane_split (b : Nat) (r : Bool) (s : Int) (bl br : Nat) (w : World) (h : BF b (iBx.node r s bl br) w) : Calls Try.prog 42 #[.pointer (some ⟨b, 0, none⟩)] w fun e w' => e = .returned (.bool false) ∧ w' = w := by
 have c3 : w.cell? ⟨b, 3, none⟩ = some (.pointer (some ⟨bl, 0, none⟩)) := h.S 3
 clear h
 go_enter Try.func42, Try.ntmps42
 go_wp2_with fail
 go_ret
 exact ⟨rfl, rfl⟩
set_option maxHeartbeats 400000 in
set_option maxRecDepth 100000 in
theorem ippart (n : Int) (w : World) : Calls Try.prog 57 #[.int .i64 n] w fun e w' => e = .returned (.agg #[.int .i64 n, .bool false, .int .i64 0, .int .i64 (-1), .int .i64 (-1)]) ∧ Below w.heap.size w w' := by
 go_enter Try.func57, Try.ntmps57
 go_wp2_with fail
 refine bodyPost_ret (v := .agg #[.int .i64 n, .bool false, .int .i64 0, .int .i64 (-1), .int .i64 (-1)]) (by simp [results, Try.results57, go_sem]) rfl ⟨rfl, ?_⟩
 repeat refine Below.setCell ?_ (by exact Nat.le_refl _) _
 first | exact Go.Joins.below_alloc1 w _ | exact Go.Joins.below_alloc2 w _ _
set_option maxHeartbeats 400000 in
theorem ipnok (n : Int) (w : World) : Calls Try.prog 60 #[.int .i64 n] w fun e w' => e = .returned (.bool (pnB n)) ∧ w' = w := by
 have e : pnB n = (decide (1 ≤ n) && decide (n ≤ 1000)) := by unfold pnB; simp only [Bool.decide_and]
 rw [e]
 clear e
 by_cases h1 : 1 ≤ n
 ·by_cases h2 : n ≤ 1000
  all_goals
   go_enter Try.func60, Try.ntmps60
   go_wp2_with fail
   go_ret
   exact ⟨ret_bool (by simp [*] <;> omega), rfl⟩
 ·go_enter Try.func60, Try.ntmps60
  go_wp2_with fail
  go_ret
  exact ⟨ret_bool (by simp [*] <;> omega), rfl⟩
end Go.Proofs.Ytlngajonfbnhiaa
