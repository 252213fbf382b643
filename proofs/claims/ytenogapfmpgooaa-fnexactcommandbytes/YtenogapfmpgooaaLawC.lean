/- Commands: the laws' own helpers: sizes, copies. -/
import Derived.Test.YtenogapfmpgooaaBase
import Derived.Test.YtenogapfmpgooaaBf
import Derived.Lib.SmallJoins
namespace Go.Proofs.Ytenogapfmpgooaa
open Go.ChangeShapes Go.WideShapes Go.ChangeAt Go.RowKit
set_option maxHeartbeats 1000000 in
set_option maxRecDepth 100000 in
theorem szCmd (k cl sq p n ep : Int) (r : Bool) (nm dt : ByteArray) (h1 : nm.size ≤ maxLen) (h2 : dt.size ≤ maxLen) (w : World) : Calls Try.prog 4 #[.agg #[.int .i64 k, .int .i64 cl, .int .i64 sq, .int .i64 p, .int .i64 n, .int .i64 ep, .bool r, .string nm, .string dt], .int .i64 1048576] w fun e w' => ∃ x : Int, e = .returned (.int .i64 x) ∧ Below w.heap.size w w' ∧ (x = -1 ∨ ∃ z : Nat, x = (z : Int) ∧ nm.size ≤ 1048576 ∧ dt.size ≤ 1048576) := by
  have HB := hide (Go.Joins.below_alloc1 w (.cells #[.int .i64 k, .int .i64 cl, .int .i64 sq, .int .i64 p, .int .i64 n, .int .i64 ep, .bool r, .string nm, .string dt] 23))
  unfold maxLen at h1 h2
  obtain ⟨a, ha⟩ : ∃ a : Nat, a = nm.size := ⟨_, rfl⟩
  obtain ⟨b, hb⟩ : ∃ b : Nat, b = dt.size := ⟨_, rfl⟩
  have HA := hide ha
  have HBB := hide hb
  rw [← ha] at h1
  rw [← hb] at h2
  have la : (nm.size : Int) = (a : Int) := by rw [ha]
  have lb : (dt.size : Int) = (b : Int) := by rw [hb]
  clear ha hb
  by_cases c1 : a ≤ 1048576
  · by_cases c2 : a + b ≤ 1048576
    · go_enter Try.func4, Try.ntmps4
      go_wp2_with fail
      go_ret
      refine ⟨_, rfl, unhide HB, .inr ⟨1048576 - a - b, by omega, by rw [← unhide HA]; omega, by rw [← unhide HBB]; omega⟩⟩
    · go_enter Try.func4, Try.ntmps4
      go_wp2_with fail
      go_ret
      exact ⟨_, rfl, unhide HB, .inl rfl⟩
  · go_enter Try.func4, Try.ntmps4
    go_wp2_with fail
    go_ret
    exact ⟨_, rfl, unhide HB, .inl rfl⟩
set_option maxHeartbeats 1000000 in
set_option maxRecDepth 100000 in
theorem toCmd (k cl sq p n ep : Int) (r : Bool) (nm dt : ByteArray) (w : World) : Calls Try.prog 6 #[.agg #[.int .i64 k, .int .i64 cl, .int .i64 sq, .int .i64 p, .int .i64 n, .int .i64 ep, .bool r, .string nm, .string dt]] w fun e w' => e = .returned (.agg #[.int .i64 k, .int .i64 cl, .int .i64 sq, .int .i64 p, .int .i64 n, .int .i64 ep, .bool r, .string nm, .string dt]) ∧ Below w.heap.size w w' := by
  go_enter Try.func6, Try.ntmps6
  go_wp2_with fail
  refine bodyPost_ret (v := .agg #[.int .i64 k, .int .i64 cl, .int .i64 sq, .int .i64 p, .int .i64 n, .int .i64 ep, .bool r, .string nm, .string dt]) (by simp [results, Try.results6, go_sem]) rfl ⟨rfl, ?_⟩
  exact Go.Joins.below_alloc3 w _ _ _
end Go.Proofs.Ytenogapfmpgooaa
