/- Commands: what the specification answers. -/
import Derived.Test.YtoplijjddhecgaaDoorZG2
import Derived.Test.YtoplijjddhecgaaDoorZInS
import Derived.Test.YtoplijjddhecgaaDoorZG20
import Derived.Lib.SmallJoins
namespace Go.Proofs.YtoplijjddhecgaaDoor
open Go.ChangeShapes Go.WideShapes Go.ChangeAt Go.RowKit
set_option linter.unusedVariables false
theorem emp_list : (⟨#[]⟩ : ByteArray).toList = [] := by simp [ByteArray.toList_eq]
theorem name_ne {s : ByteArray} (h : nameB s = true) : ¬ s.toList = [] := by
  intro e
  have h0 : 0 < s.size := (of_decide_eq_true h).1
  rw [ByteArray.toList_eq] at e
  have h3 : s.data.toList.length = 0 := by rw [e]; rfl
  have h2 : s.size = s.data.toList.length := by rw [Array.length_toList]; rfl
  omega
theorem size_in (x y : Int) : sizeB x y = (inB x 2 24 && inB y 2 10) := by
  unfold sizeB inB
  rw [Bool.eq_iff_iff]
  simp
  omega
theorem name_emp {s : ByteArray} (h : s.toList = []) : nameB s = false := by
  cases e : nameB s
  · rfl
  · exact absurd h (name_ne e)
theorem in0 : inB 0 1 1000 = false := rfl
theorem isE (l : List UInt8) : l.isEmpty = decide (l = []) := by cases l <;> simp
theorem c12 (n : Nat) : ((n : Int) ≤ 12) = (n ≤ 12) := by apply propext; omega
theorem c12' (n : Nat) : (12 < (n : Int)) = (12 < n) := by apply propext; omega
set_option maxHeartbeats 2000000 in
set_option maxRecDepth 100000 in
theorem scmd_isWindow (cl sq p n ep : Int) (r : Bool) (nm dt : ByteArray) (HNM : Hid (nm.size ≤ 1048576)) (HDT : Hid (dt.size ≤ 1048576)) (R : Bool) (HR : Hid (R = (inB cl 0 200 && (inB sq 1 60000 && isWindowB p n ep r nm dt)))) (w : World) : Calls Tryd.prog 16 #[.agg #[.int .i64 1, .int .i64 cl, .int .i64 sq, .int .i64 p, .int .i64 n, .int .i64 ep, .bool r, .string nm, .string dt]] w fun e w' => e = .returned (.bool R) ∧ Below w.heap.size w w' := by
  have HB := hide (Go.Joins.below_alloc1 w (.cells #[.int .i64 1, .int .i64 cl, .int .i64 sq, .int .i64 p, .int .i64 n, .int .i64 ep, .bool r, .string nm, .string dt] 24))
  have hz1 : (nm.size : Int) ≤ 1048576 := by have := unhide HNM; omega
  have hz2 : (dt.size : Int) ≤ 1048576 := by have := unhide HDT; omega
  go_enter Tryd.func16, Tryd.ntmps16
  go_wp2_with (first | (go_at_call 33; refine (sin _ _ _ _).mono ?_; rintro e w2 ⟨rfl, rfl⟩) | (go_at_call 34; refine (name5 _ (by first | exact unhide HNM | exact unhide HDT) _).mono ?_; rintro e w2 ⟨rfl, rfl⟩))
  all_goals
    go_ret
    refine ⟨ret_bool ?_, Go.Joins.below_alloc1 w _⟩
    rw [unhide HR]
    clear HR HB HNM HDT hz1 hz2
    simp_all [isWindowB, jst, wnB, c12, c12', isE]
    all_goals (try (intros; first | omega | exact name_emp (by assumption) | (rename_i hq _; exact absurd (by assumption) (name_ne hq))))
set_option maxHeartbeats 2000000 in
set_option maxRecDepth 100000 in
theorem scmd_isSplit (cl sq p n ep : Int) (r : Bool) (nm dt : ByteArray) (HNM : Hid (nm.size ≤ 1048576)) (HDT : Hid (dt.size ≤ 1048576)) (R : Bool) (HR : Hid (R = (inB cl 0 200 && (inB sq 1 60000 && isSplitB p n ep r nm dt)))) (w : World) : Calls Tryd.prog 16 #[.agg #[.int .i64 2, .int .i64 cl, .int .i64 sq, .int .i64 p, .int .i64 n, .int .i64 ep, .bool r, .string nm, .string dt]] w fun e w' => e = .returned (.bool R) ∧ Below w.heap.size w w' := by
  have HB := hide (Go.Joins.below_alloc1 w (.cells #[.int .i64 2, .int .i64 cl, .int .i64 sq, .int .i64 p, .int .i64 n, .int .i64 ep, .bool r, .string nm, .string dt] 24))
  have hz1 : (nm.size : Int) ≤ 1048576 := by have := unhide HNM; omega
  have hz2 : (dt.size : Int) ≤ 1048576 := by have := unhide HDT; omega
  go_enter Tryd.func16, Tryd.ntmps16
  go_wp2_with (first | (go_at_call 33; refine (sin _ _ _ _).mono ?_; rintro e w2 ⟨rfl, rfl⟩) | (go_at_call 34; refine (name5 _ (by first | exact unhide HNM | exact unhide HDT) _).mono ?_; rintro e w2 ⟨rfl, rfl⟩))
  all_goals
    go_ret
    refine ⟨ret_bool ?_, Go.Joins.below_alloc1 w _⟩
    rw [unhide HR]
    clear HR HB HNM HDT hz1 hz2
    simp_all [isSplitB, jst, in0, isE]
    all_goals (try (intros; first | omega | exact name_emp (by assumption) | (rename_i hq _; exact absurd (by assumption) (name_ne hq))))
set_option maxHeartbeats 2000000 in
set_option maxRecDepth 100000 in
theorem scmd_isKill (cl sq p n ep : Int) (r : Bool) (nm dt : ByteArray) (HNM : Hid (nm.size ≤ 1048576)) (HDT : Hid (dt.size ≤ 1048576)) (R : Bool) (HR : Hid (R = (inB cl 0 200 && (inB sq 1 60000 && isKillB p n ep r nm dt)))) (w : World) : Calls Tryd.prog 16 #[.agg #[.int .i64 3, .int .i64 cl, .int .i64 sq, .int .i64 p, .int .i64 n, .int .i64 ep, .bool r, .string nm, .string dt]] w fun e w' => e = .returned (.bool R) ∧ Below w.heap.size w w' := by
  have HB := hide (Go.Joins.below_alloc1 w (.cells #[.int .i64 3, .int .i64 cl, .int .i64 sq, .int .i64 p, .int .i64 n, .int .i64 ep, .bool r, .string nm, .string dt] 24))
  have hz1 : (nm.size : Int) ≤ 1048576 := by have := unhide HNM; omega
  have hz2 : (dt.size : Int) ≤ 1048576 := by have := unhide HDT; omega
  go_enter Tryd.func16, Tryd.ntmps16
  go_wp2_with (first | (go_at_call 33; refine (sin _ _ _ _).mono ?_; rintro e w2 ⟨rfl, rfl⟩) | (go_at_call 34; refine (name5 _ (by first | exact unhide HNM | exact unhide HDT) _).mono ?_; rintro e w2 ⟨rfl, rfl⟩))
  all_goals
    go_ret
    refine ⟨ret_bool ?_, Go.Joins.below_alloc1 w _⟩
    rw [unhide HR]
    clear HR HB HNM HDT hz1 hz2
    simp_all [isKillB, jst, in0, isE]
    all_goals (try (intros; first | omega | exact name_emp (by assumption) | (rename_i hq _; exact absurd (by assumption) (name_ne hq))))
set_option maxHeartbeats 2000000 in
set_option maxRecDepth 100000 in
theorem scmd_isMove (cl sq p n ep : Int) (r : Bool) (nm dt : ByteArray) (HNM : Hid (nm.size ≤ 1048576)) (HDT : Hid (dt.size ≤ 1048576)) (R : Bool) (HR : Hid (R = (inB cl 0 200 && (inB sq 1 60000 && isMoveB p n ep r nm dt)))) (w : World) : Calls Tryd.prog 16 #[.agg #[.int .i64 4, .int .i64 cl, .int .i64 sq, .int .i64 p, .int .i64 n, .int .i64 ep, .bool r, .string nm, .string dt]] w fun e w' => e = .returned (.bool R) ∧ Below w.heap.size w w' := by
  have HB := hide (Go.Joins.below_alloc1 w (.cells #[.int .i64 4, .int .i64 cl, .int .i64 sq, .int .i64 p, .int .i64 n, .int .i64 ep, .bool r, .string nm, .string dt] 24))
  have hz1 : (nm.size : Int) ≤ 1048576 := by have := unhide HNM; omega
  have hz2 : (dt.size : Int) ≤ 1048576 := by have := unhide HDT; omega
  go_enter Tryd.func16, Tryd.ntmps16
  go_wp2_with (first | (go_at_call 33; refine (sin _ _ _ _).mono ?_; rintro e w2 ⟨rfl, rfl⟩) | (go_at_call 34; refine (name5 _ (by first | exact unhide HNM | exact unhide HDT) _).mono ?_; rintro e w2 ⟨rfl, rfl⟩))
  all_goals
    go_ret
    refine ⟨ret_bool ?_, Go.Joins.below_alloc1 w _⟩
    rw [unhide HR]
    clear HR HB HNM HDT hz1 hz2
    simp_all [isMoveB, jst, in0, isE]
    all_goals (try (intros; first | omega | exact name_emp (by assumption) | (rename_i hq _; exact absurd (by assumption) (name_ne hq))))
set_option maxHeartbeats 2000000 in
set_option maxRecDepth 100000 in
theorem scmd_isOutput (cl sq p n ep : Int) (r : Bool) (nm dt : ByteArray) (HNM : Hid (nm.size ≤ 1048576)) (HDT : Hid (dt.size ≤ 1048576)) (R : Bool) (HR : Hid (R = (inB cl 0 200 && (inB sq 1 60000 && isOutputB p n ep r nm dt)))) (w : World) : Calls Tryd.prog 16 #[.agg #[.int .i64 5, .int .i64 cl, .int .i64 sq, .int .i64 p, .int .i64 n, .int .i64 ep, .bool r, .string nm, .string dt]] w fun e w' => e = .returned (.bool R) ∧ Below w.heap.size w w' := by
  have HB := hide (Go.Joins.below_alloc1 w (.cells #[.int .i64 5, .int .i64 cl, .int .i64 sq, .int .i64 p, .int .i64 n, .int .i64 ep, .bool r, .string nm, .string dt] 24))
  have hz1 : (nm.size : Int) ≤ 1048576 := by have := unhide HNM; omega
  have hz2 : (dt.size : Int) ≤ 1048576 := by have := unhide HDT; omega
  go_enter Tryd.func16, Tryd.ntmps16
  go_wp2_with (first | (go_at_call 33; refine (sin _ _ _ _).mono ?_; rintro e w2 ⟨rfl, rfl⟩) | (go_at_call 34; refine (name5 _ (by first | exact unhide HNM | exact unhide HDT) _).mono ?_; rintro e w2 ⟨rfl, rfl⟩))
  all_goals
    go_ret
    refine ⟨ret_bool ?_, Go.Joins.below_alloc1 w _⟩
    rw [unhide HR]
    clear HR HB HNM HDT hz1 hz2
    simp_all [isOutputB, jst, in0]
    all_goals (try (intros; first | omega | exact name_emp (by assumption) | (rename_i hq _; exact absurd (by assumption) (name_ne hq))))
set_option maxHeartbeats 2000000 in
set_option maxRecDepth 100000 in
theorem scmd_isOwn (cl sq p n ep : Int) (r : Bool) (nm dt : ByteArray) (HNM : Hid (nm.size ≤ 1048576)) (HDT : Hid (dt.size ≤ 1048576)) (R : Bool) (HR : Hid (R = (inB cl 0 200 && (inB sq 1 60000 && isOwnB p n ep r nm dt)))) (w : World) : Calls Tryd.prog 16 #[.agg #[.int .i64 6, .int .i64 cl, .int .i64 sq, .int .i64 p, .int .i64 n, .int .i64 ep, .bool r, .string nm, .string dt]] w fun e w' => e = .returned (.bool R) ∧ Below w.heap.size w w' := by
  have HB := hide (Go.Joins.below_alloc1 w (.cells #[.int .i64 6, .int .i64 cl, .int .i64 sq, .int .i64 p, .int .i64 n, .int .i64 ep, .bool r, .string nm, .string dt] 24))
  have hz1 : (nm.size : Int) ≤ 1048576 := by have := unhide HNM; omega
  have hz2 : (dt.size : Int) ≤ 1048576 := by have := unhide HDT; omega
  go_enter Tryd.func16, Tryd.ntmps16
  go_wp2_with (first | (go_at_call 33; refine (sin _ _ _ _).mono ?_; rintro e w2 ⟨rfl, rfl⟩) | (go_at_call 34; refine (name5 _ (by first | exact unhide HNM | exact unhide HDT) _).mono ?_; rintro e w2 ⟨rfl, rfl⟩))
  all_goals
    go_ret
    refine ⟨ret_bool ?_, Go.Joins.below_alloc1 w _⟩
    rw [unhide HR]
    clear HR HB HNM HDT hz1 hz2
    simp_all [isOwnB, jst, in0, isE]
    all_goals (try (intros; first | omega | exact name_emp (by assumption) | (rename_i hq _; exact absurd (by assumption) (name_ne hq))))
set_option maxHeartbeats 2000000 in
set_option maxRecDepth 100000 in
theorem scmd_isResize (cl sq p n ep : Int) (r : Bool) (nm dt : ByteArray) (HNM : Hid (nm.size ≤ 1048576)) (HDT : Hid (dt.size ≤ 1048576)) (R : Bool) (HR : Hid (R = (inB cl 0 200 && (inB sq 1 60000 && isResizeB p n ep r nm dt)))) (w : World) : Calls Tryd.prog 16 #[.agg #[.int .i64 7, .int .i64 cl, .int .i64 sq, .int .i64 p, .int .i64 n, .int .i64 ep, .bool r, .string nm, .string dt]] w fun e w' => e = .returned (.bool R) ∧ Below w.heap.size w w' := by
  have HB := hide (Go.Joins.below_alloc1 w (.cells #[.int .i64 7, .int .i64 cl, .int .i64 sq, .int .i64 p, .int .i64 n, .int .i64 ep, .bool r, .string nm, .string dt] 24))
  have hz1 : (nm.size : Int) ≤ 1048576 := by have := unhide HNM; omega
  have hz2 : (dt.size : Int) ≤ 1048576 := by have := unhide HDT; omega
  go_enter Tryd.func16, Tryd.ntmps16
  go_wp2_with (first | (go_at_call 33; refine (sin _ _ _ _).mono ?_; rintro e w2 ⟨rfl, rfl⟩) | (go_at_call 34; refine (name5 _ (by first | exact unhide HNM | exact unhide HDT) _).mono ?_; rintro e w2 ⟨rfl, rfl⟩))
  all_goals
    go_ret
    refine ⟨ret_bool ?_, Go.Joins.below_alloc1 w _⟩
    rw [unhide HR]
    clear HR HB HNM HDT hz1 hz2
    simp_all [isResizeB, jst, size_in, isE]
    all_goals (try (intros; first | omega | exact name_emp (by assumption) | (rename_i hq _; exact absurd (by assumption) (name_ne hq))))
set_option maxHeartbeats 2000000 in
set_option maxRecDepth 100000 in
theorem scmd_isRename (cl sq p n ep : Int) (r : Bool) (nm dt : ByteArray) (HNM : Hid (nm.size ≤ 1048576)) (HDT : Hid (dt.size ≤ 1048576)) (R : Bool) (HR : Hid (R = (inB cl 0 200 && (inB sq 1 60000 && isRenameB p n ep r nm dt)))) (w : World) : Calls Tryd.prog 16 #[.agg #[.int .i64 8, .int .i64 cl, .int .i64 sq, .int .i64 p, .int .i64 n, .int .i64 ep, .bool r, .string nm, .string dt]] w fun e w' => e = .returned (.bool R) ∧ Below w.heap.size w w' := by
  have HB := hide (Go.Joins.below_alloc1 w (.cells #[.int .i64 8, .int .i64 cl, .int .i64 sq, .int .i64 p, .int .i64 n, .int .i64 ep, .bool r, .string nm, .string dt] 24))
  have hz1 : (nm.size : Int) ≤ 1048576 := by have := unhide HNM; omega
  have hz2 : (dt.size : Int) ≤ 1048576 := by have := unhide HDT; omega
  go_enter Tryd.func16, Tryd.ntmps16
  go_wp2_with (first | (go_at_call 33; refine (sin _ _ _ _).mono ?_; rintro e w2 ⟨rfl, rfl⟩) | (go_at_call 34; refine (name5 _ (by first | exact unhide HNM | exact unhide HDT) _).mono ?_; rintro e w2 ⟨rfl, rfl⟩))
  all_goals
    go_ret
    refine ⟨ret_bool ?_, Go.Joins.below_alloc1 w _⟩
    rw [unhide HR]
    clear HR HB HNM HDT hz1 hz2
    simp_all [isRenameB, jst, wnB, c12, c12', isE]
    all_goals (try (intros; first | omega | exact name_emp (by assumption) | (rename_i hq _; exact absurd (by assumption) (name_ne hq))))
set_option maxHeartbeats 2000000 in
set_option maxRecDepth 100000 in
theorem scmd_none (k cl sq p n ep : Int) (r : Bool) (nm dt : ByteArray) (hk : inB k 1 8 = false) (HNM : Hid (nm.size ≤ 1048576)) (HDT : Hid (dt.size ≤ 1048576)) (R : Bool) (HR : Hid (R = false)) (w : World) : Calls Tryd.prog 16 #[.agg #[.int .i64 k, .int .i64 cl, .int .i64 sq, .int .i64 p, .int .i64 n, .int .i64 ep, .bool r, .string nm, .string dt]] w fun e w' => e = .returned (.bool R) ∧ Below w.heap.size w w' := by
  have HB := hide (Go.Joins.below_alloc1 w (.cells #[.int .i64 k, .int .i64 cl, .int .i64 sq, .int .i64 p, .int .i64 n, .int .i64 ep, .bool r, .string nm, .string dt] 24))
  have hz1 : (nm.size : Int) ≤ 1048576 := by have := unhide HNM; omega
  have hz2 : (dt.size : Int) ≤ 1048576 := by have := unhide HDT; omega
  go_enter Tryd.func16, Tryd.ntmps16
  go_wp2_with (first | (go_at_call 33; refine (sin _ _ _ _).mono ?_; rintro e w2 ⟨rfl, rfl⟩) | (go_at_call 34; refine (name5 _ (by first | exact unhide HNM | exact unhide HDT) _).mono ?_; rintro e w2 ⟨rfl, rfl⟩))
  all_goals
    go_ret
    refine ⟨ret_bool ?_, Go.Joins.below_alloc1 w _⟩
    exact (unhide HR).symm
theorem scmd (k cl sq p n ep : Int) (r : Bool) (nm dt : ByteArray) (HNM : Hid (nm.size ≤ 1048576)) (HDT : Hid (dt.size ≤ 1048576)) (R : Bool) (HR : Hid (R = cmdB k cl sq p n ep r nm dt)) (w : World) : Calls Tryd.prog 16 #[.agg #[.int .i64 k, .int .i64 cl, .int .i64 sq, .int .i64 p, .int .i64 n, .int .i64 ep, .bool r, .string nm, .string dt]] w fun e w' => e = .returned (.bool R) ∧ Below w.heap.size w w' := by
  have hR := unhide HR
  unfold cmdB kindB at hR
  by_cases h1 : k = 1
  · subst h1
    exact scmd_isWindow cl sq p n ep r nm dt HNM HDT R (show R = _ from by simpa using hR) w
  by_cases h2 : k = 2
  · subst h2
    exact scmd_isSplit cl sq p n ep r nm dt HNM HDT R (show R = _ from by simpa using hR) w
  by_cases h3 : k = 3
  · subst h3
    exact scmd_isKill cl sq p n ep r nm dt HNM HDT R (show R = _ from by simpa using hR) w
  by_cases h4 : k = 4
  · subst h4
    exact scmd_isMove cl sq p n ep r nm dt HNM HDT R (show R = _ from by simpa using hR) w
  by_cases h5 : k = 5
  · subst h5
    exact scmd_isOutput cl sq p n ep r nm dt HNM HDT R (show R = _ from by simpa using hR) w
  by_cases h6 : k = 6
  · subst h6
    exact scmd_isOwn cl sq p n ep r nm dt HNM HDT R (show R = _ from by simpa using hR) w
  by_cases h7 : k = 7
  · subst h7
    exact scmd_isResize cl sq p n ep r nm dt HNM HDT R (show R = _ from by simpa using hR) w
  by_cases h8 : k = 8
  · subst h8
    exact scmd_isRename cl sq p n ep r nm dt HNM HDT R (show R = _ from by simpa using hR) w
  exact scmd_none k cl sq p n ep r nm dt (decide_eq_false (by omega)) HNM HDT R (show R = _ from by simpa [h1, h2, h3, h4, h5, h6, h7, h8] using hR) w
end Go.Proofs.YtoplijjddhecgaaDoor
