/- The laws' own helpers over parsers: the size, the copy, the comparison. -/
import Derived.Test.YtolbmblffogloabDoorActL
namespace Go.Proofs.YtolbmblffogloabDoor
open Go.ChangeShapes Go.WideShapes Go.ChangeAt Go.RowKit
set_option maxHeartbeats 400000 in
set_option maxRecDepth 100000 in
theorem szPar (st : Int) (pr : Bool) (a : Option Addr) (len cap : Nat) (t u : ByteArray) (hl : len ≤ maxLen) (ht : t.size ≤ maxLen) (hu : u.size ≤ maxLen) (w : World) :
    Calls Tryd.prog 17 #[.agg #[.int .i64 st, .slice a len cap, .bool pr, .string t, .string u], .int .i64 1048576] w fun e w' => ∃ x : Int, e = .returned (.int .i64 x) ∧ Below w.heap.size w w' ∧ (x = -1 ∨ (0 ≤ x ∧ len ≤ 1048576 ∧ t.size ≤ 1048576 ∧ u.size ≤ 1048576)) := by
  have ht2 : (t.size : Int) ≤ 9223372036854775807 := by unfold maxLen at ht; omega
  have hu2 : (u.size : Int) ≤ 9223372036854775807 := by unfold maxLen at hu; omega
  have HL := hide hl
  clear hl ht hu
  go_enter Tryd.func17, Tryd.ntmps17
  go_wp2_with fail
  refine (szInt a cap len (unhide HL) _).mono ?_
  rintro e w1 ⟨x, rfl, rfl, hx⟩
  rcases hx with rfl | ⟨hx0, hx1, hx2⟩
  · go_wp2_with fail
    go_ret
    exact ⟨_, rfl, (Below.refl _ _).alloc (Nat.le_refl _) _, .inl rfl⟩
  · have HX := hide hx2
    clear hx2
    by_cases big : (t.size : Int) ≤ x
    · by_cases big2 : (u.size : Int) ≤ x - t.size
      · go_wp2_with fail
        go_ret
        exact ⟨_, rfl, (Below.refl _ _).alloc (Nat.le_refl _) _, .inr ⟨by omega, unhide HX, by omega, by omega⟩⟩
      · go_wp2_with fail
        go_ret
        exact ⟨_, rfl, (Below.refl _ _).alloc (Nat.le_refl _) _, .inl rfl⟩
    · go_wp2_with fail
      go_ret
      exact ⟨_, rfl, (Below.refl _ _).alloc (Nat.le_refl _) _, .inl rfl⟩
set_option maxHeartbeats 400000 in
set_option maxRecDepth 100000 in
theorem toPar (st : Int) (pr : Bool) (a : Option Addr) (cap : Nat) (l : List Int) (t u : ByteArray) (hl : l.length ≤ 1048576) (w : World) (hr : RowV w a (cI l)) :
    Calls Tryd.prog 19 #[.agg #[.int .i64 st, .slice a l.length cap, .bool pr, .string t, .string u]] w fun e w' => ∃ g, e = .returned (.agg #[.int .i64 st, .slice (some ⟨g, 0, none⟩) l.length l.length, .bool pr, .string t, .string u]) ∧
      w'.ownsRow w.heap.size 3 1 (.slice (some ⟨g, 0, none⟩) l.length l.length) l.length (cI l) ∧ Below w.heap.size w w' := by
  have HL := hide hl
  have HR := hide hr
  clear hl hr
  go_enter Tryd.func19, Tryd.ntmps19
  go_wp2_with fail
  have hb0 := Go.Joins.below_alloc3 w (Obj.cells #[.int .i64 st, .slice a l.length cap, .bool pr, .string t, .string u] 34) (Obj.cells #[.int .i64 0, .slice none 0 0, .bool false, .string ⟨#[]⟩, .string ⟨#[]⟩] 37) (Obj.cells #[.int .i64 st, .slice none 0 0, .bool false, .string ⟨#[]⟩, .string ⟨#[]⟩] 37)
  refine (copyInt a cap l (unhide HL) _ ((unhide HR).below hb0)).mono ?_
  rintro e w1 ⟨rfl, own, hb⟩
  obtain ⟨hc, hf⟩ := bcell hb
  have HB := hide hb
  have HB0 := hide hb0
  have HO := hide own
  have hz : w.heap.size + 2 < w1.heap.size := by have := hb.size; simp at this; omega
  clear hb own hb0 HR
  go_wp2_with fail
  refine bodyPost_ret (v := .agg #[.int .i64 st, .slice (some ⟨w.heap.size + 1 + 1 + 1, 0, none⟩) l.length l.length, .bool pr, .string t, .string u]) (by simp [results, Tryd.results19, go_sem, hc]) rfl ⟨w.heap.size + 1 + 1 + 1, rfl, ?_, ?_⟩
  · have o := unhide HO
    simp at o
    exact Go.Joins.ownsRow_le (ownsRow_setCell_below (ownsRow_setCell_below (ownsRow_setCell_below (ownsRow_setCell_below (ownsRow_setCell_below (ownsRow_setCell_below (ownsRow_setCell_below (ownsRow_setCell_below (ownsRow_setCell_below o (by simp) _) (by simp) _) (by simp) _) (by simp) _) (by simp) _) (by simp) _) (by simp) _) (by simp) _) (by simp) _) (by omega)
  · exact ((((((((((unhide HB0).trans ((unhide HB).mono (by simp; omega))).setCell (by simp; omega) _).setCell (by simp; omega) _).setCell (by simp; omega) _).setCell (by simp; omega) _).setCell (by simp) _).setCell (by simp) _).setCell (by simp) _).setCell (by simp) _).setCell (by simp) _
set_option maxHeartbeats 400000 in
set_option maxRecDepth 100000 in
theorem eqPar (st : Int) (pr : Bool) (a c : Option Addr) (cap cap2 : Nat) (l : List Int) (t u : ByteArray) (hl : l.length ≤ 1048576) (w : World) (hr : RowV w a (cI l)) (hr2 : RowV w c (cI l)) :
    Calls Tryd.prog 21 #[.agg #[.int .i64 st, .slice a l.length cap, .bool pr, .string t, .string u], .agg #[.int .i64 st, .slice c l.length cap2, .bool pr, .string t, .string u]] w fun e w' => e = .returned (.bool true) ∧ Below w.heap.size w w' := by
  have HL := hide hl
  have HR := hide hr
  have HR2 := hide hr2
  have n1 : (st != st) = false := by simp
  have n3 : (pr != pr) = false := by simp
  have n4 : (t.toList != t.toList) = false := by simp
  have n5 : (u.toList != u.toList) = false := by simp
  clear hl hr hr2
  go_enter Tryd.func21, Tryd.ntmps21
  go_wp2_with fail
  have hb0 := Go.Joins.below_alloc2 w (Obj.cells #[.int .i64 st, .slice a l.length cap, .bool pr, .string t, .string u] 37) (Obj.cells #[.int .i64 st, .slice c l.length cap2, .bool pr, .string t, .string u] 37)
  refine (sameInt a c cap cap2 l (unhide HL) _ ((unhide HR).below hb0) ((unhide HR2).below hb0)).mono ?_
  rintro e w1 ⟨rfl, hb⟩
  obtain ⟨hc, hf⟩ := bcell hb
  have HB := hide hb
  have HB0 := hide hb0
  clear hb hb0 HR HR2
  go_wp2_with fail
  go_ret
  exact ⟨rfl, (unhide HB0).trans ((unhide HB).mono (by simp; omega))⟩
end Go.Proofs.YtolbmblffogloabDoor
