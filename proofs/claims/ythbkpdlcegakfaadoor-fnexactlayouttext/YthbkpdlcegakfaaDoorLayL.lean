/- Layouts: the laws' own helpers: likeness, marks, copies, sizes. -/
import Derived.Test.YthbkpdlcegakfaaDoorPartL
import Derived.Test.YthbkpdlcegakfaaDoorSpa
namespace Go.Proofs.YthbkpdlcegakfaaDoor
open Go.ChangeShapes Go.WideShapes Go.ChangeAt Go.RowKit
set_option maxHeartbeats 400000 in
set_option maxRecDepth 100000 in
theorem eqLay (a c : Option Addr) (cap cap2 : Nat) (l : List Pt) (hl : l.length ≤ 1048576) (w : World) (hr : RowV w a (cPt l)) (hr2 : RowV w c (cPt l)) :
    Calls Tryd.prog 8 #[.agg #[.slice a l.length cap], .agg #[.slice c l.length cap2]] w fun e w' => e = .returned (.bool true) ∧ Below w.heap.size w w' := by
  have HL := hide hl
  have HR := hide hr
  have HR2 := hide hr2
  have HB0 := hide (Go.Joins.below_alloc2 w (Obj.cells #[.slice a l.length cap] 30) (Obj.cells #[.slice c l.length cap2] 30))
  clear hl hr hr2
  go_enter Tryd.func8, Tryd.ntmps8
  go_wp2_with fail
  refine (samePart a c cap cap2 l (unhide HL) _ ((unhide HR).below (unhide HB0)) ((unhide HR2).below (unhide HB0))).mono ?_
  rintro e w1 ⟨rfl, hb⟩
  have HB := hide ((unhide HB0).trans (hb.mono (unhide HB0).size))
  clear hb
  go_wp2_with fail
  go_ret
  exact ⟨rfl, unhide HB⟩
set_option maxHeartbeats 400000 in
set_option maxRecDepth 100000 in
theorem szLay (a : Option Addr) (cap n : Nat) (y : Nat) (hy : y ≤ 1048576) (hn : n ≤ maxLen) (w : World) :
    Calls Tryd.prog 4 #[.agg #[.slice a n cap], .int .i64 (y : Int)] w fun e w' => ∃ x : Int, e = .returned (.int .i64 x) ∧ Below w.heap.size w w' ∧ (x = -1 ∨ ∃ z : Nat, x = (z : Int) ∧ z ≤ y ∧ n ≤ 1048576) := by
  have HB0 := hide (Go.Joins.below_alloc1 w (Obj.cells #[.slice a n cap] 24))
  go_enter Tryd.func4, Tryd.ntmps4
  go_wp2_with fail
  refine (szPart a cap n y hy hn _).mono ?_
  rintro e w1 ⟨x, rfl, rfl, rfl | ⟨z, rfl, hz, hn2⟩⟩
  · go_wp2_with fail
    go_ret
    exact ⟨_, rfl, unhide HB0, .inl rfl⟩
  · go_wp2_with fail
    go_ret
    exact ⟨_, rfl, unhide HB0, .inr ⟨z, rfl, hz, hn2⟩⟩
set_option maxHeartbeats 400000 in
set_option maxRecDepth 100000 in
theorem toLay (a : Option Addr) (cap : Nat) (l : List Pt) (hl : l.length ≤ 1048576) (w : World) (hr : RowV w a (cPt l)) :
    Calls Tryd.prog 6 #[.agg #[.slice a l.length cap]] w fun e w' => ∃ g, e = .returned (.agg #[.slice (some ⟨g, 0, none⟩) l.length l.length]) ∧
      w'.ownsRow w.heap.size 49 5 (.slice (some ⟨g, 0, none⟩) l.length l.length) l.length (cPt l) ∧ Below w.heap.size w w' := by
  have HL := hide hl
  have HR := hide hr
  clear hl hr
  have HB0 := hide (Go.Joins.below_alloc3 w (Obj.cells #[.slice a l.length cap] 24) (Obj.cells #[.slice none 0 0] 30) (Obj.cells #[.slice none 0 0] 30))
  go_enter Tryd.func6, Tryd.ntmps6
  go_wp2_with fail
  refine (copyPart a cap l (unhide HL) _ ((unhide HR).below (unhide HB0))).mono ?_
  rintro e w2 ⟨rfl, ho2, hb2⟩
  simp only [World.size_alloc] at ho2
  obtain ⟨hc2, hf2⟩ := bcell hb2
  have x0 : w2.cell? ⟨w.heap.size + 1, 0, none⟩ = some (.slice none 0 0) := (hc2 _ _ (by simp)).trans (by simp [go_sem])
  have x1 : w2.frozen? ⟨w.heap.size + 1, 0, none⟩ = false := (hf2 _ _ (by simp)).trans (by simp [go_sem])
  have y0 : w2.cell? ⟨w.heap.size + 1 + 1, 0, none⟩ = some (.slice none 0 0) := (hc2 _ _ (by simp)).trans (by simp [go_sem])
  have y1 : w2.frozen? ⟨w.heap.size + 1 + 1, 0, none⟩ = false := (hf2 _ _ (by simp)).trans (by simp [go_sem])
  have HO2 := hide ho2
  have HB2 := hide ((unhide HB0).trans (hb2.mono (unhide HB0).size))
  clear ho2 hb2 hc2 hf2
  go_wp2_with fail
  refine bodyPost_ret (v := .agg #[.slice (some ⟨w.heap.size + 1 + 1 + 1, 0, none⟩) l.length l.length]) (by simp [results, Tryd.results6, go_sem, x0]) rfl ⟨w.heap.size + 1 + 1 + 1, rfl, ?_, ?_⟩
  · have hl1 : w.heap.size + 1 < w.heap.size + 1 + 1 + 1 := by omega
    have hl2 : w.heap.size + 1 + 1 < w.heap.size + 1 + 1 + 1 := by omega
    refine Go.Joins.ownsRow_le (base := w.heap.size + 1 + 1 + 1) ?_ (by omega)
    repeat refine ownsRow_setCell_below ?_ (by first | exact hl1 | exact hl2) _
    exact unhide HO2
  · have hl1 : w.heap.size ≤ w.heap.size + 1 := by omega
    have hl2 : w.heap.size ≤ w.heap.size + 1 + 1 := by omega
    repeat refine Below.setCell ?_ (by first | exact hl1 | exact hl2) _
    exact unhide HB2
end Go.Proofs.YthbkpdlcegakfaaDoor
