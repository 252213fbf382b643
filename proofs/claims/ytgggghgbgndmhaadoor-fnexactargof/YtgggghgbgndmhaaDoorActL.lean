/- The laws' own helpers over actions: the size, the copy, the comparison. -/
import Derived.Test.YtgggghgbgndmhaaDoorIntS
import Derived.Lib.SmallJoins
namespace Go.Proofs.YtgggghgbgndmhaaDoor
open Go.ChangeShapes Go.WideShapes Go.ChangeAt Go.RowKit
theorem bcell {W w1 : World} (hb : Below W.heap.size W w1) : (∀ b o, b < W.heap.size → w1.cell? ⟨b, o, none⟩ = W.cell? ⟨b, o, none⟩) ∧ (∀ b o, b < W.heap.size → w1.frozen? ⟨b, o, none⟩ = W.frozen? ⟨b, o, none⟩) :=
  ⟨fun b o h => hb.cell (p := ⟨b, o, none⟩) h, fun b o h => hb.frozen (p := ⟨b, o, none⟩) h⟩

/-- Two blocks hold these cells. -/
def Boxes (w : World) (A X : Nat) (ca cx : Array Value) : Prop := (∀ o, w.cell? ⟨A, o, none⟩ = ca[o]?) ∧ (∀ o, w.cell? ⟨X, o, none⟩ = cx[o]?)
theorem boxes_below {w w' : World} {A X B : Nat} {ca cx : Array Value} (h : Boxes w A X ca cx) (hb : Below B w w') (hA : A < B) (hX : X < B) : Boxes w' A X ca cx :=
  ⟨fun o => (hb.cell (p := ⟨A, o, none⟩) hA).trans (h.1 o), fun o => (hb.cell (p := ⟨X, o, none⟩) hX).trans (h.2 o)⟩
theorem Boxes.ten {w : World} {A X : Nat} {c0 c1 c2 c3 c4 d0 d1 d2 d3 d4 : Value} (h : Boxes w A X #[c0, c1, c2, c3, c4] #[d0, d1, d2, d3, d4]) :
    w.cell? ⟨A, 0, none⟩ = some c0 ∧ w.cell? ⟨A, 1, none⟩ = some c1 ∧ w.cell? ⟨A, 2, none⟩ = some c2 ∧ w.cell? ⟨A, 3, none⟩ = some c3 ∧ w.cell? ⟨A, 4, none⟩ = some c4 ∧
      w.cell? ⟨X, 0, none⟩ = some d0 ∧ w.cell? ⟨X, 1, none⟩ = some d1 ∧ w.cell? ⟨X, 2, none⟩ = some d2 ∧ w.cell? ⟨X, 3, none⟩ = some d3 ∧ w.cell? ⟨X, 4, none⟩ = some d4 :=
  ⟨h.1 0, h.1 1, h.1 2, h.1 3, h.1 4, h.2 0, h.2 1, h.2 2, h.2 3, h.2 4⟩
set_option maxHeartbeats 400000 in
set_option maxRecDepth 100000 in
theorem szInt (a : Option Addr) (cap n : Nat) (hn : n ≤ maxLen) (w : World) :
    Calls Tryd.prog 22 #[.slice a n cap, .int .i64 1048576] w fun e w' => ∃ x : Int, e = .returned (.int .i64 x) ∧ w' = w ∧ (x = -1 ∨ (0 ≤ x ∧ x ≤ 1048576 ∧ n ≤ 1048576)) := by
  have hl2 : (n : Int) ≤ 9223372036854775807 := by unfold maxLen at hn; omega
  clear hn
  by_cases big : 1048576 < n
  · go_enter Tryd.func22, Tryd.ntmps22
    go_wp2_with fail
    go_ret
    exact ⟨_, rfl, rfl, .inl rfl⟩
  · have hb : n ≤ 1048576 := by omega
    go_enter Tryd.func22, Tryd.ntmps22
    go_wp2_with fail
    go_ret
    exact ⟨_, rfl, rfl, .inr ⟨by omega, by omega, hb⟩⟩

set_option maxHeartbeats 400000 in
set_option maxRecDepth 100000 in
theorem szAct (kd n : Int) (pr : Bool) (a : Option Addr) (len cap : Nat) (t : ByteArray) (hl : len ≤ maxLen) (ht : t.size ≤ maxLen) (w : World) :
    Calls Tryd.prog 13 #[.agg #[.int .i64 kd, .int .i64 n, .bool pr, .slice a len cap, .string t], .int .i64 1048576] w fun e w' => ∃ x : Int, e = .returned (.int .i64 x) ∧ Below w.heap.size w w' ∧ (x = -1 ∨ (0 ≤ x ∧ len ≤ 1048576 ∧ t.size ≤ 1048576)) := by
  have ht2 : (t.size : Int) ≤ 9223372036854775807 := by unfold maxLen at ht; omega
  have HL := hide hl
  clear hl ht
  go_enter Tryd.func13, Tryd.ntmps13
  go_wp2_with fail
  refine (szInt a cap len (unhide HL) _).mono ?_
  rintro e w1 ⟨x, rfl, rfl, hx⟩
  rcases hx with rfl | ⟨hx0, hx1, hx2⟩
  · go_wp2_with fail
    go_ret
    exact ⟨_, rfl, (Below.refl _ _).alloc (Nat.le_refl _) _, .inl rfl⟩
  · have HX := hide hx2
    clear hx2
    by_cases big : (t.size : Int) ≤ x
    · go_wp2_with fail
      go_ret
      exact ⟨_, rfl, (Below.refl _ _).alloc (Nat.le_refl _) _, .inr ⟨by omega, unhide HX, by omega⟩⟩
    · go_wp2_with fail
      go_ret
      exact ⟨_, rfl, (Below.refl _ _).alloc (Nat.le_refl _) _, .inl rfl⟩

set_option maxHeartbeats 400000 in
set_option maxRecDepth 100000 in
theorem toAct (kd n : Int) (pr : Bool) (a : Option Addr) (cap : Nat) (l : List Int) (t : ByteArray) (hl : l.length ≤ 1048576) (w : World) (hr : RowV w a (cI l)) :
    Calls Tryd.prog 15 #[.agg #[.int .i64 kd, .int .i64 n, .bool pr, .slice a l.length cap, .string t]] w fun e w' => ∃ g, e = .returned (.agg #[.int .i64 kd, .int .i64 n, .bool pr, .slice (some ⟨g, 0, none⟩) l.length l.length, .string t]) ∧
      w'.ownsRow w.heap.size 3 1 (.slice (some ⟨g, 0, none⟩) l.length l.length) l.length (cI l) ∧ Below w.heap.size w w' := by
  have HL := hide hl
  have HR := hide hr
  clear hl hr
  go_enter Tryd.func15, Tryd.ntmps15
  go_wp2_with fail
  have hb0 := Go.Joins.below_alloc3 w (Obj.cells #[.int .i64 kd, .int .i64 n, .bool pr, .slice a l.length cap, .string t] 34) (Obj.cells #[.int .i64 0, .int .i64 0, .bool false, .slice none 0 0, .string ⟨#[]⟩] 38) (Obj.cells #[.int .i64 kd, .int .i64 n, .bool pr, .slice none 0 0, .string ⟨#[]⟩] 38)
  refine (copyInt a cap l (unhide HL) _ ((unhide HR).below hb0)).mono ?_
  rintro e w1 ⟨rfl, own, hb⟩
  obtain ⟨hc, hf⟩ := bcell hb
  have HB := hide hb
  have HB0 := hide hb0
  have HO := hide own
  have hz : w.heap.size + 2 < w1.heap.size := by have := hb.size; simp at this; omega
  clear hb own hb0 HR
  go_wp2_with fail
  refine bodyPost_ret (v := .agg #[.int .i64 kd, .int .i64 n, .bool pr, .slice (some ⟨w.heap.size + 1 + 1 + 1, 0, none⟩) l.length l.length, .string t]) (by simp [results, Tryd.results15, go_sem, hc]) rfl ⟨w.heap.size + 1 + 1 + 1, rfl, ?_, ?_⟩
  · have o := unhide HO
    simp at o
    exact Go.Joins.ownsRow_le (ownsRow_setCell_below (ownsRow_setCell_below (ownsRow_setCell_below (ownsRow_setCell_below (ownsRow_setCell_below (ownsRow_setCell_below (ownsRow_setCell_below o (by simp) _) (by simp) _) (by simp) _) (by simp) _) (by simp) _) (by simp) _) (by simp) _) (by omega)
  · exact (((((((unhide HB0).trans ((unhide HB).mono (by simp; omega))).setCell (by simp; omega) _).setCell (by simp; omega) _).setCell (by simp) _).setCell (by simp) _).setCell (by simp) _).setCell (by simp) _ |>.setCell (by simp) _
set_option maxHeartbeats 400000 in
set_option maxRecDepth 100000 in
theorem eqAct (kd n : Int) (pr : Bool) (a c : Option Addr) (cap cap2 : Nat) (l : List Int) (t : ByteArray) (hl : l.length ≤ 1048576) (w : World) (hr : RowV w a (cI l)) (hr2 : RowV w c (cI l)) :
    Calls Tryd.prog 17 #[.agg #[.int .i64 kd, .int .i64 n, .bool pr, .slice a l.length cap, .string t], .agg #[.int .i64 kd, .int .i64 n, .bool pr, .slice c l.length cap2, .string t]] w fun e w' => e = .returned (.bool true) ∧ Below w.heap.size w w' := by
  have HL := hide hl
  have HR := hide hr
  have HR2 := hide hr2
  have n1 : (kd != kd) = false := by simp
  have n2 : (n != n) = false := by simp
  have n3 : (pr != pr) = false := by simp
  have n4 : (t.toList != t.toList) = false := by simp
  clear hl hr hr2
  go_enter Tryd.func17, Tryd.ntmps17
  go_wp2_with fail
  have hb0 := Go.Joins.below_alloc2 w (Obj.cells #[.int .i64 kd, .int .i64 n, .bool pr, .slice a l.length cap, .string t] 38) (Obj.cells #[.int .i64 kd, .int .i64 n, .bool pr, .slice c l.length cap2, .string t] 38)
  refine (sameInt a c cap cap2 l (unhide HL) _ ((unhide HR).below hb0) ((unhide HR2).below hb0)).mono ?_
  rintro e w1 ⟨rfl, hb⟩
  obtain ⟨hc, hf⟩ := bcell hb
  have HB := hide hb
  have HB0 := hide hb0
  clear hb hb0 HR HR2
  go_wp2_with fail
  go_ret
  exact ⟨rfl, (unhide HB0).trans ((unhide HB).mono (by simp; omega))⟩
end Go.Proofs.YtgggghgbgndmhaaDoor
