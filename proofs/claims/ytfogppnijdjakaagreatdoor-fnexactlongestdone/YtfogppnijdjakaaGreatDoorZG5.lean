/- Texts put together: MsgL StoL. -/
import Derived.Test.YtfogppnijdjakaaGreatDoorZG2
import Derived.Test.YtfogppnijdjakaaGreatDoorZG0
import Derived.Lib.SmallJoins
/- Messages in the law's own words: their size, their copies, two that are alike. -/
namespace Go.Proofs.YtfogppnijdjakaaGreatDoor
open Go.ChangeShapes Go.WideShapes Go.ChangeAt Go.RowKit
set_option linter.unusedVariables false
set_option maxHeartbeats 2000000 in
set_option maxRecDepth 100000 in
theorem szMsg (kd fr dst tm ix lt cm : Int) (ok : Bool) (a : Option Addr) (cap n : Nat) (l : List (Int × ByteArray)) (HN : Hid (l.length = n)) (Y : Nat) (hY : Y ≤ 1048576) (hl : Hid (n ≤ maxLen)) (hsz : Hid (∀ k (h : k < l.length), l[k].2.size ≤ maxLen)) (w : World) (hr : RowV w a (cE l)) :
  Calls Tryz.prog 34 #[.agg #[.int .i64 kd, .int .i64 fr, .int .i64 dst, .int .i64 tm, .int .i64 ix, .int .i64 lt, .int .i64 cm, .bool ok, .slice a n cap], .int .i64 (Y : Int)] w fun e w' => ∃ x : Int, e = .returned (.int .i64 x) ∧ Below w.heap.size w w' ∧ (x = -1 ∨ ∃ z : Nat, x = (z : Int) ∧ z + n ≤ Y ∧ n ≤ 1048576 ∧ ∀ k (h : k < l.length), l[k].2.size ≤ 1048576) := by
 have HB := hide (Go.Joins.below_alloc1 w (.cells #[.int .i64 kd, .int .i64 fr, .int .i64 dst, .int .i64 tm, .int .i64 ix, .int .i64 lt, .int .i64 cm, .bool ok, .slice a n cap] 67))
 have HR := hide (hr.below (unhide HB))
 clear hr
 go_enter Tryz.func34, Tryz.ntmps34
 go_wp2_with fail
 refine (szEnt a cap n l HN Y hY (unhide hl) (unhide hsz) _ (unhide HR)).mono ?_
 rintro e w2 ⟨x, rfl, hb2, hx⟩
 have HB2 := hide ((unhide HB).trans (hb2.mono (unhide HB).size))
 clear hb2 HB HR
 rcases hx with rfl | ⟨z, rfl, hz, h1, h2⟩
 ·go_wp2_with fail
  go_ret
  exact ⟨_, rfl, unhide HB2, .inl rfl⟩
 ·have hz0 : ¬ (z : Int) < 0 := by omega
  have H1 := hide h1
  have H2 := hide h2
  clear h1 h2
  go_wp2_with fail
  go_ret
  exact ⟨_, rfl, unhide HB2, .inr ⟨z, rfl, hz, unhide H1, unhide H2⟩⟩
set_option maxHeartbeats 2000000 in
set_option maxRecDepth 100000 in
theorem toMsg (kd fr dst tm ix lt cm : Int) (ok : Bool) (a : Option Addr) (cap n : Nat) (l : List (Int × ByteArray)) (HN : Hid (l.length = n)) (hl : n ≤ 1048576) (w : World) (hr : RowV w a (cE l)) :
  Calls Tryz.prog 44 #[.agg #[.int .i64 kd, .int .i64 fr, .int .i64 dst, .int .i64 tm, .int .i64 ix, .int .i64 lt, .int .i64 cm, .bool ok, .slice a n cap]] w fun e w' => ∃ g, e = .returned (.agg #[.int .i64 kd, .int .i64 fr, .int .i64 dst, .int .i64 tm, .int .i64 ix, .int .i64 lt, .int .i64 cm, .bool ok, .slice (some ⟨g, 0, none⟩) n n]) ∧ w'.ownsRow w.heap.size 103 2 (.slice (some ⟨g, 0, none⟩) n n) n (cE l) ∧ Below w.heap.size w w' := by
 have HR := hide hr
 obtain rfl : n = l.length := (unhide HN).symm
 clear hr HN
 have HB0 := hide (Go.Joins.below_alloc3 w (Obj.cells #[.int .i64 kd, .int .i64 fr, .int .i64 dst, .int .i64 tm, .int .i64 ix, .int .i64 lt, .int .i64 cm, .bool ok, .slice a l.length cap] 67) (Obj.cells #[.int .i64 0, .int .i64 0, .int .i64 0, .int .i64 0, .int .i64 0, .int .i64 0, .int .i64 0, .bool false, .slice none 0 0] 82) (Obj.cells #[.int .i64 kd, .int .i64 fr, .int .i64 dst, .int .i64 tm, .int .i64 ix, .int .i64 lt, .int .i64 cm, .bool ok, .slice none 0 0] 82))
 go_enter Tryz.func44, Tryz.ntmps44
 go_wp2_with fail
 refine (copyEnt a cap l hl _ ((unhide HR).below (unhide HB0))).mono ?_
 rintro e w2 ⟨rfl, ho2, hb2⟩
 simp only [World.size_alloc] at ho2
 obtain ⟨hc2, hf2⟩ := bcell hb2
 have x0 : ∀ o, w2.cell? ⟨w.heap.size + 1, o, none⟩ = (#[.int .i64 0, .int .i64 0, .int .i64 0, .int .i64 0, .int .i64 0, .int .i64 0, .int .i64 0, .bool false, .slice none 0 0] : Array Value)[o]? := fun o => by
  rw [hc2 _ _ (by simp), World.cell?_alloc_past _ _ _ (by simp), show (⟨w.heap.size + 1, o, none⟩ : Addr) = ⟨(w.alloc (Obj.cells #[.int .i64 kd, .int .i64 fr, .int .i64 dst, .int .i64 tm, .int .i64 ix, .int .i64 lt, .int .i64 cm, .bool ok, .slice a l.length cap] 67)).heap.size, o, none⟩ from by simp]; exact World.cell?_alloc_mark _ _ _ _ o
 have x1 : ∀ o, w2.frozen? ⟨w.heap.size + 1, o, none⟩ = false := fun o => (hf2 _ _ (by simp)).trans (by simp [go_sem])
 have y0 : ∀ o, w2.cell? ⟨w.heap.size + 1 + 1, o, none⟩ = (#[.int .i64 kd, .int .i64 fr, .int .i64 dst, .int .i64 tm, .int .i64 ix, .int .i64 lt, .int .i64 cm, .bool ok, .slice none 0 0] : Array Value)[o]? := fun o => by
  rw [hc2 _ _ (by simp), show (⟨w.heap.size + 1 + 1, o, none⟩ : Addr) = ⟨((w.alloc (Obj.cells #[.int .i64 kd, .int .i64 fr, .int .i64 dst, .int .i64 tm, .int .i64 ix, .int .i64 lt, .int .i64 cm, .bool ok, .slice a l.length cap] 67)).alloc (Obj.cells #[.int .i64 0, .int .i64 0, .int .i64 0, .int .i64 0, .int .i64 0, .int .i64 0, .int .i64 0, .bool false, .slice none 0 0] 82)).heap.size, o, none⟩ from by simp]; exact World.cell?_alloc_mark _ _ _ _ o
 have y1 : ∀ o, w2.frozen? ⟨w.heap.size + 1 + 1, o, none⟩ = false := fun o => (hf2 _ _ (by simp)).trans (by simp [go_sem])
 have HO2 := hide ho2
 have HB2 := hide ((unhide HB0).trans (hb2.mono (unhide HB0).size))
 clear ho2 hb2 hc2 hf2
 go_wp2_with fail
 refine bodyPost_ret (v := .agg #[.int .i64 kd, .int .i64 fr, .int .i64 dst, .int .i64 tm, .int .i64 ix, .int .i64 lt, .int .i64 cm, .bool ok, .slice (some ⟨w.heap.size + 1 + 1 + 1, 0, none⟩) l.length l.length]) (by simp [results, Tryz.results44, go_sem, x0]) rfl ⟨w.heap.size + 1 + 1 + 1, rfl, ?_, ?_⟩
 ·have hl1 : w.heap.size + 1 < w.heap.size + 1 + 1 + 1 := by omega
  have hl2 : w.heap.size + 1 + 1 < w.heap.size + 1 + 1 + 1 := by omega
  refine Go.Joins.ownsRow_le (base := w.heap.size + 1 + 1 + 1) ?_ (by omega)
  repeat refine ownsRow_setCell_below ?_ (by first | exact hl1 | exact hl2) _
  exact unhide HO2
 ·have hl1 : w.heap.size ≤ w.heap.size + 1 := by omega
  have hl2 : w.heap.size ≤ w.heap.size + 1 + 1 := by omega
  repeat refine Below.setCell ?_ (by first | exact hl1 | exact hl2) _
  exact unhide HB2
set_option maxHeartbeats 2000000 in
set_option maxRecDepth 100000 in
theorem eqMsg (kd fr dst tm ix lt cm : Int) (ok : Bool) (a c : Option Addr) (cap cap2 n : Nat) (l : List (Int × ByteArray)) (HN : Hid (l.length = n)) (hl : n ≤ 1048576) (w : World) (hr : RowV w a (cE l)) (hr2 : RowV w c (cE l)) :
  Calls Tryz.prog 51 #[.agg #[.int .i64 kd, .int .i64 fr, .int .i64 dst, .int .i64 tm, .int .i64 ix, .int .i64 lt, .int .i64 cm, .bool ok, .slice a n cap], .agg #[.int .i64 kd, .int .i64 fr, .int .i64 dst, .int .i64 tm, .int .i64 ix, .int .i64 lt, .int .i64 cm, .bool ok, .slice c n cap2]] w fun e w' => e = .returned (.bool true) ∧ Below w.heap.size w w' := by
 have HB := hide (Go.Joins.below_alloc2 w (.cells #[.int .i64 kd, .int .i64 fr, .int .i64 dst, .int .i64 tm, .int .i64 ix, .int .i64 lt, .int .i64 cm, .bool ok, .slice a n cap] 82) (.cells #[.int .i64 kd, .int .i64 fr, .int .i64 dst, .int .i64 tm, .int .i64 ix, .int .i64 lt, .int .i64 cm, .bool ok, .slice c n cap2] 82))
 have HR := hide (hr.below (unhide HB))
 have HR2 := hide (hr2.below (unhide HB))
 have n0 : (kd != kd) = false := by simp
 have n1 : (fr != fr) = false := by simp
 have n2 : (dst != dst) = false := by simp
 have n3 : (tm != tm) = false := by simp
 have n4 : (ix != ix) = false := by simp
 have n5 : (lt != lt) = false := by simp
 have n6 : (cm != cm) = false := by simp
 have n7 : (ok != ok) = false := by simp
 clear hr hr2
 obtain rfl : n = l.length := (unhide HN).symm
 clear HN
 go_enter Tryz.func51, Tryz.ntmps51
 go_wp2_with fail
 refine (sameEnt a c cap cap2 l hl _ (unhide HR) (unhide HR2)).mono ?_
 rintro e w2 ⟨rfl, hb2⟩
 have HB2 := hide ((unhide HB).trans (hb2.mono (unhide HB).size))
 clear hb2 HB HR HR2
 go_wp2_with fail
 go_ret
 exact ⟨rfl, unhide HB2⟩
end Go.Proofs.YtfogppnijdjakaaGreatDoor

/- Stores: the laws' own helpers: sizes, copies, comparison. -/
namespace Go.Proofs.YtfogppnijdjakaaGreatDoor
open Go.ChangeShapes Go.WideShapes Go.ChangeAt Go.RowKit
set_option maxHeartbeats 1000000 in
set_option maxRecDepth 100000 in
theorem toStore (d : ByteArray) (s : Int) (w : World) : Calls Tryz.prog 43 #[.agg #[.string d, .int .i64 s]] w fun e w' => e = .returned (.agg #[.string d, .int .i64 s]) ∧ Below w.heap.size w w' := by
 go_enter Tryz.func43, Tryz.ntmps43
 go_wp2_with fail
 refine bodyPost_ret (v := .agg #[.string d, .int .i64 s]) (by simp [results, Tryz.results43, go_sem]) rfl ⟨rfl, ?_⟩
 exact Go.Joins.below_alloc3 w _ _ _
set_option maxHeartbeats 1000000 in
set_option maxRecDepth 100000 in
theorem eqStore (d : ByteArray) (s : Int) (w : World) : Calls Tryz.prog 50 #[.agg #[.string d, .int .i64 s], .agg #[.string d, .int .i64 s]] w fun e w' => e = .returned (.bool true) ∧ Below w.heap.size w w' := by
 go_enter Tryz.func50, Tryz.ntmps50
 go_wp2_with fail
 go_ret
 exact ⟨rfl, Go.Joins.below_alloc2 w _ _⟩
end Go.Proofs.YtfogppnijdjakaaGreatDoor
