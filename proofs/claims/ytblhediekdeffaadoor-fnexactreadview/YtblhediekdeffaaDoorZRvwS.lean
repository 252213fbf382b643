/- l11Read: what the specification reads. -/
import Derived.Test.YtblhediekdeffaaDoorZRvwK
import Derived.Test.YtblhediekdeffaaDoorZG40
import Derived.Test.YtblhediekdeffaaDoorZReadFT
import Derived.Test.YtblhediekdeffaaDoorZVoS
namespace Go.Proofs.YtblhediekdeffaaDoor
open Go.ChangeShapes Go.WideShapes Go.ChangeAt Go.RowKit
set_option linter.unusedVariables false
set_option maxHeartbeats 8000000 in
set_option maxRecDepth 100000 in
theorem srv_none (s : ByteArray) (w : World) (T1 : Hid (∀ w1, Calls Tryd.prog 20 #[.string s] w1 fun e w' => ∃ v', e = .returned (.tuple #[v', .bool false]) ∧ w'.ownsRow w1.heap.size 9 1 v' 0 (cS []) ∧ Below w1.heap.size w1 w')) :
    Calls Tryd.prog 12 #[.string s] w fun e w' => e = .returned (.tuple #[.agg #[.int .i64 0, .int .i64 0, .bool false, .int .i64 0, .int .i64 0, .slice none 0 0], .bool false]) ∧ Below w.heap.size w w' := by
  have B0 := hide (Go.Joins.below_alloc1 w (Obj.cells #[.int .i64 0, .int .i64 0, .bool false, .int .i64 0, .int .i64 0, .slice none 0 0] 25))
  have Y0 := hide (BF.new w #[.int .i64 0, .int .i64 0, .bool false, .int .i64 0, .int .i64 0, .slice none 0 0] 25)
  go_enter Tryd.func12, Tryd.ntmps12
  go_wp2_with fail
  refine (unhide T1 _).mono ?_
  rintro e w1 ⟨v1, rfl, ho1, hb1⟩
  obtain ⟨a1, c1, rfl, -⟩ := own_rowV ho1
  have B1 := hide ((unhide B0).trans (hb1.mono (unhide B0).size))
  have Y1 := hide ((unhide Y0).below hb1)
  clear ho1 hb1 T1 B0 Y0
  have kz := (unhide Y1).S
  have kf := (unhide Y1).F
  go_wp2_with fail
  refine bodyPost_ret (v := .tuple #[.agg #[.int .i64 0, .int .i64 0, .bool false, .int .i64 0, .int .i64 0, .slice none 0 0], .bool false]) (by simp [results, Tryd.results12, go_sem, kz]) rfl ⟨rfl, ?_⟩
  iterate 6 refine Below.setCell ?_ (by exact Nat.le_refl _) _
  exact unhide B1
set_option maxHeartbeats 8000000 in
set_option maxRecDepth 100000 in
theorem srv_nil (s : ByteArray) (w : World) (T1 : Hid (∀ w1, Calls Tryd.prog 20 #[.string s] w1 fun e w' => ∃ v', e = .returned (.tuple #[v', .bool true]) ∧ w'.ownsRow w1.heap.size 9 1 v' 0 (cS []) ∧ Below w1.heap.size w1 w')) :
    Calls Tryd.prog 12 #[.string s] w fun e w' => e = .returned (.tuple #[.agg #[.int .i64 0, .int .i64 0, .bool false, .int .i64 0, .int .i64 0, .slice none 0 0], .bool false]) ∧ Below w.heap.size w w' := by
  have B0 := hide (Go.Joins.below_alloc1 w (Obj.cells #[.int .i64 0, .int .i64 0, .bool false, .int .i64 0, .int .i64 0, .slice none 0 0] 25))
  have Y0 := hide (BF.new w #[.int .i64 0, .int .i64 0, .bool false, .int .i64 0, .int .i64 0, .slice none 0 0] 25)
  go_enter Tryd.func12, Tryd.ntmps12
  go_wp2_with fail
  refine (unhide T1 _).mono ?_
  rintro e w1 ⟨v1, rfl, ho1, hb1⟩
  obtain ⟨a1, c1, rfl, -⟩ := own_rowV ho1
  have B1 := hide ((unhide B0).trans (hb1.mono (unhide B0).size))
  have Y1 := hide ((unhide Y0).below hb1)
  clear ho1 hb1 T1 B0 Y0
  have kz := (unhide Y1).S
  have kf := (unhide Y1).F
  go_wp2_with fail
  refine bodyPost_ret (v := .tuple #[.agg #[.int .i64 0, .int .i64 0, .bool false, .int .i64 0, .int .i64 0, .slice none 0 0], .bool false]) (by simp [results, Tryd.results12, go_sem, kz]) rfl ⟨rfl, ?_⟩
  iterate 6 refine Below.setCell ?_ (by exact Nat.le_refl _) _
  exact unhide B1
set_option maxHeartbeats 8000000 in
set_option maxRecDepth 100000 in
theorem srv_form (s : ByteArray) (f0 : ByteArray) (rs : List ByteArray) (r : Nat) (hr60 : r + 1 ≤ 60) (hs : f0.size ≤ 20000) (h3 : ¬ f0.size % 3 = 0) (w : World) (T1 : Hid (∀ w1, Calls Tryd.prog 20 #[.string s] w1 fun e w' => ∃ v', e = .returned (.tuple #[v', .bool true]) ∧ w'.ownsRow w1.heap.size 9 1 v' (r + 1) (cS (f0 :: rs)) ∧ Below w1.heap.size w1 w')) :
    Calls Tryd.prog 12 #[.string s] w fun e w' => e = .returned (.tuple #[.agg #[.int .i64 0, .int .i64 0, .bool false, .int .i64 0, .int .i64 0, .slice none 0 0], .bool false]) ∧ Below w.heap.size w w' := by
  have B0 := hide (Go.Joins.below_alloc1 w (Obj.cells #[.int .i64 0, .int .i64 0, .bool false, .int .i64 0, .int .i64 0, .slice none 0 0] 25))
  have Y0 := hide (BF.new w #[.int .i64 0, .int .i64 0, .bool false, .int .i64 0, .int .i64 0, .slice none 0 0] 25)
  have TN := hide (fun w => sreadform30 f0 h3 (by omega) w)
  clear hs h3
  go_enter Tryd.func12, Tryd.ntmps12
  go_wp2_with fail
  refine (unhide T1 _).mono ?_
  rintro e w1 ⟨v1, rfl, ho1, hb1⟩
  obtain ⟨a1, c1, rfl, -⟩ := own_rowV ho1
  have B1 := hide ((unhide B0).trans (hb1.mono (unhide B0).size))
  have Y1 := hide ((unhide Y0).below hb1)
  have hr1 : ¬ ((r : Int) + 1) < 1 := by omega
  have hr2 : (0 : Int) < (r : Int) + 1 := by omega
  obtain ⟨g1, rfl⟩ := own_at1 ho1 (by omega)
  have d0 := own_cell ho1 0 _ rfl
  have hg1 := (World.ownsRow.lt ho1 g1 rfl).2
  clear ho1 hb1 T1 B0 Y0
  go_wp2_with fail
  refine (unhide TN _).mono ?_
  rintro e w3 ⟨v3, rfl, hb3⟩
  have B3 := hide ((unhide B1).trans (hb3.mono (unhide B1).size))
  have Y3 := hide ((unhide Y1).below hb3)
  clear hb3 B1 Y1 d0 TN
  have kz := (unhide Y3).S
  have kf := (unhide Y3).F
  go_wp2_with fail
  refine bodyPost_ret (v := .tuple #[.agg #[.int .i64 0, .int .i64 0, .bool false, .int .i64 0, .int .i64 0, .slice none 0 0], .bool false]) (by simp [results, Tryd.results12, go_sem, kz]) rfl ⟨rfl, ?_⟩
  iterate 6 refine Below.setCell ?_ (by exact Nat.le_refl _) _
  exact unhide B3
set_option maxHeartbeats 8000000 in
set_option maxRecDepth 100000 in
theorem srv_cnt (s : ByteArray) (f0 : ByteArray) (rs : List ByteArray) (r : Nat) (hr60 : r + 1 ≤ 60) (q : Nat) (hs : f0.size = 3 * q) (hq : q ≤ 20000) (h5 : ¬ q = 5) (w : World) (T1 : Hid (∀ w1, Calls Tryd.prog 20 #[.string s] w1 fun e w' => ∃ v', e = .returned (.tuple #[v', .bool true]) ∧ w'.ownsRow w1.heap.size 9 1 v' (r + 1) (cS (f0 :: rs)) ∧ Below w1.heap.size w1 w')) :
    Calls Tryd.prog 12 #[.string s] w fun e w' => e = .returned (.tuple #[.agg #[.int .i64 0, .int .i64 0, .bool false, .int .i64 0, .int .i64 0, .slice none 0 0], .bool false]) ∧ Below w.heap.size w w' := by
  have B0 := hide (Go.Joins.below_alloc1 w (Obj.cells #[.int .i64 0, .int .i64 0, .bool false, .int .i64 0, .int .i64 0, .slice none 0 0] 25))
  have Y0 := hide (BF.new w #[.int .i64 0, .int .i64 0, .bool false, .int .i64 0, .int .i64 0, .slice none 0 0] 25)
  have TN := hide (fun w => sreadnums30 f0 q hs (by omega) w)
  rw [numsR_len] at TN
  have h5' : ((q : Int) != 5) = true := by rw [bne_iff_ne]; omega
  clear hs hq
  go_enter Tryd.func12, Tryd.ntmps12
  go_wp2_with fail
  refine (unhide T1 _).mono ?_
  rintro e w1 ⟨v1, rfl, ho1, hb1⟩
  obtain ⟨a1, c1, rfl, -⟩ := own_rowV ho1
  have B1 := hide ((unhide B0).trans (hb1.mono (unhide B0).size))
  have Y1 := hide ((unhide Y0).below hb1)
  have hr1 : ¬ ((r : Int) + 1) < 1 := by omega
  have hr2 : (0 : Int) < (r : Int) + 1 := by omega
  obtain ⟨g1, rfl⟩ := own_at1 ho1 (by omega)
  have d0 := own_cell ho1 0 _ rfl
  have hg1 := (World.ownsRow.lt ho1 g1 rfl).2
  clear ho1 hb1 T1 B0 Y0
  go_wp2_with fail
  refine (unhide TN _).mono ?_
  rintro e w3 ⟨v3, rfl, ho3, hb3⟩
  obtain ⟨a3, c3, rfl, -⟩ := own_rowV ho3
  have B3 := hide ((unhide B1).trans (hb3.mono (unhide B1).size))
  have Y3 := hide ((unhide Y1).below hb3)
  clear hb3 ho3 B1 Y1 d0 TN
  have kz := (unhide Y3).S
  have kf := (unhide Y3).F
  go_wp2_with fail
  refine bodyPost_ret (v := .tuple #[.agg #[.int .i64 0, .int .i64 0, .bool false, .int .i64 0, .int .i64 0, .slice none 0 0], .bool false]) (by simp [results, Tryd.results12, go_sem, kz]) rfl ⟨rfl, ?_⟩
  iterate 6 refine Below.setCell ?_ (by exact Nat.le_refl _) _
  exact unhide B3
set_option maxHeartbeats 8000000 in
set_option maxRecDepth 100000 in
theorem srv_bit (s : ByteArray) (f0 : ByteArray) (rs : List ByteArray) (r : Nat) (hr60 : r + 1 ≤ 60) (h15 : f0.size = 3 * 5) (x0 x1 x2 x3 x4 : Int) (hx : numsR f0.data.toList 5 = [x0, x1, x2, x3, x4]) (hbit : inB x2 0 1 = false) (w : World) (T1 : Hid (∀ w1, Calls Tryd.prog 20 #[.string s] w1 fun e w' => ∃ v', e = .returned (.tuple #[v', .bool true]) ∧ w'.ownsRow w1.heap.size 9 1 v' (r + 1) (cS (f0 :: rs)) ∧ Below w1.heap.size w1 w')) :
    Calls Tryd.prog 12 #[.string s] w fun e w' => e = .returned (.tuple #[.agg #[.int .i64 0, .int .i64 0, .bool false, .int .i64 0, .int .i64 0, .slice none 0 0], .bool false]) ∧ Below w.heap.size w w' := by
  have B0 := hide (Go.Joins.below_alloc1 w (Obj.cells #[.int .i64 0, .int .i64 0, .bool false, .int .i64 0, .int .i64 0, .slice none 0 0] 25))
  have Y0 := hide (BF.new w #[.int .i64 0, .int .i64 0, .bool false, .int .i64 0, .int .i64 0, .slice none 0 0] 25)
  have TN := hide (fun w => sreadnums30 f0 5 h15 (by omega) w)
  rw [numsR_len, hx] at TN
  clear hx h15
  go_enter Tryd.func12, Tryd.ntmps12
  go_wp2_with fail
  refine (unhide T1 _).mono ?_
  rintro e w1 ⟨v1, rfl, ho1, hb1⟩
  obtain ⟨a1, c1, rfl, -⟩ := own_rowV ho1
  have B1 := hide ((unhide B0).trans (hb1.mono (unhide B0).size))
  have Y1 := hide ((unhide Y0).below hb1)
  have hr1 : ¬ ((r : Int) + 1) < 1 := by omega
  have hr2 : (0 : Int) < (r : Int) + 1 := by omega
  obtain ⟨g1, rfl⟩ := own_at1 ho1 (by omega)
  have d0 := own_cell ho1 0 _ rfl
  have hg1 := (World.ownsRow.lt ho1 g1 rfl).2
  clear ho1 hb1 T1 B0 Y0
  go_wp2_with fail
  refine (unhide TN _).mono ?_
  rintro e w3 ⟨v3, rfl, ho3, hb3⟩
  obtain ⟨a3, c3, rfl, -⟩ := own_rowV ho3
  obtain ⟨gn, rfl⟩ := own_at1 ho3 (by decide)
  have e2 := own_cell ho3 2 _ rfl
  have B3 := hide ((unhide B1).trans (hb3.mono (unhide B1).size))
  have Y3 := hide ((unhide Y1).below hb3)
  clear hb3 ho3 B1 Y1 d0 TN
  have kz := (unhide Y3).S
  have kf := (unhide Y3).F
  go_wp2_with (go_at_call 22; refine (sin _ _ _ _).mono ?_; rintro e wq ⟨rfl, rfl⟩; rw [hbit])
  refine bodyPost_ret (v := .tuple #[.agg #[.int .i64 0, .int .i64 0, .bool false, .int .i64 0, .int .i64 0, .slice none 0 0], .bool false]) (by simp [results, Tryd.results12, go_sem, kz]) rfl ⟨rfl, ?_⟩
  iterate 6 refine Below.setCell ?_ (by exact Nat.le_refl _) _
  exact unhide B3
end Go.Proofs.YtblhediekdeffaaDoor
