/- ReadCommand: what the specification answers. -/
import Derived.Test.YtoplijjddhecgaaDoorZCrJ
import Derived.Test.YtoplijjddhecgaaDoorZCmdS
import Derived.Test.YtoplijjddhecgaaDoorZReadNumS
namespace Go.Proofs.YtoplijjddhecgaaDoor
open Go.ChangeShapes Go.WideShapes Go.ChangeAt Go.RowKit
set_option linter.unusedVariables false
theorem k_below {w w' : World} {gn g1 : Nat} {x0 x1 x2 x3 x4 x5 x6 : Int} {nm dt : ByteArray} (hb : Below w.heap.size w w') (h1 : gn < w.heap.size) (h2 : g1 < w.heap.size) (h : w.cell? ⟨gn, 0, none⟩ = some (.int .i64 x0) ∧ w.cell? ⟨gn, 1, none⟩ = some (.int .i64 x1) ∧ w.cell? ⟨gn, 2, none⟩ = some (.int .i64 x2) ∧ w.cell? ⟨gn, 3, none⟩ = some (.int .i64 x3) ∧ w.cell? ⟨gn, 4, none⟩ = some (.int .i64 x4) ∧ w.cell? ⟨gn, 5, none⟩ = some (.int .i64 x5) ∧ w.cell? ⟨gn, 6, none⟩ = some (.int .i64 x6) ∧ w.cell? ⟨g1, 1, none⟩ = some (.string nm) ∧ w.cell? ⟨g1, 2, none⟩ = some (.string dt)) : w'.cell? ⟨gn, 0, none⟩ = some (.int .i64 x0) ∧ w'.cell? ⟨gn, 1, none⟩ = some (.int .i64 x1) ∧ w'.cell? ⟨gn, 2, none⟩ = some (.int .i64 x2) ∧ w'.cell? ⟨gn, 3, none⟩ = some (.int .i64 x3) ∧ w'.cell? ⟨gn, 4, none⟩ = some (.int .i64 x4) ∧ w'.cell? ⟨gn, 5, none⟩ = some (.int .i64 x5) ∧ w'.cell? ⟨gn, 6, none⟩ = some (.int .i64 x6) ∧ w'.cell? ⟨g1, 1, none⟩ = some (.string nm) ∧ w'.cell? ⟨g1, 2, none⟩ = some (.string dt) := by
  have e : ∀ (q j : Nat), q < w.heap.size → w'.cell? ⟨q, j, none⟩ = w.cell? ⟨q, j, none⟩ := fun q j hq => hb.cell (p := ⟨q, j, none⟩) hq
  simp only [e _ _ h1, e _ _ h2]
  exact h
theorem num_bd {f : List UInt8} {x0 x1 x2 x3 x4 x5 x6 : Int} (hx : numsR f 7 = [x0, x1, x2, x3, x4, x5, x6]) (hl : f.length = 21) : -1 ≤ x4 ∧ x4 ≤ 16777214 := by
  have e : numsR f 7 = (List.range 7).map fun k => ((ofBE (chunk f k) : Nat) : Int) - 1 := rfl
  rw [hx] at e
  have e4 := congrArg (fun l => l[4]?) e
  have e4' : x4 = ((ofBE (chunk f 4) : Nat) : Int) - 1 := by simpa using e4
  have hb := ofBE_lt2 (chunk f 4)
  have hl3 : (chunk f 4).length = 3 := by unfold chunk; rw [List.length_take, List.length_drop]; omega
  rw [hl3] at hb
  have : (256 : Nat) ^ 3 = 16777216 := by decide
  omega
set_option maxHeartbeats 1000000 in
set_option maxRecDepth 100000 in
theorem src_none (s : ByteArray) (w : World) (T1 : Hid (∀ w1, Calls Tryd.prog 50 #[.string s] w1 fun e w' => ∃ v', e = .returned (.tuple #[v', .bool false]) ∧ w'.ownsRow w1.heap.size 9 1 v' 0 (cS []) ∧ Below w1.heap.size w1 w')) :
    Calls Tryd.prog 24 #[.string s] w fun e w' => e = .returned (.tuple #[.agg #[.int .i64 0, .int .i64 0, .int .i64 0, .int .i64 0, .int .i64 0, .int .i64 0, .bool false, .string ⟨#[]⟩, .string ⟨#[]⟩], .bool false]) ∧ Below w.heap.size w w' := by
  have HB := hide (Go.Joins.below_alloc1 w (Obj.cells #[.int .i64 0, .int .i64 0, .int .i64 0, .int .i64 0, .int .i64 0, .int .i64 0, .bool false, .string ⟨#[]⟩, .string ⟨#[]⟩] 24))
  have RS := hide (BF.new w #[.int .i64 0, .int .i64 0, .int .i64 0, .int .i64 0, .int .i64 0, .int .i64 0, .bool false, .string ⟨#[]⟩, .string ⟨#[]⟩] 24)
  go_enter Tryd.func24, Tryd.ntmps24
  go_wp2_with fail
  refine (unhide T1 _).mono ?_
  rintro e w1 ⟨v1, rfl, ho1, hb1⟩
  obtain ⟨a1, c1, rfl, -⟩ := own_rowV ho1
  have HB1 := hide ((unhide HB).trans (hb1.mono (unhide HB).size))
  have RS1 := hide ((unhide RS).below hb1)
  clear ho1 hb1 T1 HB RS
  have z := (unhide RS1).S
  have zf := (unhide RS1).F
  go_wp2_with fail
  refine bodyPost_ret (v := .tuple #[.agg #[.int .i64 0, .int .i64 0, .int .i64 0, .int .i64 0, .int .i64 0, .int .i64 0, .bool false, .string ⟨#[]⟩, .string ⟨#[]⟩], .bool false]) (by simp [results, Tryd.results24, go_sem, z]) rfl ⟨rfl, ?_⟩
  iterate 9 refine Below.setCell ?_ (by exact Nat.le_refl _) _
  exact unhide HB1
set_option maxHeartbeats 1000000 in
set_option maxRecDepth 100000 in
theorem src_len (s : ByteArray) (m : List ByteArray) (ml : Nat) (h3 : ((ml : Int) != 3) = true) (w : World) (T1 : Hid (∀ w1, Calls Tryd.prog 50 #[.string s] w1 fun e w' => ∃ v', e = .returned (.tuple #[v', .bool true]) ∧ w'.ownsRow w1.heap.size 9 1 v' ml (cS m) ∧ Below w1.heap.size w1 w')) :
    Calls Tryd.prog 24 #[.string s] w fun e w' => e = .returned (.tuple #[.agg #[.int .i64 0, .int .i64 0, .int .i64 0, .int .i64 0, .int .i64 0, .int .i64 0, .bool false, .string ⟨#[]⟩, .string ⟨#[]⟩], .bool false]) ∧ Below w.heap.size w w' := by
  have HB := hide (Go.Joins.below_alloc1 w (Obj.cells #[.int .i64 0, .int .i64 0, .int .i64 0, .int .i64 0, .int .i64 0, .int .i64 0, .bool false, .string ⟨#[]⟩, .string ⟨#[]⟩] 24))
  have RS := hide (BF.new w #[.int .i64 0, .int .i64 0, .int .i64 0, .int .i64 0, .int .i64 0, .int .i64 0, .bool false, .string ⟨#[]⟩, .string ⟨#[]⟩] 24)
  go_enter Tryd.func24, Tryd.ntmps24
  go_wp2_with fail
  refine (unhide T1 _).mono ?_
  rintro e w1 ⟨v1, rfl, ho1, hb1⟩
  obtain ⟨a1, c1, rfl, -⟩ := own_rowV ho1
  have HB1 := hide ((unhide HB).trans (hb1.mono (unhide HB).size))
  have RS1 := hide ((unhide RS).below hb1)
  clear ho1 hb1 T1 HB RS
  have z := (unhide RS1).S
  have zf := (unhide RS1).F
  go_wp2_with fail
  refine bodyPost_ret (v := .tuple #[.agg #[.int .i64 0, .int .i64 0, .int .i64 0, .int .i64 0, .int .i64 0, .int .i64 0, .bool false, .string ⟨#[]⟩, .string ⟨#[]⟩], .bool false]) (by simp [results, Tryd.results24, go_sem, z]) rfl ⟨rfl, ?_⟩
  iterate 9 refine Below.setCell ?_ (by exact Nat.le_refl _) _
  exact unhide HB1
set_option maxHeartbeats 1000000 in
set_option maxRecDepth 100000 in
theorem src_form (s : ByteArray) (f0 nm dt : ByteArray) (hs : f0.size ≤ 20000) (h3 : ¬ f0.size % 3 = 0) (w : World) (T1 : Hid (∀ w1, Calls Tryd.prog 50 #[.string s] w1 fun e w' => ∃ v', e = .returned (.tuple #[v', .bool true]) ∧ w'.ownsRow w1.heap.size 9 1 v' 3 (cS [f0, nm, dt]) ∧ Below w1.heap.size w1 w')) :
    Calls Tryd.prog 24 #[.string s] w fun e w' => e = .returned (.tuple #[.agg #[.int .i64 0, .int .i64 0, .int .i64 0, .int .i64 0, .int .i64 0, .int .i64 0, .bool false, .string ⟨#[]⟩, .string ⟨#[]⟩], .bool false]) ∧ Below w.heap.size w w' := by
  have HB := hide (Go.Joins.below_alloc1 w (Obj.cells #[.int .i64 0, .int .i64 0, .int .i64 0, .int .i64 0, .int .i64 0, .int .i64 0, .bool false, .string ⟨#[]⟩, .string ⟨#[]⟩] 24))
  have RS := hide (BF.new w #[.int .i64 0, .int .i64 0, .int .i64 0, .int .i64 0, .int .i64 0, .int .i64 0, .bool false, .string ⟨#[]⟩, .string ⟨#[]⟩] 24)
  have TN := hide (fun w => sreadform30 f0 h3 (by omega) w)
  clear hs h3
  go_enter Tryd.func24, Tryd.ntmps24
  go_wp2_with fail
  refine (unhide T1 _).mono ?_
  rintro e w1 ⟨v1, rfl, ho1, hb1⟩
  obtain ⟨a1, c1, rfl, -⟩ := own_rowV ho1
  have HB1 := hide ((unhide HB).trans (hb1.mono (unhide HB).size))
  have RS1 := hide ((unhide RS).below hb1)
  obtain ⟨g1, rfl⟩ := own_at1 ho1 (by decide)
  have d0 := own_cell ho1 0 _ rfl
  have d1 := own_cell ho1 1 _ rfl
  have d2 := own_cell ho1 2 _ rfl
  have hg1 := (World.ownsRow.lt ho1 g1 rfl).2
  have hg0 := (World.ownsRow.lt ho1 g1 rfl).1
  clear ho1 hb1 T1 HB RS
  go_wp2_with fail
  refine (unhide TN _).mono ?_
  rintro e w3 ⟨v3, rfl, hb3⟩
  have HB3 := hide ((unhide HB1).trans (hb3.mono (unhide HB1).size))
  have RS3 := hide ((unhide RS1).below hb3)
  clear hb3 HB1 RS1 d0 d1 d2 TN
  have z := (unhide RS3).S
  have zf := (unhide RS3).F
  go_wp2_with fail
  refine bodyPost_ret (v := .tuple #[.agg #[.int .i64 0, .int .i64 0, .int .i64 0, .int .i64 0, .int .i64 0, .int .i64 0, .bool false, .string ⟨#[]⟩, .string ⟨#[]⟩], .bool false]) (by simp [results, Tryd.results24, go_sem, z]) rfl ⟨rfl, ?_⟩
  iterate 9 refine Below.setCell ?_ (by exact Nat.le_refl _) _
  exact unhide HB3
set_option maxHeartbeats 1000000 in
set_option maxRecDepth 100000 in
theorem src_cnt (s : ByteArray) (f0 nm dt : ByteArray) (q : Nat) (hs : f0.size = 3 * q) (hq : q ≤ 20000) (h7 : ¬ q = 7) (w : World) (T1 : Hid (∀ w1, Calls Tryd.prog 50 #[.string s] w1 fun e w' => ∃ v', e = .returned (.tuple #[v', .bool true]) ∧ w'.ownsRow w1.heap.size 9 1 v' 3 (cS [f0, nm, dt]) ∧ Below w1.heap.size w1 w')) :
    Calls Tryd.prog 24 #[.string s] w fun e w' => e = .returned (.tuple #[.agg #[.int .i64 0, .int .i64 0, .int .i64 0, .int .i64 0, .int .i64 0, .int .i64 0, .bool false, .string ⟨#[]⟩, .string ⟨#[]⟩], .bool false]) ∧ Below w.heap.size w w' := by
  have HB := hide (Go.Joins.below_alloc1 w (Obj.cells #[.int .i64 0, .int .i64 0, .int .i64 0, .int .i64 0, .int .i64 0, .int .i64 0, .bool false, .string ⟨#[]⟩, .string ⟨#[]⟩] 24))
  have RS := hide (BF.new w #[.int .i64 0, .int .i64 0, .int .i64 0, .int .i64 0, .int .i64 0, .int .i64 0, .bool false, .string ⟨#[]⟩, .string ⟨#[]⟩] 24)
  have TN := hide (fun w => sreadnums30 f0 q hs (by omega) w)
  rw [numsR_len] at TN
  have h7' : ((q : Int) != 7) = true := by rw [bne_iff_ne]; omega
  clear hs hq
  go_enter Tryd.func24, Tryd.ntmps24
  go_wp2_with fail
  refine (unhide T1 _).mono ?_
  rintro e w1 ⟨v1, rfl, ho1, hb1⟩
  obtain ⟨a1, c1, rfl, -⟩ := own_rowV ho1
  have HB1 := hide ((unhide HB).trans (hb1.mono (unhide HB).size))
  have RS1 := hide ((unhide RS).below hb1)
  obtain ⟨g1, rfl⟩ := own_at1 ho1 (by decide)
  have d0 := own_cell ho1 0 _ rfl
  have d1 := own_cell ho1 1 _ rfl
  have d2 := own_cell ho1 2 _ rfl
  have hg1 := (World.ownsRow.lt ho1 g1 rfl).2
  have hg0 := (World.ownsRow.lt ho1 g1 rfl).1
  clear ho1 hb1 T1 HB RS
  go_wp2_with fail
  refine (unhide TN _).mono ?_
  rintro e w3 ⟨v3, rfl, ho3, hb3⟩
  obtain ⟨a3, c3, rfl, -⟩ := own_rowV ho3
  have HB3 := hide ((unhide HB1).trans (hb3.mono (unhide HB1).size))
  have RS3 := hide ((unhide RS1).below hb3)
  clear hb3 ho3 HB1 RS1 d0 d1 d2 TN
  have z := (unhide RS3).S
  have zf := (unhide RS3).F
  go_wp2_with fail
  refine bodyPost_ret (v := .tuple #[.agg #[.int .i64 0, .int .i64 0, .int .i64 0, .int .i64 0, .int .i64 0, .int .i64 0, .bool false, .string ⟨#[]⟩, .string ⟨#[]⟩], .bool false]) (by simp [results, Tryd.results24, go_sem, z]) rfl ⟨rfl, ?_⟩
  iterate 9 refine Below.setCell ?_ (by exact Nat.le_refl _) _
  exact unhide HB3
set_option maxHeartbeats 1000000 in
set_option maxRecDepth 100000 in
theorem src_bit (s : ByteArray) (f0 nm dt : ByteArray) (h21 : f0.size = 3 * 7) (x0 x1 x2 x3 x4 x5 x6 : Int) (hx : numsR f0.data.toList 7 = [x0, x1, x2, x3, x4, x5, x6]) (hbit : inB x6 0 1 = false) (w : World) (T1 : Hid (∀ w1, Calls Tryd.prog 50 #[.string s] w1 fun e w' => ∃ v', e = .returned (.tuple #[v', .bool true]) ∧ w'.ownsRow w1.heap.size 9 1 v' 3 (cS [f0, nm, dt]) ∧ Below w1.heap.size w1 w')) :
    Calls Tryd.prog 24 #[.string s] w fun e w' => e = .returned (.tuple #[.agg #[.int .i64 0, .int .i64 0, .int .i64 0, .int .i64 0, .int .i64 0, .int .i64 0, .bool false, .string ⟨#[]⟩, .string ⟨#[]⟩], .bool false]) ∧ Below w.heap.size w w' := by
  have HB := hide (Go.Joins.below_alloc1 w (Obj.cells #[.int .i64 0, .int .i64 0, .int .i64 0, .int .i64 0, .int .i64 0, .int .i64 0, .bool false, .string ⟨#[]⟩, .string ⟨#[]⟩] 24))
  have RS := hide (BF.new w #[.int .i64 0, .int .i64 0, .int .i64 0, .int .i64 0, .int .i64 0, .int .i64 0, .bool false, .string ⟨#[]⟩, .string ⟨#[]⟩] 24)
  have TN := hide (fun w => sreadnums30 f0 7 h21 (by omega) w)
  rw [numsR_len, hx] at TN
  clear hx h21
  go_enter Tryd.func24, Tryd.ntmps24
  go_wp2_with fail
  refine (unhide T1 _).mono ?_
  rintro e w1 ⟨v1, rfl, ho1, hb1⟩
  obtain ⟨a1, c1, rfl, -⟩ := own_rowV ho1
  have HB1 := hide ((unhide HB).trans (hb1.mono (unhide HB).size))
  have RS1 := hide ((unhide RS).below hb1)
  obtain ⟨g1, rfl⟩ := own_at1 ho1 (by decide)
  have d0 := own_cell ho1 0 _ rfl
  have d1 := own_cell ho1 1 _ rfl
  have d2 := own_cell ho1 2 _ rfl
  have hg1 := (World.ownsRow.lt ho1 g1 rfl).2
  have hg0 := (World.ownsRow.lt ho1 g1 rfl).1
  clear ho1 hb1 T1 HB RS
  go_wp2_with fail
  refine (unhide TN _).mono ?_
  rintro e w3 ⟨v3, rfl, ho3, hb3⟩
  obtain ⟨a3, c3, rfl, -⟩ := own_rowV ho3
  obtain ⟨gn, rfl⟩ := own_at1 ho3 (by decide)
  have e6 := own_cell ho3 6 _ rfl
  have HB3 := hide ((unhide HB1).trans (hb3.mono (unhide HB1).size))
  have RS3 := hide ((unhide RS1).below hb3)
  clear hb3 ho3 HB1 RS1 d0 d1 d2 TN
  have z := (unhide RS3).S
  have zf := (unhide RS3).F
  go_wp2_with (go_at_call 33; refine (sin _ _ _ _).mono ?_; rintro e w4 ⟨rfl, rfl⟩; rw [hbit])
  refine bodyPost_ret (v := .tuple #[.agg #[.int .i64 0, .int .i64 0, .int .i64 0, .int .i64 0, .int .i64 0, .int .i64 0, .bool false, .string ⟨#[]⟩, .string ⟨#[]⟩], .bool false]) (by simp [results, Tryd.results24, go_sem, z]) rfl ⟨rfl, ?_⟩
  iterate 9 refine Below.setCell ?_ (by exact Nat.le_refl _) _
  exact unhide HB3
set_option maxHeartbeats 1000000 in
set_option maxRecDepth 100000 in
theorem src_ok (s : ByteArray) (f0 nm dt : ByteArray) (h21 : f0.size = 3 * 7) (x0 x1 x2 x3 x4 x5 x6 : Int) (hx : numsR f0.data.toList 7 = [x0, x1, x2, x3, x4, x5, x6]) (hbit : inB x6 0 1 = true) (HNM : Hid (nm.size ≤ 1048576)) (HDT : Hid (dt.size ≤ 1048576)) (R : Bool) (HRR : Hid (R = cmdB x0 x1 x2 x3 (x4 - 1000) x5 (x6 == 1) nm dt)) (w : World) (T1 : Hid (∀ w1, Calls Tryd.prog 50 #[.string s] w1 fun e w' => ∃ v', e = .returned (.tuple #[v', .bool true]) ∧ w'.ownsRow w1.heap.size 9 1 v' 3 (cS [f0, nm, dt]) ∧ Below w1.heap.size w1 w')) :
    Calls Tryd.prog 24 #[.string s] w fun e w' => e = .returned (.tuple #[.agg #[.int .i64 x0, .int .i64 x1, .int .i64 x2, .int .i64 x3, .int .i64 (x4 - 1000), .int .i64 x5, .bool (x6 == 1), .string nm, .string dt], .bool R]) ∧ Below w.heap.size w w' := by
  have HB := hide (Go.Joins.below_alloc1 w (Obj.cells #[.int .i64 0, .int .i64 0, .int .i64 0, .int .i64 0, .int .i64 0, .int .i64 0, .bool false, .string ⟨#[]⟩, .string ⟨#[]⟩] 24))
  have RS := hide (BF.new w #[.int .i64 0, .int .i64 0, .int .i64 0, .int .i64 0, .int .i64 0, .int .i64 0, .bool false, .string ⟨#[]⟩, .string ⟨#[]⟩] 24)
  have TN := hide (fun w => sreadnums30 f0 7 h21 (by omega) w)
  rw [numsR_len, hx] at TN
  have hx4 : -1 ≤ x4 ∧ x4 ≤ 16777214 := num_bd hx (by rw [text_len]; exact h21)
  obtain ⟨x4a, x4b⟩ := hx4
  clear hx h21
  go_enter Tryd.func24, Tryd.ntmps24
  go_wp2_with fail
  refine (unhide T1 _).mono ?_
  rintro e w1 ⟨v1, rfl, ho1, hb1⟩
  obtain ⟨a1, c1, rfl, -⟩ := own_rowV ho1
  have HB1 := hide ((unhide HB).trans (hb1.mono (unhide HB).size))
  have RS1 := hide ((unhide RS).below hb1)
  obtain ⟨g1, rfl⟩ := own_at1 ho1 (by decide)
  have d0 := own_cell ho1 0 _ rfl
  have d1 := own_cell ho1 1 _ rfl
  have d2 := own_cell ho1 2 _ rfl
  have hg1 := (World.ownsRow.lt ho1 g1 rfl).2
  have hg0 := (World.ownsRow.lt ho1 g1 rfl).1
  clear ho1 hb1 T1 HB RS
  go_wp2_with fail
  refine (unhide TN _).mono ?_
  rintro e w3 ⟨v3, rfl, ho3, hb3⟩
  obtain ⟨a3, c3, rfl, -⟩ := own_rowV ho3
  obtain ⟨gn, rfl⟩ := own_at1 ho3 (by decide)
  have e6 := own_cell ho3 6 _ rfl
  have k3 : w3.cell? ⟨gn, 0, none⟩ = some (.int .i64 x0) ∧ w3.cell? ⟨gn, 1, none⟩ = some (.int .i64 x1) ∧ w3.cell? ⟨gn, 2, none⟩ = some (.int .i64 x2) ∧ w3.cell? ⟨gn, 3, none⟩ = some (.int .i64 x3) ∧ w3.cell? ⟨gn, 4, none⟩ = some (.int .i64 x4) ∧ w3.cell? ⟨gn, 5, none⟩ = some (.int .i64 x5) ∧ w3.cell? ⟨gn, 6, none⟩ = some (.int .i64 x6) ∧ w3.cell? ⟨g1, 1, none⟩ = some (.string nm) ∧ w3.cell? ⟨g1, 2, none⟩ = some (.string dt) := ⟨own_cell ho3 0 _ rfl, own_cell ho3 1 _ rfl, own_cell ho3 2 _ rfl, own_cell ho3 3 _ rfl, own_cell ho3 4 _ rfl, own_cell ho3 5 _ rfl, own_cell ho3 6 _ rfl, (hb3.cell (p := ⟨g1, 1, none⟩) hg1).trans d1, (hb3.cell (p := ⟨g1, 2, none⟩) hg1).trans d2⟩
  have hgn := (World.ownsRow.lt ho3 gn rfl).2
  have hgf : g1 < w3.heap.size := Nat.lt_of_lt_of_le hg1 hb3.size
  have HB3 := hide ((unhide HB1).trans (hb3.mono (unhide HB1).size))
  have RS3 := hide ((unhide RS1).below hb3)
  clear hb3 ho3 HB1 RS1 d0 d1 d2 TN hg1 hg0
  go_wp2_with (go_at_call 33; refine (sin _ _ _ _).mono ?_; rintro e wq ⟨rfl, rfl⟩; rw [hbit])
  clear e6
  refine wp_region_held_drew (S := fun w' => w'.cell? ⟨gn, 0, none⟩ = some (.int .i64 x0) ∧ w'.cell? ⟨gn, 1, none⟩ = some (.int .i64 x1) ∧ w'.cell? ⟨gn, 2, none⟩ = some (.int .i64 x2) ∧ w'.cell? ⟨gn, 3, none⟩ = some (.int .i64 x3) ∧ w'.cell? ⟨gn, 4, none⟩ = some (.int .i64 x4) ∧ w'.cell? ⟨gn, 5, none⟩ = some (.int .i64 x5) ∧ w'.cell? ⟨gn, 6, none⟩ = some (.int .i64 x6) ∧ w'.cell? ⟨g1, 1, none⟩ = some (.string nm) ∧ w'.cell? ⟨g1, 2, none⟩ = some (.string dt)) (by kernel_rfl) k3 (fun hHeld => ?_)
  refine wpAnyH_take (i := 0) (oi := { dst := some 44, op := .move (.tmp 6), type := 55, pos := "l06_mux.go:61", after := #[], guard := none }) (v := ?_) rfl (by kernel_rfl) (by kernel_rfl) (by kernel_rfl) (fun _ _ _ h => h) (Or.inl ⟨by rfl, ?_⟩) (by assumption) ?_
  rotate_left 1
  · (intro w' hSw; (try dsimp only at hSw); go_simp; try with_reducible rfl)
  try simp only [Act.put, List.setIfInBounds_toArray, List.set_cons_zero, List.set_cons_succ]
  refine wpAnyH_take (i := 1) (oi := { dst := some 45, op := .indexAddr 55 (.tmp 44) (.const (.int .i64 0)), type := 0, pos := "l06_mux.go:61", after := #[{ on := 0, ground := .data }], guard := none }) (v := ?_) rfl (by kernel_rfl) (by kernel_rfl) (by kernel_rfl) (fun _ _ _ h => h) (Or.inl ⟨by rfl, ?_⟩) (by assumption) ?_
  rotate_left 1
  · (intro w' hSw; (try dsimp only at hSw); go_simp; try with_reducible rfl)
  try simp only [Act.put, List.setIfInBounds_toArray, List.set_cons_zero, List.set_cons_succ]
  refine wpAnyH_take (i := 2) (oi := { dst := some 46, op := .load 3 (.tmp 45), type := 3, pos := "l06_mux.go:61", after := #[{ on := 1, ground := .data }], guard := none }) (v := ?_) rfl (by kernel_rfl) (by kernel_rfl) (by kernel_rfl) (fun _ _ _ h => h) (Or.inl ⟨by rfl, ?_⟩) (by assumption) ?_
  rotate_left 1
  · (intro w' hSw; (try dsimp only at hSw); go_simp; try with_reducible rfl)
  try simp only [Act.put, List.setIfInBounds_toArray, List.set_cons_zero, List.set_cons_succ]
  refine wpAnyH_take (i := 3) (oi := { dst := some 47, op := .move (.tmp 6), type := 55, pos := "l06_mux.go:61", after := #[], guard := none }) (v := ?_) rfl (by kernel_rfl) (by kernel_rfl) (by kernel_rfl) (fun _ _ _ h => h) (Or.inl ⟨by rfl, ?_⟩) (by assumption) ?_
  rotate_left 1
  · (intro w' hSw; (try dsimp only at hSw); go_simp; try with_reducible rfl)
  try simp only [Act.put, List.setIfInBounds_toArray, List.set_cons_zero, List.set_cons_succ]
  refine wpAnyH_take (i := 4) (oi := { dst := some 48, op := .indexAddr 55 (.tmp 47) (.const (.int .i64 1)), type := 0, pos := "l06_mux.go:61", after := #[{ on := 3, ground := .data }], guard := none }) (v := ?_) rfl (by kernel_rfl) (by kernel_rfl) (by kernel_rfl) (fun _ _ _ h => h) (Or.inl ⟨by rfl, ?_⟩) (by assumption) ?_
  rotate_left 1
  · (intro w' hSw; (try dsimp only at hSw); go_simp; try with_reducible rfl)
  try simp only [Act.put, List.setIfInBounds_toArray, List.set_cons_zero, List.set_cons_succ]
  refine wpAnyH_take (i := 5) (oi := { dst := some 49, op := .load 3 (.tmp 48), type := 3, pos := "l06_mux.go:61", after := #[{ on := 4, ground := .data }], guard := none }) (v := ?_) rfl (by kernel_rfl) (by kernel_rfl) (by kernel_rfl) (fun _ _ _ h => h) (Or.inl ⟨by rfl, ?_⟩) (by assumption) ?_
  rotate_left 1
  · (intro w' hSw; (try dsimp only at hSw); go_simp; try with_reducible rfl)
  try simp only [Act.put, List.setIfInBounds_toArray, List.set_cons_zero, List.set_cons_succ]
  refine wpAnyH_take (i := 6) (oi := { dst := some 50, op := .move (.tmp 6), type := 55, pos := "l06_mux.go:61", after := #[], guard := none }) (v := ?_) rfl (by kernel_rfl) (by kernel_rfl) (by kernel_rfl) (fun _ _ _ h => h) (Or.inl ⟨by rfl, ?_⟩) (by assumption) ?_
  rotate_left 1
  · (intro w' hSw; (try dsimp only at hSw); go_simp; try with_reducible rfl)
  try simp only [Act.put, List.setIfInBounds_toArray, List.set_cons_zero, List.set_cons_succ]
  refine wpAnyH_take (i := 7) (oi := { dst := some 51, op := .indexAddr 55 (.tmp 50) (.const (.int .i64 2)), type := 0, pos := "l06_mux.go:61", after := #[{ on := 6, ground := .data }], guard := none }) (v := ?_) rfl (by kernel_rfl) (by kernel_rfl) (by kernel_rfl) (fun _ _ _ h => h) (Or.inl ⟨by rfl, ?_⟩) (by assumption) ?_
  rotate_left 1
  · (intro w' hSw; (try dsimp only at hSw); go_simp; try with_reducible rfl)
  try simp only [Act.put, List.setIfInBounds_toArray, List.set_cons_zero, List.set_cons_succ]
  refine wpAnyH_take (i := 8) (oi := { dst := some 52, op := .load 3 (.tmp 51), type := 3, pos := "l06_mux.go:61", after := #[{ on := 7, ground := .data }], guard := none }) (v := ?_) rfl (by kernel_rfl) (by kernel_rfl) (by kernel_rfl) (fun _ _ _ h => h) (Or.inl ⟨by rfl, ?_⟩) (by assumption) ?_
  rotate_left 1
  · (intro w' hSw; (try dsimp only at hSw); go_simp; try with_reducible rfl)
  try simp only [Act.put, List.setIfInBounds_toArray, List.set_cons_zero, List.set_cons_succ]
  refine wpAnyH_take (i := 9) (oi := { dst := some 53, op := .move (.tmp 6), type := 55, pos := "l06_mux.go:61", after := #[], guard := none }) (v := ?_) rfl (by kernel_rfl) (by kernel_rfl) (by kernel_rfl) (fun _ _ _ h => h) (Or.inl ⟨by rfl, ?_⟩) (by assumption) ?_
  rotate_left 1
  · (intro w' hSw; (try dsimp only at hSw); go_simp; try with_reducible rfl)
  try simp only [Act.put, List.setIfInBounds_toArray, List.set_cons_zero, List.set_cons_succ]
  refine wpAnyH_take (i := 10) (oi := { dst := some 54, op := .indexAddr 55 (.tmp 53) (.const (.int .i64 3)), type := 0, pos := "l06_mux.go:61", after := #[{ on := 9, ground := .data }], guard := none }) (v := ?_) rfl (by kernel_rfl) (by kernel_rfl) (by kernel_rfl) (fun _ _ _ h => h) (Or.inl ⟨by rfl, ?_⟩) (by assumption) ?_
  rotate_left 1
  · (intro w' hSw; (try dsimp only at hSw); go_simp; try with_reducible rfl)
  try simp only [Act.put, List.setIfInBounds_toArray, List.set_cons_zero, List.set_cons_succ]
  refine wpAnyH_take (i := 11) (oi := { dst := some 55, op := .load 3 (.tmp 54), type := 3, pos := "l06_mux.go:61", after := #[{ on := 10, ground := .data }], guard := none }) (v := ?_) rfl (by kernel_rfl) (by kernel_rfl) (by kernel_rfl) (fun _ _ _ h => h) (Or.inl ⟨by rfl, ?_⟩) (by assumption) ?_
  rotate_left 1
  · (intro w' hSw; (try dsimp only at hSw); go_simp; try with_reducible rfl)
  try simp only [Act.put, List.setIfInBounds_toArray, List.set_cons_zero, List.set_cons_succ]
  refine wpAnyH_take (i := 12) (oi := { dst := some 56, op := .move (.tmp 6), type := 55, pos := "l06_mux.go:61", after := #[], guard := none }) (v := ?_) rfl (by kernel_rfl) (by kernel_rfl) (by kernel_rfl) (fun _ _ _ h => h) (Or.inl ⟨by rfl, ?_⟩) (by assumption) ?_
  rotate_left 1
  · (intro w' hSw; (try dsimp only at hSw); go_simp; try with_reducible rfl)
  try simp only [Act.put, List.setIfInBounds_toArray, List.set_cons_zero, List.set_cons_succ]
  refine wpAnyH_take (i := 13) (oi := { dst := some 57, op := .indexAddr 55 (.tmp 56) (.const (.int .i64 4)), type := 0, pos := "l06_mux.go:61", after := #[{ on := 12, ground := .data }], guard := none }) (v := ?_) rfl (by kernel_rfl) (by kernel_rfl) (by kernel_rfl) (fun _ _ _ h => h) (Or.inl ⟨by rfl, ?_⟩) (by assumption) ?_
  rotate_left 1
  · (intro w' hSw; (try dsimp only at hSw); go_simp; try with_reducible rfl)
  try simp only [Act.put, List.setIfInBounds_toArray, List.set_cons_zero, List.set_cons_succ]
  refine wpAnyH_take (i := 14) (oi := { dst := some 58, op := .load 3 (.tmp 57), type := 3, pos := "l06_mux.go:61", after := #[{ on := 13, ground := .data }], guard := none }) (v := ?_) rfl (by kernel_rfl) (by kernel_rfl) (by kernel_rfl) (fun _ _ _ h => h) (Or.inl ⟨by rfl, ?_⟩) (by assumption) ?_
  rotate_left 1
  · (intro w' hSw; (try dsimp only at hSw); go_simp; try with_reducible rfl)
  try simp only [Act.put, List.setIfInBounds_toArray, List.set_cons_zero, List.set_cons_succ]
  refine wpAnyH_take (i := 15) (oi := { dst := some 59, op := .binOp .sub 3 (.tmp 58) (.const (.int .i64 1000)) 3, type := 3, pos := "l06_mux.go:61", after := #[{ on := 14, ground := .data }], guard := none }) (v := ?_) rfl (by kernel_rfl) (by kernel_rfl) (by kernel_rfl) (fun _ _ _ h => h) (Or.inl ⟨by rfl, ?_⟩) (by assumption) ?_
  rotate_left 1
  · (intro w' hSw; (try dsimp only at hSw); go_simp; try with_reducible rfl)
  try simp only [Act.put, List.setIfInBounds_toArray, List.set_cons_zero, List.set_cons_succ]
  refine wpAnyH_take (i := 16) (oi := { dst := some 60, op := .move (.tmp 6), type := 55, pos := "l06_mux.go:61", after := #[], guard := none }) (v := ?_) rfl (by kernel_rfl) (by kernel_rfl) (by kernel_rfl) (fun _ _ _ h => h) (Or.inl ⟨by rfl, ?_⟩) (by assumption) ?_
  rotate_left 1
  · (intro w' hSw; (try dsimp only at hSw); go_simp; try with_reducible rfl)
  try simp only [Act.put, List.setIfInBounds_toArray, List.set_cons_zero, List.set_cons_succ]
  refine wpAnyH_take (i := 17) (oi := { dst := some 61, op := .indexAddr 55 (.tmp 60) (.const (.int .i64 5)), type := 0, pos := "l06_mux.go:61", after := #[{ on := 16, ground := .data }], guard := none }) (v := ?_) rfl (by kernel_rfl) (by kernel_rfl) (by kernel_rfl) (fun _ _ _ h => h) (Or.inl ⟨by rfl, ?_⟩) (by assumption) ?_
  rotate_left 1
  · (intro w' hSw; (try dsimp only at hSw); go_simp; try with_reducible rfl)
  try simp only [Act.put, List.setIfInBounds_toArray, List.set_cons_zero, List.set_cons_succ]
  refine wpAnyH_take (i := 18) (oi := { dst := some 62, op := .load 3 (.tmp 61), type := 3, pos := "l06_mux.go:61", after := #[{ on := 17, ground := .data }], guard := none }) (v := ?_) rfl (by kernel_rfl) (by kernel_rfl) (by kernel_rfl) (fun _ _ _ h => h) (Or.inl ⟨by rfl, ?_⟩) (by assumption) ?_
  rotate_left 1
  · (intro w' hSw; (try dsimp only at hSw); go_simp; try with_reducible rfl)
  try simp only [Act.put, List.setIfInBounds_toArray, List.set_cons_zero, List.set_cons_succ]
  refine wpAnyH_take (i := 19) (oi := { dst := some 63, op := .move (.tmp 6), type := 55, pos := "l06_mux.go:61", after := #[], guard := none }) (v := ?_) rfl (by kernel_rfl) (by kernel_rfl) (by kernel_rfl) (fun _ _ _ h => h) (Or.inl ⟨by rfl, ?_⟩) (by assumption) ?_
  rotate_left 1
  · (intro w' hSw; (try dsimp only at hSw); go_simp; try with_reducible rfl)
  try simp only [Act.put, List.setIfInBounds_toArray, List.set_cons_zero, List.set_cons_succ]
  refine wpAnyH_take (i := 20) (oi := { dst := some 64, op := .indexAddr 55 (.tmp 63) (.const (.int .i64 6)), type := 0, pos := "l06_mux.go:61", after := #[{ on := 19, ground := .data }], guard := none }) (v := ?_) rfl (by kernel_rfl) (by kernel_rfl) (by kernel_rfl) (fun _ _ _ h => h) (Or.inl ⟨by rfl, ?_⟩) (by assumption) ?_
  rotate_left 1
  · (intro w' hSw; (try dsimp only at hSw); go_simp; try with_reducible rfl)
  try simp only [Act.put, List.setIfInBounds_toArray, List.set_cons_zero, List.set_cons_succ]
  refine wpAnyH_take (i := 21) (oi := { dst := some 65, op := .load 3 (.tmp 64), type := 3, pos := "l06_mux.go:61", after := #[{ on := 20, ground := .data }], guard := none }) (v := ?_) rfl (by kernel_rfl) (by kernel_rfl) (by kernel_rfl) (fun _ _ _ h => h) (Or.inl ⟨by rfl, ?_⟩) (by assumption) ?_
  rotate_left 1
  · (intro w' hSw; (try dsimp only at hSw); go_simp; try with_reducible rfl)
  try simp only [Act.put, List.setIfInBounds_toArray, List.set_cons_zero, List.set_cons_succ]
  refine wpAnyH_take (i := 22) (oi := { dst := some 66, op := .binOp .eql 3 (.tmp 65) (.const (.int .i64 1)) 3, type := 4, pos := "l06_mux.go:61", after := #[{ on := 21, ground := .data }], guard := none }) (v := ?_) rfl (by kernel_rfl) (by kernel_rfl) (by kernel_rfl) (fun _ _ _ h => h) (Or.inl ⟨by rfl, ?_⟩) (by assumption) ?_
  rotate_left 1
  · (intro w' hSw; (try dsimp only at hSw); go_simp; try with_reducible rfl)
  try simp only [Act.put, List.setIfInBounds_toArray, List.set_cons_zero, List.set_cons_succ]
  refine wpAnyH_take (i := 23) (oi := { dst := some 67, op := .move (.tmp 4), type := 39, pos := "l06_mux.go:61", after := #[], guard := none }) (v := ?_) rfl (by kernel_rfl) (by kernel_rfl) (by kernel_rfl) (fun _ _ _ h => h) (Or.inl ⟨by rfl, ?_⟩) (by assumption) ?_
  rotate_left 1
  · (intro w' hSw; (try dsimp only at hSw); go_simp; try with_reducible rfl)
  try simp only [Act.put, List.setIfInBounds_toArray, List.set_cons_zero, List.set_cons_succ]
  refine wpAnyH_take (i := 24) (oi := { dst := some 68, op := .indexAddr 39 (.tmp 67) (.const (.int .i64 1)), type := 0, pos := "l06_mux.go:61", after := #[{ on := 23, ground := .data }], guard := none }) (v := ?_) rfl (by kernel_rfl) (by kernel_rfl) (by kernel_rfl) (fun _ _ _ h => h) (Or.inl ⟨by rfl, ?_⟩) (by assumption) ?_
  rotate_left 1
  · (intro w' hSw; (try dsimp only at hSw); go_simp; try with_reducible rfl)
  try simp only [Act.put, List.setIfInBounds_toArray, List.set_cons_zero, List.set_cons_succ]
  refine wpAnyH_take (i := 25) (oi := { dst := some 69, op := .load 9 (.tmp 68), type := 9, pos := "l06_mux.go:61", after := #[{ on := 24, ground := .data }], guard := none }) (v := ?_) rfl (by kernel_rfl) (by kernel_rfl) (by kernel_rfl) (fun _ _ _ h => h) (Or.inl ⟨by rfl, ?_⟩) (by assumption) ?_
  rotate_left 1
  · (intro w' hSw; (try dsimp only at hSw); go_simp; try with_reducible rfl)
  try simp only [Act.put, List.setIfInBounds_toArray, List.set_cons_zero, List.set_cons_succ]
  refine wpAnyH_take (i := 26) (oi := { dst := some 70, op := .move (.tmp 4), type := 39, pos := "l06_mux.go:61", after := #[], guard := none }) (v := ?_) rfl (by kernel_rfl) (by kernel_rfl) (by kernel_rfl) (fun _ _ _ h => h) (Or.inl ⟨by rfl, ?_⟩) (by assumption) ?_
  rotate_left 1
  · (intro w' hSw; (try dsimp only at hSw); go_simp; try with_reducible rfl)
  try simp only [Act.put, List.setIfInBounds_toArray, List.set_cons_zero, List.set_cons_succ]
  refine wpAnyH_take (i := 27) (oi := { dst := some 71, op := .indexAddr 39 (.tmp 70) (.const (.int .i64 2)), type := 0, pos := "l06_mux.go:61", after := #[{ on := 26, ground := .data }], guard := none }) (v := ?_) rfl (by kernel_rfl) (by kernel_rfl) (by kernel_rfl) (fun _ _ _ h => h) (Or.inl ⟨by rfl, ?_⟩) (by assumption) ?_
  rotate_left 1
  · (intro w' hSw; (try dsimp only at hSw); go_simp; try with_reducible rfl)
  try simp only [Act.put, List.setIfInBounds_toArray, List.set_cons_zero, List.set_cons_succ]
  refine wpAnyH_take (i := 28) (oi := { dst := some 72, op := .load 9 (.tmp 71), type := 9, pos := "l06_mux.go:61", after := #[{ on := 27, ground := .data }], guard := none }) (v := ?_) rfl (by kernel_rfl) (by kernel_rfl) (by kernel_rfl) (fun _ _ _ h => h) (Or.inl ⟨by rfl, ?_⟩) (by assumption) ?_
  rotate_left 1
  · (intro w' hSw; (try dsimp only at hSw); go_simp; try with_reducible rfl)
  try simp only [Act.put, List.setIfInBounds_toArray, List.set_cons_zero, List.set_cons_succ]
  refine wpAnyH_take (i := 29) (oi := { dst := some 73, op := .build 24 #[(0, .tmp 46), (1, .tmp 49), (2, .tmp 52), (3, .tmp 55), (4, .tmp 59), (5, .tmp 62), (6, .tmp 66), (7, .tmp 69), (8, .tmp 72)], type := 24, pos := "l06_mux.go:61", after := #[{ on := 2, ground := .data }, { on := 5, ground := .data }, { on := 8, ground := .data }, { on := 11, ground := .data }, { on := 15, ground := .data }, { on := 18, ground := .data }, { on := 22, ground := .data }, { on := 25, ground := .data }, { on := 28, ground := .data }], guard := none }) (v := ?_) rfl (by kernel_rfl) (by kernel_rfl) (by kernel_rfl) (fun _ _ _ h => h) (Or.inl ⟨by rfl, ?_⟩) (by assumption) ?_
  rotate_left 1
  · (intro w' hSw; (try dsimp only at hSw); go_simp; try with_reducible rfl)
  try simp only [Act.put, List.setIfInBounds_toArray, List.set_cons_zero, List.set_cons_succ]
  rw [show IntKind.i64.wrap (x4 - 1000) = x4 - 1000 from wrapi _ (by omega) (by omega)]
  have RS4 := hide (unhide RS3).drew
  have HB4 := hide (unhide HB3).drew
  have k4 : wq.drew.cell? ⟨gn, 0, none⟩ = some (.int .i64 x0) ∧ wq.drew.cell? ⟨gn, 1, none⟩ = some (.int .i64 x1) ∧ wq.drew.cell? ⟨gn, 2, none⟩ = some (.int .i64 x2) ∧ wq.drew.cell? ⟨gn, 3, none⟩ = some (.int .i64 x3) ∧ wq.drew.cell? ⟨gn, 4, none⟩ = some (.int .i64 x4) ∧ wq.drew.cell? ⟨gn, 5, none⟩ = some (.int .i64 x5) ∧ wq.drew.cell? ⟨gn, 6, none⟩ = some (.int .i64 x6) ∧ wq.drew.cell? ⟨g1, 1, none⟩ = some (.string nm) ∧ wq.drew.cell? ⟨g1, 2, none⟩ = some (.string dt) := k3
  have hgn4 : gn < wq.drew.heap.size := hgn
  have hgf4 : g1 < wq.drew.heap.size := hgf
  generalize wq.drew = w4 at RS4 HB4 k4 hHeld hgn4 hgf4 ⊢
  refine wpAnyH_ready (rs := [30]) (by kernel_rfl) (by simp) ?_
  refine AllReadyH.cons (o := { dst := some 8, op := .alloc 24, type := 0, pos := "l06_mux.go:61", after := #[], guard := none }) rfl (fun K hK => ?_) AllReadyH.nil
  have hb5 : Below w4.heap.size w4 (w4.alloc (Obj.cells #[.int .i64 0, .int .i64 0, .int .i64 0, .int .i64 0, .int .i64 0, .int .i64 0, .bool false, .string ⟨#[]⟩, .string ⟨#[]⟩] 24)) := (Below.refl _ _).alloc (Nat.le_refl _) _
  have A5 := hide (BF.new w4 #[.int .i64 0, .int .i64 0, .int .i64 0, .int .i64 0, .int .i64 0, .int .i64 0, .bool false, .string ⟨#[]⟩, .string ⟨#[]⟩] 24)
  have RS5 := hide ((unhide RS4).below hb5)
  have HB5 := hide ((unhide HB4).trans (hb5.mono (unhide HB4).size))
  have k5 : (w4.alloc (Obj.cells #[.int .i64 0, .int .i64 0, .int .i64 0, .int .i64 0, .int .i64 0, .int .i64 0, .bool false, .string ⟨#[]⟩, .string ⟨#[]⟩] 24)).cell? ⟨gn, 0, none⟩ = some (.int .i64 x0) ∧ (w4.alloc (Obj.cells #[.int .i64 0, .int .i64 0, .int .i64 0, .int .i64 0, .int .i64 0, .int .i64 0, .bool false, .string ⟨#[]⟩, .string ⟨#[]⟩] 24)).cell? ⟨gn, 1, none⟩ = some (.int .i64 x1) ∧ (w4.alloc (Obj.cells #[.int .i64 0, .int .i64 0, .int .i64 0, .int .i64 0, .int .i64 0, .int .i64 0, .bool false, .string ⟨#[]⟩, .string ⟨#[]⟩] 24)).cell? ⟨gn, 2, none⟩ = some (.int .i64 x2) ∧ (w4.alloc (Obj.cells #[.int .i64 0, .int .i64 0, .int .i64 0, .int .i64 0, .int .i64 0, .int .i64 0, .bool false, .string ⟨#[]⟩, .string ⟨#[]⟩] 24)).cell? ⟨gn, 3, none⟩ = some (.int .i64 x3) ∧ (w4.alloc (Obj.cells #[.int .i64 0, .int .i64 0, .int .i64 0, .int .i64 0, .int .i64 0, .int .i64 0, .bool false, .string ⟨#[]⟩, .string ⟨#[]⟩] 24)).cell? ⟨gn, 4, none⟩ = some (.int .i64 x4) ∧ (w4.alloc (Obj.cells #[.int .i64 0, .int .i64 0, .int .i64 0, .int .i64 0, .int .i64 0, .int .i64 0, .bool false, .string ⟨#[]⟩, .string ⟨#[]⟩] 24)).cell? ⟨gn, 5, none⟩ = some (.int .i64 x5) ∧ (w4.alloc (Obj.cells #[.int .i64 0, .int .i64 0, .int .i64 0, .int .i64 0, .int .i64 0, .int .i64 0, .bool false, .string ⟨#[]⟩, .string ⟨#[]⟩] 24)).cell? ⟨gn, 6, none⟩ = some (.int .i64 x6) ∧ (w4.alloc (Obj.cells #[.int .i64 0, .int .i64 0, .int .i64 0, .int .i64 0, .int .i64 0, .int .i64 0, .bool false, .string ⟨#[]⟩, .string ⟨#[]⟩] 24)).cell? ⟨g1, 1, none⟩ = some (.string nm) ∧ (w4.alloc (Obj.cells #[.int .i64 0, .int .i64 0, .int .i64 0, .int .i64 0, .int .i64 0, .int .i64 0, .bool false, .string ⟨#[]⟩, .string ⟨#[]⟩] 24)).cell? ⟨g1, 2, none⟩ = some (.string dt) := k_below hb5 hgn4 hgf4 k4
  have hnn : ¬ gn = w4.heap.size := by omega
  have hnf : ¬ g1 = w4.heap.size := by omega
  have hww : w.heap.size < w4.heap.size := (unhide RS4).lt
  clear hb5
  go_simp
  refine hK.out _ _ ?_ (fun hHeld30 => ?_)
  · exact k5
  clear hK K
  try simp only [Act.put, List.setIfInBounds_toArray, List.set_cons_zero, List.set_cons_succ]
  generalize w4.alloc (Obj.cells #[.int .i64 0, .int .i64 0, .int .i64 0, .int .i64 0, .int .i64 0, .int .i64 0, .bool false, .string ⟨#[]⟩, .string ⟨#[]⟩] 24) = w5 at A5 RS5 HB5 k5 hHeld30 ⊢
  generalize w4.heap.size = P at A5 hnn hnf hww ⊢
  refine wpAnyH_ready (rs := [31]) (by kernel_rfl) (by simp) ?_
  refine AllReadyH.cons (o := { dst := none, op := .store 24 (.tmp 8) (.tmp 73), type := 0, pos := "l06_mux.go:61", after := #[{ on := 30, ground := .data }, { on := 29, ground := .data }, { on := 0, ground := .phase }, { on := 1, ground := .phase }, { on := 2, ground := .phase }, { on := 3, ground := .phase }, { on := 4, ground := .phase }, { on := 5, ground := .phase }, { on := 6, ground := .phase }, { on := 7, ground := .phase }, { on := 8, ground := .phase }, { on := 9, ground := .phase }, { on := 10, ground := .phase }, { on := 11, ground := .phase }, { on := 12, ground := .phase }, { on := 13, ground := .phase }, { on := 14, ground := .phase }, { on := 15, ground := .phase }, { on := 16, ground := .phase }, { on := 17, ground := .phase }, { on := 18, ground := .phase }, { on := 19, ground := .phase }, { on := 20, ground := .phase }, { on := 21, ground := .phase }, { on := 22, ground := .phase }, { on := 23, ground := .phase }, { on := 24, ground := .phase }, { on := 25, ground := .phase }, { on := 26, ground := .phase }, { on := 27, ground := .phase }, { on := 28, ground := .phase }, { on := 29, ground := .phase }, { on := 30, ground := .phase }], guard := none }) rfl (fun K hK => ?_) AllReadyH.nil
  have f5 := (unhide A5).S
  have f6 := (unhide A5).F
  have A6 := hide (put9 (unhide A5) (.int .i64 x0) (.int .i64 x1) (.int .i64 x2) (.int .i64 x3) (.int .i64 (x4 - 1000)) (.int .i64 x5) (.bool (x6 == 1)) (.string nm) (.string dt))
  have HB6 := hide ((((((((((unhide HB5).setCell (p := ⟨P, 0, none⟩) (Nat.le_of_lt hww) (.int .i64 x0)).setCell (p := ⟨P, 1, none⟩) (Nat.le_of_lt hww) (.int .i64 x1)).setCell (p := ⟨P, 2, none⟩) (Nat.le_of_lt hww) (.int .i64 x2)).setCell (p := ⟨P, 3, none⟩) (Nat.le_of_lt hww) (.int .i64 x3)).setCell (p := ⟨P, 4, none⟩) (Nat.le_of_lt hww) (.int .i64 (x4 - 1000))).setCell (p := ⟨P, 5, none⟩) (Nat.le_of_lt hww) (.int .i64 x5)).setCell (p := ⟨P, 6, none⟩) (Nat.le_of_lt hww) (.bool (x6 == 1))).setCell (p := ⟨P, 7, none⟩) (Nat.le_of_lt hww) (.string nm)).setCell (p := ⟨P, 8, none⟩) (Nat.le_of_lt hww) (.string dt))
  have RS6 := hide ((((((((((unhide RS5).far ⟨P, 0, none⟩ (.int .i64 x0) (Nat.ne_of_gt hww)).far ⟨P, 1, none⟩ (.int .i64 x1) (Nat.ne_of_gt hww)).far ⟨P, 2, none⟩ (.int .i64 x2) (Nat.ne_of_gt hww)).far ⟨P, 3, none⟩ (.int .i64 x3) (Nat.ne_of_gt hww)).far ⟨P, 4, none⟩ (.int .i64 (x4 - 1000)) (Nat.ne_of_gt hww)).far ⟨P, 5, none⟩ (.int .i64 x5) (Nat.ne_of_gt hww)).far ⟨P, 6, none⟩ (.bool (x6 == 1)) (Nat.ne_of_gt hww)).far ⟨P, 7, none⟩ (.string nm) (Nat.ne_of_gt hww)).far ⟨P, 8, none⟩ (.string dt) (Nat.ne_of_gt hww))
  have k6 : (((((((((w5.setCell ⟨P, 0, none⟩ (.int .i64 x0)).setCell ⟨P, 1, none⟩ (.int .i64 x1)).setCell ⟨P, 2, none⟩ (.int .i64 x2)).setCell ⟨P, 3, none⟩ (.int .i64 x3)).setCell ⟨P, 4, none⟩ (.int .i64 (x4 - 1000))).setCell ⟨P, 5, none⟩ (.int .i64 x5)).setCell ⟨P, 6, none⟩ (.bool (x6 == 1))).setCell ⟨P, 7, none⟩ (.string nm)).setCell ⟨P, 8, none⟩ (.string dt)).cell? ⟨gn, 0, none⟩ = some (.int .i64 x0) ∧ (((((((((w5.setCell ⟨P, 0, none⟩ (.int .i64 x0)).setCell ⟨P, 1, none⟩ (.int .i64 x1)).setCell ⟨P, 2, none⟩ (.int .i64 x2)).setCell ⟨P, 3, none⟩ (.int .i64 x3)).setCell ⟨P, 4, none⟩ (.int .i64 (x4 - 1000))).setCell ⟨P, 5, none⟩ (.int .i64 x5)).setCell ⟨P, 6, none⟩ (.bool (x6 == 1))).setCell ⟨P, 7, none⟩ (.string nm)).setCell ⟨P, 8, none⟩ (.string dt)).cell? ⟨gn, 1, none⟩ = some (.int .i64 x1) ∧ (((((((((w5.setCell ⟨P, 0, none⟩ (.int .i64 x0)).setCell ⟨P, 1, none⟩ (.int .i64 x1)).setCell ⟨P, 2, none⟩ (.int .i64 x2)).setCell ⟨P, 3, none⟩ (.int .i64 x3)).setCell ⟨P, 4, none⟩ (.int .i64 (x4 - 1000))).setCell ⟨P, 5, none⟩ (.int .i64 x5)).setCell ⟨P, 6, none⟩ (.bool (x6 == 1))).setCell ⟨P, 7, none⟩ (.string nm)).setCell ⟨P, 8, none⟩ (.string dt)).cell? ⟨gn, 2, none⟩ = some (.int .i64 x2) ∧ (((((((((w5.setCell ⟨P, 0, none⟩ (.int .i64 x0)).setCell ⟨P, 1, none⟩ (.int .i64 x1)).setCell ⟨P, 2, none⟩ (.int .i64 x2)).setCell ⟨P, 3, none⟩ (.int .i64 x3)).setCell ⟨P, 4, none⟩ (.int .i64 (x4 - 1000))).setCell ⟨P, 5, none⟩ (.int .i64 x5)).setCell ⟨P, 6, none⟩ (.bool (x6 == 1))).setCell ⟨P, 7, none⟩ (.string nm)).setCell ⟨P, 8, none⟩ (.string dt)).cell? ⟨gn, 3, none⟩ = some (.int .i64 x3) ∧ (((((((((w5.setCell ⟨P, 0, none⟩ (.int .i64 x0)).setCell ⟨P, 1, none⟩ (.int .i64 x1)).setCell ⟨P, 2, none⟩ (.int .i64 x2)).setCell ⟨P, 3, none⟩ (.int .i64 x3)).setCell ⟨P, 4, none⟩ (.int .i64 (x4 - 1000))).setCell ⟨P, 5, none⟩ (.int .i64 x5)).setCell ⟨P, 6, none⟩ (.bool (x6 == 1))).setCell ⟨P, 7, none⟩ (.string nm)).setCell ⟨P, 8, none⟩ (.string dt)).cell? ⟨gn, 4, none⟩ = some (.int .i64 x4) ∧ (((((((((w5.setCell ⟨P, 0, none⟩ (.int .i64 x0)).setCell ⟨P, 1, none⟩ (.int .i64 x1)).setCell ⟨P, 2, none⟩ (.int .i64 x2)).setCell ⟨P, 3, none⟩ (.int .i64 x3)).setCell ⟨P, 4, none⟩ (.int .i64 (x4 - 1000))).setCell ⟨P, 5, none⟩ (.int .i64 x5)).setCell ⟨P, 6, none⟩ (.bool (x6 == 1))).setCell ⟨P, 7, none⟩ (.string nm)).setCell ⟨P, 8, none⟩ (.string dt)).cell? ⟨gn, 5, none⟩ = some (.int .i64 x5) ∧ (((((((((w5.setCell ⟨P, 0, none⟩ (.int .i64 x0)).setCell ⟨P, 1, none⟩ (.int .i64 x1)).setCell ⟨P, 2, none⟩ (.int .i64 x2)).setCell ⟨P, 3, none⟩ (.int .i64 x3)).setCell ⟨P, 4, none⟩ (.int .i64 (x4 - 1000))).setCell ⟨P, 5, none⟩ (.int .i64 x5)).setCell ⟨P, 6, none⟩ (.bool (x6 == 1))).setCell ⟨P, 7, none⟩ (.string nm)).setCell ⟨P, 8, none⟩ (.string dt)).cell? ⟨gn, 6, none⟩ = some (.int .i64 x6) ∧ (((((((((w5.setCell ⟨P, 0, none⟩ (.int .i64 x0)).setCell ⟨P, 1, none⟩ (.int .i64 x1)).setCell ⟨P, 2, none⟩ (.int .i64 x2)).setCell ⟨P, 3, none⟩ (.int .i64 x3)).setCell ⟨P, 4, none⟩ (.int .i64 (x4 - 1000))).setCell ⟨P, 5, none⟩ (.int .i64 x5)).setCell ⟨P, 6, none⟩ (.bool (x6 == 1))).setCell ⟨P, 7, none⟩ (.string nm)).setCell ⟨P, 8, none⟩ (.string dt)).cell? ⟨g1, 1, none⟩ = some (.string nm) ∧ (((((((((w5.setCell ⟨P, 0, none⟩ (.int .i64 x0)).setCell ⟨P, 1, none⟩ (.int .i64 x1)).setCell ⟨P, 2, none⟩ (.int .i64 x2)).setCell ⟨P, 3, none⟩ (.int .i64 x3)).setCell ⟨P, 4, none⟩ (.int .i64 (x4 - 1000))).setCell ⟨P, 5, none⟩ (.int .i64 x5)).setCell ⟨P, 6, none⟩ (.bool (x6 == 1))).setCell ⟨P, 7, none⟩ (.string nm)).setCell ⟨P, 8, none⟩ (.string dt)).cell? ⟨g1, 2, none⟩ = some (.string dt) := k_far hnn hnf k5
  go_simp
  clear f5 f6
  refine hK.out _ _ ?_ (fun hHeld31 => ?_)
  · exact k6
  clear hK K
  try simp only [Act.put, List.setIfInBounds_toArray, List.set_cons_zero, List.set_cons_succ]
  refine wpAnyH_done (by kernel_rfl) ?_ _
  generalize (((((((((w5.setCell ⟨P, 0, none⟩ (.int .i64 x0)).setCell ⟨P, 1, none⟩ (.int .i64 x1)).setCell ⟨P, 2, none⟩ (.int .i64 x2)).setCell ⟨P, 3, none⟩ (.int .i64 x3)).setCell ⟨P, 4, none⟩ (.int .i64 (x4 - 1000))).setCell ⟨P, 5, none⟩ (.int .i64 x5)).setCell ⟨P, 6, none⟩ (.bool (x6 == 1))).setCell ⟨P, 7, none⟩ (.string nm)).setCell ⟨P, 8, none⟩ (.string dt)) = w6 at A6 HB6 RS6 k6 hHeld31 ⊢
  clear k3 k4 k5 k6 hHeld hHeld30 hHeld31 A5 RS5 HB5 RS4 HB4 hgn hgf hgn4 hgf4 hnn hnf
  have a6 := (unhide A6).S
  go_wp2_with fail
  refine wp_region_held_drew (S := fun w' => ∀ o, w'.cell? ⟨P, o, none⟩ = (#[.int .i64 x0, .int .i64 x1, .int .i64 x2, .int .i64 x3, .int .i64 (x4 - 1000), .int .i64 x5, .bool (x6 == 1), .string nm, .string dt] : Array Value)[o]?) (by kernel_rfl) a6 (fun hHeldA => ?_)
  refine wpAnyH_take (i := 0) (oi := { dst := some 74, op := .load 24 (.tmp 8), type := 24, pos := "l06_mux.go:62", after := #[], guard := none }) (v := ?_) rfl (by kernel_rfl) (by kernel_rfl) (by kernel_rfl) (fun _ _ _ h => h) (Or.inl ⟨by rfl, ?_⟩) (by assumption) ?_
  rotate_left 1
  · (intro w' hSw; (try dsimp only at hSw); go_simp; try with_reducible rfl)
  try simp only [Act.put, List.setIfInBounds_toArray, List.set_cons_zero, List.set_cons_succ]
  refine wpAnyH_take (i := 1) (oi := { dst := some 75, op := .load 24 (.tmp 8), type := 24, pos := "l06_mux.go:62", after := #[], guard := none }) (v := ?_) rfl (by kernel_rfl) (by kernel_rfl) (by kernel_rfl) (fun _ _ _ h => h) (Or.inl ⟨by rfl, ?_⟩) (by assumption) ?_
  rotate_left 1
  · (intro w' hSw; (try dsimp only at hSw); go_simp; try with_reducible rfl)
  try simp only [Act.put, List.setIfInBounds_toArray, List.set_cons_zero, List.set_cons_succ]
  have A7 := hide (unhide A6).drew
  have HB7 := hide (unhide HB6).drew
  have RS7 := hide (unhide RS6).drew
  generalize w6.drew = w7 at A7 HB7 RS7 hHeldA ⊢
  refine wpAnyH_ready (rs := [2]) (by kernel_rfl) (by simp) ?_
  refine AllReadyH.cons (o := { dst := some 76, op := .call { callee := .value (.func 16), args := #[.tmp 75], argTypes := #[24] }, type := 4, pos := "l06_mux.go:62", after := #[{ on := 1, ground := .data }], guard := none }) rfl (fun K hK => ?_) AllReadyH.nil
  go_simp
  refine (scmd x0 x1 x2 x3 (x4 - 1000) x5 (x6 == 1) nm dt HNM HDT R HRR _).mono ?_
  rintro e w8 ⟨rfl, hb8⟩
  have A8 := hide ((unhide A7).below hb8)
  have RS8 := hide ((unhide RS7).below hb8)
  have HB8 := hide ((unhide HB7).trans (hb8.mono (unhide HB7).size))
  clear hb8
  go_wp2_with fail
  refine hK.out _ _ ?_ (fun hHeld2 => ?_)
  · exact (unhide A8).S
  clear hK K
  try simp only [Act.put, List.setIfInBounds_toArray, List.set_cons_zero, List.set_cons_succ]
  refine wpAnyH_ready (rs := [3]) (by kernel_rfl) (by simp) ?_
  refine AllReadyH.cons (o := { dst := none, op := .store 24 (.tmp 2) (.tmp 74), type := 0, pos := "l06_mux.go:62", after := #[{ on := 0, ground := .data }, { on := 2, ground := .chain }, { on := 0, ground := .phase }, { on := 1, ground := .textOnly Go.Departure.lateStores }, { on := 2, ground := .textOnly Go.Departure.lateStoresUnsure }], guard := none }) rfl (fun K hK => ?_) AllReadyH.nil
  have f5 := (unhide RS8).S
  have f6 := (unhide RS8).F
  have G9 := hide (put9 (unhide RS8) (.int .i64 x0) (.int .i64 x1) (.int .i64 x2) (.int .i64 x3) (.int .i64 (x4 - 1000)) (.int .i64 x5) (.bool (x6 == 1)) (.string nm) (.string dt))
  have HB9 := hide ((((((((((unhide HB8).setCell (p := ⟨w.heap.size, 0, none⟩) (Nat.le_refl _) (.int .i64 x0)).setCell (p := ⟨w.heap.size, 1, none⟩) (Nat.le_refl _) (.int .i64 x1)).setCell (p := ⟨w.heap.size, 2, none⟩) (Nat.le_refl _) (.int .i64 x2)).setCell (p := ⟨w.heap.size, 3, none⟩) (Nat.le_refl _) (.int .i64 x3)).setCell (p := ⟨w.heap.size, 4, none⟩) (Nat.le_refl _) (.int .i64 (x4 - 1000))).setCell (p := ⟨w.heap.size, 5, none⟩) (Nat.le_refl _) (.int .i64 x5)).setCell (p := ⟨w.heap.size, 6, none⟩) (Nat.le_refl _) (.bool (x6 == 1))).setCell (p := ⟨w.heap.size, 7, none⟩) (Nat.le_refl _) (.string nm)).setCell (p := ⟨w.heap.size, 8, none⟩) (Nat.le_refl _) (.string dt))
  have A9 := hide ((((((((((unhide A8).far ⟨w.heap.size, 0, none⟩ (.int .i64 x0) (Nat.ne_of_lt hww)).far ⟨w.heap.size, 1, none⟩ (.int .i64 x1) (Nat.ne_of_lt hww)).far ⟨w.heap.size, 2, none⟩ (.int .i64 x2) (Nat.ne_of_lt hww)).far ⟨w.heap.size, 3, none⟩ (.int .i64 x3) (Nat.ne_of_lt hww)).far ⟨w.heap.size, 4, none⟩ (.int .i64 (x4 - 1000)) (Nat.ne_of_lt hww)).far ⟨w.heap.size, 5, none⟩ (.int .i64 x5) (Nat.ne_of_lt hww)).far ⟨w.heap.size, 6, none⟩ (.bool (x6 == 1)) (Nat.ne_of_lt hww)).far ⟨w.heap.size, 7, none⟩ (.string nm) (Nat.ne_of_lt hww)).far ⟨w.heap.size, 8, none⟩ (.string dt) (Nat.ne_of_lt hww))
  go_simp
  clear f5 f6
  refine hK.out _ _ ?_ (fun hHeld3 => ?_)
  · exact (unhide A9).S
  clear hK K
  try simp only [Act.put, List.setIfInBounds_toArray, List.set_cons_zero, List.set_cons_succ]
  refine wpAnyH_take (i := 4) (oi := { dst := some 3, op := .assign (.tmp 76), type := 4, pos := "l06_mux.go:62", after := #[{ on := 2, ground := .data }, { on := 3, ground := .chain }, { on := 0, ground := .phase }, { on := 1, ground := .phase }, { on := 2, ground := .phase }, { on := 3, ground := .phase }], guard := none }) (v := ?_) rfl (by kernel_rfl) (by kernel_rfl) (by kernel_rfl) (fun _ _ _ h => h) (Or.inl ⟨by rfl, ?_⟩) (by assumption) ?_
  rotate_left 1
  · (intro w' hSw; (try dsimp only at hSw); go_simp; try with_reducible rfl)
  try simp only [Act.put, List.setIfInBounds_toArray, List.set_cons_zero, List.set_cons_succ]
  refine wpAnyH_done (by kernel_rfl) ?_ _
  generalize (((((((((w8.setCell ⟨w.heap.size, 0, none⟩ (.int .i64 x0)).setCell ⟨w.heap.size, 1, none⟩ (.int .i64 x1)).setCell ⟨w.heap.size, 2, none⟩ (.int .i64 x2)).setCell ⟨w.heap.size, 3, none⟩ (.int .i64 x3)).setCell ⟨w.heap.size, 4, none⟩ (.int .i64 (x4 - 1000))).setCell ⟨w.heap.size, 5, none⟩ (.int .i64 x5)).setCell ⟨w.heap.size, 6, none⟩ (.bool (x6 == 1))).setCell ⟨w.heap.size, 7, none⟩ (.string nm)).setCell ⟨w.heap.size, 8, none⟩ (.string dt)) = wz at G9 HB9 A9 ⊢
  have z := (unhide G9).S
  go_wp2_with fail
  refine bodyPost_ret (v := .tuple #[.agg #[.int .i64 x0, .int .i64 x1, .int .i64 x2, .int .i64 x3, .int .i64 (x4 - 1000), .int .i64 x5, .bool (x6 == 1), .string nm, .string dt], .bool R]) (by simp [results, Tryd.results24, go_sem, z]) rfl ⟨rfl, unhide HB9⟩
theorem sl06 (s : ByteArray) (hs : s.size ≤ 65536) (w : World) : Calls Tryd.prog 24 #[.string s] w fun e w' => ∃ (R : Bool) (k cl sq p n ep : Int) (r : Bool) (nm dt : ByteArray), e = .returned (.tuple #[.agg #[.int .i64 k, .int .i64 cl, .int .i64 sq, .int .i64 p, .int .i64 n, .int .i64 ep, .bool r, .string nm, .string dt], .bool R]) ∧ ((R = true ∧ rcOf s.data.toList = some ⟨k, cl, sq, p, n, ep, r, nm, dt⟩) ∨ (R = false ∧ rcOf s.data.toList = none)) ∧ Below w.heap.size w w' := by
  have hlen := text_len s
  have hlong : ¬ 65536 < s.data.toList.length := by omega
  cases hrf : rfOf s.data.toList with
  | none =>
    have T1 : Hid (∀ w1, Calls Tryd.prog 50 #[.string s] w1 fun e w' => ∃ v', e = .returned (.tuple #[v', .bool false]) ∧ w'.ownsRow w1.heap.size 9 1 v' 0 (cS []) ∧ Below w1.heap.size w1 w') := fun w1 => (sread s hs w1).mono (by
      rintro e w' ⟨⟨m, v, c, rfl, ho, h | ⟨rfl, rfl, -⟩⟩, hb⟩
      · rw [hrf] at h; exact absurd h.2 (by simp)
      · exact ⟨v, rfl, ho, hb⟩)
    have hrc : rcOf s.data.toList = none := by unfold rcOf; rw [hrf]
    refine (src_none s w T1).mono ?_
    rintro e w' ⟨rfl, hb⟩
    exact ⟨false, _, _, _, _, _, _, _, _, _, rfl, .inr ⟨rfl, hrc⟩, hb⟩
  | some m =>
    have hsz := rf_sizes hlong hrf
    have T1 : Hid (∀ w1, Calls Tryd.prog 50 #[.string s] w1 fun e w' => ∃ v', e = .returned (.tuple #[v', .bool true]) ∧ w'.ownsRow w1.heap.size 9 1 v' m.length (cS m) ∧ Below w1.heap.size w1 w') := fun w1 => (sread s hs w1).mono (by
      rintro e w' ⟨⟨m2, v, c, rfl, ho, ⟨rfl, h⟩ | ⟨-, -, h⟩⟩, hb⟩
      · rw [hrf] at h; injection h with h; subst h; exact ⟨v, rfl, ho, hb⟩
      · rw [hrf] at h; exact absurd h (by simp))
    by_cases h3 : m.length = 3
    · obtain ⟨f0, nm', dt', rfl⟩ : ∃ f0 nm' dt', m = [f0, nm', dt'] := by
        match m, h3 with
        | [f0, nm', dt'], _ => exact ⟨f0, nm', dt', rfl⟩
      have hs0 : f0.size ≤ 20000 := hsz 0 (by simp)
      by_cases hm3 : f0.size % 3 = 0
      · obtain ⟨q, hq⟩ : ∃ q, f0.size = 3 * q := ⟨f0.size / 3, by omega⟩
        by_cases h7 : q = 7
        · subst h7
          obtain ⟨x0, x1, x2, x3, x4, x5, x6, ex⟩ := seven (numsR_len f0.data.toList 7)
          have ec : cm3 f0 nm' dt' = ⟨x0, x1, x2, x3, x4 - 1000, x5, x6 == 1, nm', dt'⟩ := by unfold cm3; rw [ex]
          have eb : bit3 f0 = inB x6 0 1 := by unfold bit3; rw [ex]
          cases hbit : inB x6 0 1 with
          | false =>
            have hrc : rcOf s.data.toList = none := by unfold rcOf; rw [hrf]; simp only; rw [if_neg (fun h => by have := h.2.1; rw [eb, hbit] at this; cases this)]
            refine (src_bit s f0 nm' dt' hq x0 x1 x2 x3 x4 x5 x6 ex hbit w T1).mono ?_
            rintro e w' ⟨rfl, hb⟩
            exact ⟨false, _, _, _, _, _, _, _, _, _, rfl, .inr ⟨rfl, hrc⟩, hb⟩
          | true =>
            refine (src_ok s f0 nm' dt' hq x0 x1 x2 x3 x4 x5 x6 ex hbit (Nat.le_trans (hsz 1 (by simp)) (by decide)) (Nat.le_trans (hsz 2 (by simp)) (by decide)) _ rfl w T1).mono ?_
            rintro e w' ⟨rfl, hb⟩
            refine ⟨_, _, _, _, _, _, _, _, _, _, rfl, ?_, hb⟩
            cases hok : cmdB x0 x1 x2 x3 (x4 - 1000) x5 (x6 == 1) nm' dt' with
            | false => exact .inr ⟨rfl, by unfold rcOf; rw [hrf]; simp only; rw [if_neg (fun h => by have := h.2.2; rw [ec] at this; exact absurd (hok.symm.trans this) (by decide))]⟩
            | true => exact .inl ⟨rfl, by unfold rcOf; rw [hrf]; simp only; rw [if_pos ⟨by omega, by rw [eb, hbit], by rw [ec]; exact hok⟩, ec]⟩
        · have hrc : rcOf s.data.toList = none := by unfold rcOf; rw [hrf]; simp only; rw [if_neg (fun h => by omega)]
          refine (src_cnt s f0 nm' dt' q hq (by omega) h7 w T1).mono ?_
          rintro e w' ⟨rfl, hb⟩
          exact ⟨false, _, _, _, _, _, _, _, _, _, rfl, .inr ⟨rfl, hrc⟩, hb⟩
      · have hrc : rcOf s.data.toList = none := by unfold rcOf; rw [hrf]; simp only; rw [if_neg (fun h => by omega)]
        refine (src_form s f0 nm' dt' hs0 hm3 w T1).mono ?_
        rintro e w' ⟨rfl, hb⟩
        exact ⟨false, _, _, _, _, _, _, _, _, _, rfl, .inr ⟨rfl, hrc⟩, hb⟩
    · have hrc : rcOf s.data.toList = none := by
        unfold rcOf
        rw [hrf]
        split
        · rename_i e; injection e with e; rw [e] at h3; exact absurd rfl h3
        · rfl
      refine (src_len s m m.length (by rw [bne_iff_ne]; omega) w T1).mono ?_
      rintro e w' ⟨rfl, hb⟩
      exact ⟨false, _, _, _, _, _, _, _, _, _, rfl, .inr ⟨rfl, hrc⟩, hb⟩
set_option maxHeartbeats 1000000 in
set_option maxRecDepth 100000 in
theorem sreadcmd (a : Option Addr) (cap : Nat) (l : List UInt8) (k cl sq p n ep : Int) (r : Bool) (nm dt : ByteArray) (hv : rcV l = ⟨k, cl, sq, p, n, ep, r, nm, dt⟩) (c : Int) (hc : c = rcC l) (w : World) (hr : RowV w a (B8 l)) :
    Calls Tryd.prog 10 #[.slice a l.length cap] w fun e w' => e = .returned (.tuple #[.agg #[.int .i64 k, .int .i64 cl, .int .i64 sq, .int .i64 p, .int .i64 n, .int .i64 ep, .bool r, .string nm, .string dt], .int .i64 c]) ∧ Below w.heap.size w w' := by
  have HB := hide (Go.Joins.below_alloc1 w (Obj.cells #[.int .i64 0, .int .i64 0, .int .i64 0, .int .i64 0, .int .i64 0, .int .i64 0, .bool false, .string ⟨#[]⟩, .string ⟨#[]⟩] 24))
  have RS := hide (BF.new w #[.int .i64 0, .int .i64 0, .int .i64 0, .int .i64 0, .int .i64 0, .int .i64 0, .bool false, .string ⟨#[]⟩, .string ⟨#[]⟩] 24)
  have hcv := conv_row8 (cap := cap) (P := Tryd.prog) Tryd.underlying22 Tryd.underlying5 Tryd.underlying9 (rowV_8 (hr.below (unhide HB)))
  obtain ⟨len, hlen⟩ : ∃ len, l.length = len := ⟨_, rfl⟩
  rw [hlen] at hcv ⊢
  obtain ⟨s, hs⟩ : ∃ s : ByteArray, s = ⟨l.toArray⟩ := ⟨_, rfl⟩
  rw [← hs] at hcv
  have hsl : s.data.toList = l := by rw [hs]
  have hsz : s.size = len := by rw [← text_len, hsl]; exact hlen
  unfold rcV at hv
  unfold rcC at hc
  rw [hlen] at hv hc
  by_cases hlong : 65536 < len
  · rw [if_pos hlong] at hv hc
    obtain ⟨rfl, rfl, rfl, rfl, rfl, rfl, rfl, rfl, rfl⟩ := cm_zero hv
    have hl2 : (65536 : Int) < (len : Int) := by omega
    clear hr hcv hlen hsl hsz hs hv hlong
    subst hc
    go_enter Tryd.func10, Tryd.ntmps10
    go_wp2_with fail
    refine bodyPost_ret (v := .tuple #[.agg #[.int .i64 0, .int .i64 0, .int .i64 0, .int .i64 0, .int .i64 0, .int .i64 0, .bool false, .string ⟨#[]⟩, .string ⟨#[]⟩], .int .i64 2]) (by simp [results, Tryd.results10, go_sem]) rfl ⟨rfl, ?_⟩
    exact Go.Joins.below_alloc1 w _
  · rw [if_neg hlong] at hv hc
    have T1 := hide (fun w => sl06 s (by omega) w)
    rw [hsl] at T1
    have hl2 : ¬ (65536 : Int) < (len : Int) := by omega
    have HV := hide hv
    have HC := hide hc
    clear hr hlen hsl hsz hs hv hlong hc
    go_enter Tryd.func10, Tryd.ntmps10
    go_wp2_with fail
    refine (unhide T1 _).mono ?_
    rintro e w3 ⟨R, k', cl', sq', p', n', ep', r', nm', dt', rfl, hR, hb3⟩
    have RS3 := hide (((unhide RS).below hb3).alloc (Obj.cells #[.int .i64 k', .int .i64 cl', .int .i64 sq', .int .i64 p', .int .i64 n', .int .i64 ep', .bool r', .string nm', .string dt'] 24))
    have A3 := hide (BF.new w3 #[.int .i64 k', .int .i64 cl', .int .i64 sq', .int .i64 p', .int .i64 n', .int .i64 ep', .bool r', .string nm', .string dt'] 24)
    have HB3 := hide (((unhide HB).trans (hb3.mono (unhide HB).size)).alloc (Nat.le_trans (unhide HB).size hb3.size) (Obj.cells #[.int .i64 k', .int .i64 cl', .int .i64 sq', .int .i64 p', .int .i64 n', .int .i64 ep', .bool r', .string nm', .string dt'] 24))
    have hne : ¬ w3.heap.size = w.heap.size := by have := (unhide RS).lt; have := hb3.size; omega
    have z := (unhide RS3).S
    have zf := (unhide RS3).F
    have qa := (unhide A3).S
    clear hb3 HB RS hcv T1
    rcases hR with ⟨rfl, hrc⟩ | ⟨rfl, hrc⟩
    · have hv := unhide HV
      have hc := unhide HC
      rw [hrc] at hv hc
      have hc0 : c = 0 := hc
      replace hv : (⟨k', cl', sq', p', n', ep', r', nm', dt'⟩ : Cm) = ⟨k, cl, sq, p, n, ep, r, nm, dt⟩ := hv
      injection hv with v0 v1 v2 v3 v4 v5 v6 v7 v8
      clear hc hrc HV HC
      subst v0 v1 v2 v3 v4 v5 v6 v7 v8 hc0
      go_wp2_with fail
      refine bodyPost_ret (v := .tuple #[.agg #[.int .i64 k', .int .i64 cl', .int .i64 sq', .int .i64 p', .int .i64 n', .int .i64 ep', .bool r', .string nm', .string dt'], .int .i64 0]) (by simp [results, Tryd.results10, go_sem, z]) rfl ⟨rfl, ?_⟩
      iterate 9 refine Below.setCell ?_ (by exact Nat.le_refl _) _
      exact unhide HB3
    · have hv := unhide HV
      have hc := unhide HC
      rw [hrc] at hv hc
      have hc0 : c = 3 := hc
      replace hv : Cm.zero = ⟨k, cl, sq, p, n, ep, r, nm, dt⟩ := hv
      obtain ⟨rfl, rfl, rfl, rfl, rfl, rfl, rfl, rfl, rfl⟩ := cm_zero hv
      clear hc hrc HV HC hv
      subst hc0
      go_wp2_with fail
      refine bodyPost_ret (v := .tuple #[.agg #[.int .i64 0, .int .i64 0, .int .i64 0, .int .i64 0, .int .i64 0, .int .i64 0, .bool false, .string ⟨#[]⟩, .string ⟨#[]⟩], .int .i64 3]) (by simp [results, Tryd.results10, go_sem, z]) rfl ⟨rfl, ?_⟩
      iterate 9 refine Below.setCell ?_ (by exact Nat.le_refl _) _
      exact unhide HB3
end Go.Proofs.YtoplijjddhecgaaDoor
