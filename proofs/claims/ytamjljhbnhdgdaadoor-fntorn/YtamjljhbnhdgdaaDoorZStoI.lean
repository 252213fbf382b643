/- Stores: what the program answers. -/
import Derived.Test.YtamjljhbnhdgdaaDoorZG2
import Derived.Test.YtamjljhbnhdgdaaDoorZG10
import Derived.Test.YtamjljhbnhdgdaaDoorZG7
import Derived.Lib.SmallJoins
namespace Go.Proofs.YtamjljhbnhdgdaaDoor
open Go.ChangeShapes Go.WideShapes Go.ChangeAt Go.RowKit
set_option linter.unusedVariables false
set_option maxHeartbeats 1000000 in
set_option maxRecDepth 100000 in
theorem istoreok (d : ByteArray) (s : Int) (hd : Hid (d.size ≤ maxLen)) (R : Bool) (HR : Hid (R = stoB d s)) (w : World) : Calls Tryd.prog 11 #[.agg #[.string d, .int .i64 s]] w fun e w' => e = .returned (.bool R) ∧ Below w.heap.size w w' := by
 have HB := hide (Go.Joins.below_alloc1 w (.cells #[.string d, .int .i64 s] 31))
 have h1 := unhide hd
 unfold maxLen at h1
 obtain ⟨a, ha⟩ : ∃ a : Nat, a = d.size := ⟨_, rfl⟩
 have HA := hide ha
 rw [← ha] at h1
 have la : (d.size : Int) = (a : Int) := by rw [ha]
 clear ha
 by_cases c1 : a ≤ 60000
 ·have HS : Hid (R = inB s 0 (a : Int)) := by
   show R = _
   rw [unhide HR, stoB, ← unhide HA, decide_eq_true c1, Bool.true_and]
  go_enter Tryd.func11, Tryd.ntmps11
  go_wp2_with fail
  refine (iwi s 0 (a : Int) R HS _).mono ?_
  rintro e w1 ⟨rfl, rfl⟩
  go_wp2_with fail
  go_ret
  exact ⟨rfl, unhide HB⟩
 ·have HS : R = false := by rw [unhide HR, stoB, ← unhide HA, decide_eq_false c1, Bool.false_and]
  subst HS
  go_enter Tryd.func11, Tryd.ntmps11
  go_wp2_with fail
  go_ret
  exact ⟨rfl, unhide HB⟩
set_option maxHeartbeats 1000000 in
set_option maxRecDepth 100000 in
theorem isure (d : ByteArray) (a : Nat) (ha : Hid (d.size = a)) (hd : a ≤ 60000) (w : World) : Calls Tryd.prog 21 #[.string d] w fun e w' => e = .returned (.agg #[.string d, .int .i64 (a : Int)]) ∧ Below w.heap.size w w' := by
 have la : (d.size : Int) = (a : Int) := by rw [unhide ha]
 go_enter Tryd.func21, Tryd.ntmps21
 go_wp2_with fail
 refine bodyPost_ret (v := .agg #[.string d, .int .i64 (a : Int)]) (by simp [results, Tryd.results21, go_sem]) rfl ⟨rfl, ?_⟩
 first | exact Go.Joins.below_alloc2 w _ _ | exact Go.Joins.below_alloc1 w _
set_option maxHeartbeats 2000000 in
set_option maxRecDepth 100000 in
theorem isync (d : ByteArray) (s : Int) (hd : Hid (d.size ≤ maxLen)) (d2 : ByteArray) (s2 c : Int) (H : Hid (SyncIs d s d2 s2 c)) (w : World) : Calls Tryd.prog 7 #[.agg #[.string d, .int .i64 s]] w fun e w' => e = .returned (.tuple #[.agg #[.string d2, .int .i64 s2], .int .i64 c]) ∧ Below w.heap.size w w' := by
 have B0 := hide (Go.Joins.below_alloc2 w (.cells #[.string d, .int .i64 s] 31) (.cells #[.string ⟨#[]⟩, .int .i64 0] 31))
 have A0 := hide ((BF.new w #[.string d, .int .i64 s] 31).alloc (.cells #[.string ⟨#[]⟩, .int .i64 0] 31))
 have Z0 := hide (BF.new (w.alloc (.cells #[.string d, .int .i64 s] 31)) #[.string ⟨#[]⟩, .int .i64 0] 31)
 rw [show (w.alloc (.cells #[.string d, .int .i64 s] 31)).heap.size = w.heap.size + 1 from by simp] at Z0
 rcases unhide H with ⟨hok, h2, h3, rfl⟩ | ⟨hok, rfl, rfl, rfl⟩
 ·have HOK := hide hok.symm
  have a0 := (unhide A0).S
  obtain ⟨p1, p2, p3⟩ := sto_parts hok
  obtain ⟨a, ha⟩ : ∃ a : Nat, a = d.size := ⟨_, rfl⟩
  have HA := hide ha
  rw [← ha] at p1 p3 h3
  try rw [← ha] at h2
  have la : (d.size : Int) = (a : Int) := by rw [ha]
  have H2 := hide h2
  have H3 := hide h3
  clear ha h2 h3 H hok
  go_enter Tryd.func7, Tryd.ntmps7
  go_wp2_with fail
  refine (istoreok d s hd true HOK _).mono ?_
  rintro e w1 ⟨rfl, hb1⟩
  have B1 := hide ((unhide B0).trans (hb1.mono (unhide B0).size))
  have A1 := hide ((unhide A0).below hb1)
  have Z1 := hide ((unhide Z0).below hb1)
  clear hb1 A0 B0 a0 Z0
  have a1 := (unhide A1).S
  have z1 := (unhide Z1).S
  have f1 := (unhide Z1).F
  go_wp2_with fail
  refine (isure d a (unhide HA).symm p1 _).mono ?_
  rintro e w2 ⟨rfl, hb2⟩
  have B2 := hide ((unhide B1).trans (hb2.mono (unhide B1).size))
  have Z2 := hide ((unhide Z1).below hb2)
  clear hb2 A1 B1 a1 Z1 z1 f1
  have z2 := (unhide Z2).S
  have f2 := (unhide Z2).F
  go_wp2_with fail
  refine bodyPost_ret (v := .tuple #[.agg #[.string d, .int .i64 (a : Int)], .int .i64 0]) (by simp [results, Tryd.results7, go_sem, z2]) rfl ⟨by rw [unhide H2, unhide H3], ?_⟩
  repeat refine Below.setCell ?_ (by exact Nat.le_succ _) _
  exact unhide B2
 ·have HOK := hide hok.symm
  have a0 := (unhide A0).S
  clear H hok
  go_enter Tryd.func7, Tryd.ntmps7
  go_wp2_with fail
  refine (istoreok d s hd false HOK _).mono ?_
  rintro e w1 ⟨rfl, hb1⟩
  have B1 := hide ((unhide B0).trans (hb1.mono (unhide B0).size))
  have A1 := hide ((unhide A0).below hb1)
  have Z1 := hide ((unhide Z0).below hb1)
  clear hb1 A0 B0 a0 Z0
  have a1 := (unhide A1).S
  have z1 := (unhide Z1).S
  have f1 := (unhide Z1).F
  go_wp2_with fail
  refine bodyPost_ret (v := .tuple #[.agg #[.string ⟨#[]⟩, .int .i64 0], .int .i64 1]) (by simp [results, Tryd.results7, go_sem, z1]) rfl ⟨rfl, ?_⟩
  repeat refine Below.setCell ?_ (by exact Nat.le_succ _) _
  exact unhide B1
attribute [local go_sem ↓] run_mn run_mx
set_option maxHeartbeats 2000000 in
set_option maxRecDepth 100000 in
theorem icrash (d : ByteArray) (s : Int) (k : Int) (hd : Hid (d.size ≤ maxLen)) (d2 : ByteArray) (s2 c : Int) (H : Hid (CrashIs d s k d2 s2 c)) (w : World) : Calls Tryd.prog 8 #[.agg #[.string d, .int .i64 s], .int .i64 k] w fun e w' => e = .returned (.tuple #[.agg #[.string d2, .int .i64 s2], .int .i64 c]) ∧ Below w.heap.size w w' := by
 have B0 := hide (Go.Joins.below_alloc2 w (.cells #[.string d, .int .i64 s] 31) (.cells #[.string ⟨#[]⟩, .int .i64 0] 31))
 have A0 := hide ((BF.new w #[.string d, .int .i64 s] 31).alloc (.cells #[.string ⟨#[]⟩, .int .i64 0] 31))
 have Z0 := hide (BF.new (w.alloc (.cells #[.string d, .int .i64 s] 31)) #[.string ⟨#[]⟩, .int .i64 0] 31)
 rw [show (w.alloc (.cells #[.string d, .int .i64 s] 31)).heap.size = w.heap.size + 1 from by simp] at Z0
 rcases unhide H with ⟨hok, h2, h3, rfl⟩ | ⟨hok, rfl, rfl, rfl⟩
 ·have HOK := hide hok.symm
  have a0 := (unhide A0).S
  obtain ⟨p1, p2, p3⟩ := sto_parts hok
  obtain ⟨a, ha⟩ : ∃ a : Nat, a = d.size := ⟨_, rfl⟩
  have HA := hide ha
  rw [← ha] at p1 p3 h3
  try rw [← ha] at h2
  have la : (d.size : Int) = (a : Int) := by rw [ha]
  have H2 := hide h2
  have H3 := hide h3
  clear ha h2 h3 H hok
  go_enter Tryd.func8, Tryd.ntmps8
  go_wp2_with fail
  refine (istoreok d s hd true HOK _).mono ?_
  rintro e w1 ⟨rfl, hb1⟩
  have B1 := hide ((unhide B0).trans (hb1.mono (unhide B0).size))
  have A1 := hide ((unhide A0).below hb1)
  have Z1 := hide ((unhide Z0).below hb1)
  clear hb1 A0 B0 a0 Z0
  have a1 := (unhide A1).S
  have z1 := (unhide Z1).S
  have f1 := (unhide Z1).F
  obtain ⟨M, N, hM, hM2, hN, n0, n1, hs, hk⟩ := kept_spec k p2 p3
  clear hM2
  have hsz : Hid ((d.extract 0 (keptN a s k)).size = keptN a s k) := by show _ = _; rw [ByteArray.size_extract, ← unhide HA]; omega
  go_wp2_with fail
  refine (isure (d.extract 0 (keptN a s k)) (keptN a s k) hsz (by omega) _).mono ?_
  rintro e w2 ⟨rfl, hb2⟩
  have B2 := hide ((unhide B1).trans (hb2.mono (unhide B1).size))
  have Z2 := hide ((unhide Z1).below hb2)
  clear hb2 A1 B1 a1 Z1 z1 f1
  have z2 := (unhide Z2).S
  have f2 := (unhide Z2).F
  go_wp2_with fail
  refine bodyPost_ret (v := .tuple #[.agg #[.string (d.extract 0 (keptN a s k)), .int .i64 (keptN a s k : Int)], .int .i64 0]) (by simp [results, Tryd.results8, go_sem, z2]) rfl ⟨by rw [unhide H2, unhide H3], ?_⟩
  repeat refine Below.setCell ?_ (by exact Nat.le_succ _) _
  exact unhide B2
 ·have HOK := hide hok.symm
  have a0 := (unhide A0).S
  clear H hok
  go_enter Tryd.func8, Tryd.ntmps8
  go_wp2_with fail
  refine (istoreok d s hd false HOK _).mono ?_
  rintro e w1 ⟨rfl, hb1⟩
  have B1 := hide ((unhide B0).trans (hb1.mono (unhide B0).size))
  have A1 := hide ((unhide A0).below hb1)
  have Z1 := hide ((unhide Z0).below hb1)
  clear hb1 A0 B0 a0 Z0
  have a1 := (unhide A1).S
  have z1 := (unhide Z1).S
  have f1 := (unhide Z1).F
  go_wp2_with fail
  refine bodyPost_ret (v := .tuple #[.agg #[.string ⟨#[]⟩, .int .i64 0], .int .i64 1]) (by simp [results, Tryd.results8, go_sem, z1]) rfl ⟨rfl, ?_⟩
  repeat refine Below.setCell ?_ (by exact Nat.le_succ _) _
  exact unhide B1
end Go.Proofs.YtamjljhbnhdgdaaDoor
