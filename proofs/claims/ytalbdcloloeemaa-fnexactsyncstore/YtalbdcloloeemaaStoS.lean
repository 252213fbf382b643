/- Stores: what the specification answers. -/
import Derived.Test.YtalbdcloloeemaaStoM
import Derived.Test.YtalbdcloloeemaaInS
import Derived.Test.YtalbdcloloeemaaBf
import Derived.Lib.SmallJoins
namespace Go.Proofs.Ytalbdcloloeemaa
open Go.ChangeShapes Go.WideShapes Go.ChangeAt Go.RowKit
set_option linter.unusedVariables false
set_option maxHeartbeats 1000000 in
set_option maxRecDepth 100000 in
theorem sstoreok (d : ByteArray) (s : Int) (hd : Hid (d.size ≤ maxLen)) (R : Bool) (HR : Hid (R = stoB d s)) (w : World) : Calls Try.prog 9 #[.agg #[.string d, .int .i64 s]] w fun e w' => e = .returned (.bool R) ∧ Below w.heap.size w w' := by
  have HB := hide (Go.Joins.below_alloc1 w (.cells #[.string d, .int .i64 s] 25))
  have h1 := unhide hd
  unfold maxLen at h1
  obtain ⟨a, ha⟩ : ∃ a : Nat, a = d.size := ⟨_, rfl⟩
  have HA := hide ha
  rw [← ha] at h1
  have la : (d.size : Int) = (a : Int) := by rw [ha]
  clear ha
  by_cases c1 : a ≤ 60000
  · have HS : inB s 0 (a : Int) = R := by
      rw [unhide HR, stoB, ← unhide HA, decide_eq_true c1, Bool.true_and]
    have HS := hide HS
    go_enter Try.func9, Try.ntmps9
    go_wp2_with fail
    refine (sin s 0 (a : Int) _).mono ?_
    rintro e w1 ⟨rfl, rfl⟩
    rw [unhide HS]
    go_wp2_with fail
    go_ret
    exact ⟨rfl, unhide HB⟩
  · have HS : R = false := by rw [unhide HR, stoB, ← unhide HA, decide_eq_false c1, Bool.false_and]
    subst HS
    go_enter Try.func9, Try.ntmps9
    go_wp2_with fail
    go_ret
    exact ⟨rfl, unhide HB⟩
set_option maxHeartbeats 2000000 in
set_option maxRecDepth 100000 in
theorem ssync (d : ByteArray) (s : Int) (hd : Hid (d.size ≤ maxLen)) (d2 : ByteArray) (s2 c : Int) (H : Hid (SyncIs d s d2 s2 c)) (w : World) : Calls Try.prog 5 #[.agg #[.string d, .int .i64 s]] w fun e w' => e = .returned (.tuple #[.agg #[.string d2, .int .i64 s2], .int .i64 c]) ∧ Below w.heap.size w w' := by
  have B0 := hide (Go.Joins.below_alloc2 w (.cells #[.string d, .int .i64 s] 25) (.cells #[.string ⟨#[]⟩, .int .i64 0] 25))
  have A0 := hide ((BF.new w #[.string d, .int .i64 s] 25).alloc (.cells #[.string ⟨#[]⟩, .int .i64 0] 25))
  have Z0 := hide (BF.new (w.alloc (.cells #[.string d, .int .i64 s] 25)) #[.string ⟨#[]⟩, .int .i64 0] 25)
  rw [show (w.alloc (.cells #[.string d, .int .i64 s] 25)).heap.size = w.heap.size + 1 from by simp] at Z0
  rcases unhide H with ⟨hok, h2, h3, rfl⟩ | ⟨hok, rfl, rfl, rfl⟩
  · have HOK := hide hok.symm
    have a0 := (unhide A0).S
    obtain ⟨p1, p2, p3⟩ := sto_parts hok
    obtain ⟨a, ha⟩ : ∃ a : Nat, a = d.size := ⟨_, rfl⟩
    have HA := hide ha
    rw [← ha] at p1 p3 h3
    try rw [← ha] at h2
    have la : (d.size : Int) = (a : Int) := by rw [ha]
    have H2 := hide h2
    have H3 := hide h3
    clear ha h2 h3 H hok
    go_enter Try.func5, Try.ntmps5
    go_wp2_with fail
    refine (sstoreok d s hd true HOK _).mono ?_
    rintro e w1 ⟨rfl, hb1⟩
    have B1 := hide ((unhide B0).trans (hb1.mono (unhide B0).size))
    have A1 := hide ((unhide A0).below hb1)
    have Z1 := hide ((unhide Z0).below hb1)
    clear hb1 A0 B0 a0 Z0
    have a1 := (unhide A1).S
    have z1 := (unhide Z1).S
    have f1 := (unhide Z1).F
    have g1 := (unhide A1).F
    have Q1 := hide (((unhide Z1).far ⟨w.heap.size, 1, none⟩ (.int .i64 (a : Int)) (by show w.heap.size ≠ w.heap.size + 1; omega)))
    have q1 := (unhide Q1).S
    have qf1 := (unhide Q1).F
    go_wp2_with fail
    refine bodyPost_ret (v := .tuple #[.agg #[.string d, .int .i64 (a : Int)], .int .i64 0]) (by simp [results, Try.results5, go_sem, q1]) rfl ⟨by rw [unhide H2, unhide H3], ?_⟩
    repeat refine Below.setCell ?_ (by first | exact Nat.le_succ _ | exact Nat.le_refl _) _
    exact unhide B1
  · have HOK := hide hok.symm
    have a0 := (unhide A0).S
    clear H hok
    go_enter Try.func5, Try.ntmps5
    go_wp2_with fail
    refine (sstoreok d s hd false HOK _).mono ?_
    rintro e w1 ⟨rfl, hb1⟩
    have B1 := hide ((unhide B0).trans (hb1.mono (unhide B0).size))
    have A1 := hide ((unhide A0).below hb1)
    have Z1 := hide ((unhide Z0).below hb1)
    clear hb1 A0 B0 a0 Z0
    have a1 := (unhide A1).S
    have z1 := (unhide Z1).S
    have f1 := (unhide Z1).F
    go_wp2_with fail
    refine bodyPost_ret (v := .tuple #[.agg #[.string ⟨#[]⟩, .int .i64 0], .int .i64 1]) (by simp [results, Try.results5, go_sem, z1]) rfl ⟨rfl, ?_⟩
    repeat refine Below.setCell ?_ (by exact Nat.le_succ _) _
    exact unhide B1
end Go.Proofs.Ytalbdcloloeemaa
