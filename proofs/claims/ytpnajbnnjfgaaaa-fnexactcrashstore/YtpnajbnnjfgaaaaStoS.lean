/- Stores: what the specification answers. -/
import Derived.Test.YtpnajbnnjfgaaaaStoM
import Derived.Test.YtpnajbnnjfgaaaaInS
import Derived.Test.YtpnajbnnjfgaaaaBf
import Derived.Lib.SmallJoins
namespace Go.Proofs.Ytpnajbnnjfgaaaa
open Go.ChangeShapes Go.WideShapes Go.ChangeAt Go.RowKit
set_option linter.unusedVariables false
set_option maxHeartbeats 1000000 in
set_option maxRecDepth 100000 in
theorem sstoreok (d : ByteArray) (s : Int) (hd : Hid (d.size ≤ maxLen)) (R : Bool) (HR : Hid (R = stoB d s)) (w : World) : Calls Try.prog 9 #[.agg #[.string d, .int .i64 s]] w fun e w' => e = .returned (.bool R) ∧ Below w.heap.size w w' := by
  have HB := hide (Go.Joins.below_alloc1 w (.cells #[.string d, .int .i64 s] 25))
  have h1 := unhide hd
  unfold maxLen at h1
  obtain ⟨a, ha⟩ : ∃ a : Nat, a = d.size := ⟨_, rfl⟩
  have HA := hide ha
  rw [← ha] at h1
  have la : (d.size : Int) = (a : Int) := by rw [ha]
  clear ha
  by_cases c1 : a ≤ 60000
  · have HS : inB s 0 (a : Int) = R := by
      rw [unhide HR, stoB, ← unhide HA, decide_eq_true c1, Bool.true_and]
    have HS := hide HS
    go_enter Try.func9, Try.ntmps9
    go_wp2_with fail
    refine (sin s 0 (a : Int) _).mono ?_
    rintro e w1 ⟨rfl, rfl⟩
    rw [unhide HS]
    go_wp2_with fail
    go_ret
    exact ⟨rfl, unhide HB⟩
  · have HS : R = false := by rw [unhide HR, stoB, ← unhide HA, decide_eq_false c1, Bool.false_and]
    subst HS
    go_enter Try.func9, Try.ntmps9
    go_wp2_with fail
    go_ret
    exact ⟨rfl, unhide HB⟩
attribute [local go_sem ↓] run_mn run_mx
set_option maxHeartbeats 2000000 in
set_option maxRecDepth 100000 in
theorem scrash0 (d : ByteArray) (a : Nat) (HA : Hid (a = d.size)) (s k : Int) (p1 : a ≤ 60000) (p2 : 0 ≤ s) (p3 : s ≤ (a : Int)) (w : World) : Calls Try.prog 10 #[.agg #[.string d, .int .i64 s], .int .i64 k] w fun e w' => e = .returned (.agg #[.string (d.extract 0 (keptN a s k)), .int .i64 (keptN a s k : Int)]) ∧ Below w.heap.size w w' := by
  have la : (d.size : Int) = (a : Int) := by rw [unhide HA]
  obtain ⟨M, N, hM2, hM, hN, n0, n1, hs, hk⟩ := kept_spec k p2 p3
  clear hM2
  have hsz : min (keptN a s k) d.size = keptN a s k := by rw [← unhide HA]; omega
  go_enter Try.func10, Try.ntmps10
  go_wp2_with fail
  refine bodyPost_ret (v := .agg #[.string (d.extract 0 (keptN a s k)), .int .i64 (keptN a s k : Int)]) (by simp [results, Try.results10, go_sem]) rfl ⟨rfl, ?_⟩
  exact Go.Joins.below_alloc2 w _ _
set_option maxHeartbeats 2000000 in
set_option maxRecDepth 100000 in
theorem scrash (d : ByteArray) (s : Int) (k : Int) (hd : Hid (d.size ≤ maxLen)) (d2 : ByteArray) (s2 c : Int) (H : Hid (CrashIs d s k d2 s2 c)) (w : World) : Calls Try.prog 5 #[.agg #[.string d, .int .i64 s], .int .i64 k] w fun e w' => e = .returned (.tuple #[.agg #[.string d2, .int .i64 s2], .int .i64 c]) ∧ Below w.heap.size w w' := by
  have B0 := hide (Go.Joins.below_alloc2 w (.cells #[.string d, .int .i64 s] 25) (.cells #[.string ⟨#[]⟩, .int .i64 0] 25))
  have A0 := hide ((BF.new w #[.string d, .int .i64 s] 25).alloc (.cells #[.string ⟨#[]⟩, .int .i64 0] 25))
  have Z0 := hide (BF.new (w.alloc (.cells #[.string d, .int .i64 s] 25)) #[.string ⟨#[]⟩, .int .i64 0] 25)
  rw [show (w.alloc (.cells #[.string d, .int .i64 s] 25)).heap.size = w.heap.size + 1 from by simp] at Z0
  rcases unhide H with ⟨hok, h2, h3, rfl⟩ | ⟨hok, rfl, rfl, rfl⟩
  · have HOK := hide hok.symm
    have a0 := (unhide A0).S
    obtain ⟨p1, p2, p3⟩ := sto_parts hok
    obtain ⟨a, ha⟩ : ∃ a : Nat, a = d.size := ⟨_, rfl⟩
    have HA := hide ha
    rw [← ha] at p1 p3 h3
    try rw [← ha] at h2
    have la : (d.size : Int) = (a : Int) := by rw [ha]
    have H2 := hide h2
    have H3 := hide h3
    clear ha h2 h3 H hok
    go_enter Try.func5, Try.ntmps5
    go_wp2_with fail
    refine (sstoreok d s hd true HOK _).mono ?_
    rintro e w1 ⟨rfl, hb1⟩
    have B1 := hide ((unhide B0).trans (hb1.mono (unhide B0).size))
    have A1 := hide ((unhide A0).below hb1)
    have Z1 := hide ((unhide Z0).below hb1)
    clear hb1 A0 B0 a0 Z0
    have a1 := (unhide A1).S
    have z1 := (unhide Z1).S
    have f1 := (unhide Z1).F
    go_wp2_with fail
    refine (scrash0 d a HA s k p1 p2 p3 _).mono ?_
    rintro e w2 ⟨rfl, hb2⟩
    have B2 := hide ((unhide B1).trans (hb2.mono (unhide B1).size))
    have Z2 := hide ((unhide Z1).below hb2)
    clear hb2 A1 B1 a1 Z1 z1 f1
    have z2 := (unhide Z2).S
    have f2 := (unhide Z2).F
    go_wp2_with fail
    refine bodyPost_ret (v := .tuple #[.agg #[.string (d.extract 0 (keptN a s k)), .int .i64 (keptN a s k : Int)], .int .i64 0]) (by simp [results, Try.results5, go_sem, z2]) rfl ⟨by rw [unhide H2, unhide H3], ?_⟩
    repeat refine Below.setCell ?_ (by exact Nat.le_succ _) _
    exact unhide B2
  · have HOK := hide hok.symm
    have a0 := (unhide A0).S
    clear H hok
    go_enter Try.func5, Try.ntmps5
    go_wp2_with fail
    refine (sstoreok d s hd false HOK _).mono ?_
    rintro e w1 ⟨rfl, hb1⟩
    have B1 := hide ((unhide B0).trans (hb1.mono (unhide B0).size))
    have A1 := hide ((unhide A0).below hb1)
    have Z1 := hide ((unhide Z0).below hb1)
    clear hb1 A0 B0 a0 Z0
    have a1 := (unhide A1).S
    have z1 := (unhide Z1).S
    have f1 := (unhide Z1).F
    go_wp2_with fail
    refine bodyPost_ret (v := .tuple #[.agg #[.string ⟨#[]⟩, .int .i64 0], .int .i64 1]) (by simp [results, Try.results5, go_sem, z1]) rfl ⟨rfl, ?_⟩
    repeat refine Below.setCell ?_ (by exact Nat.le_succ _) _
    exact unhide B1
end Go.Proofs.Ytpnajbnnjfgaaaa
