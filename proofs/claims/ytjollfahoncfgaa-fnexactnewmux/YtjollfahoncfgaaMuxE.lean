/- An empty multiplexer: the laws' own helpers; NewMux: what both answer. -/
import Derived.Test.YtjollfahoncfgaaRowV
import Derived.Test.YtjollfahoncfgaaSizeB
import Derived.Test.YtjollfahoncfgaaSizeT
import Derived.Test.YtjollfahoncfgaaInS
import Derived.Test.YtjollfahoncfgaaBf
import Derived.Lib.SmallJoins
namespace Go.Proofs.Ytjollfahoncfgaa
open Go.ChangeShapes Go.WideShapes Go.ChangeAt Go.RowKit
set_option maxRecDepth 100000 in
theorem eqWindow0 (a c : Option Addr) (cap cap2 : Nat) (w : World) : Calls Try.prog 12 #[.slice a 0 cap, .slice c 0 cap2] w fun e w' => e = .returned (.bool true) ∧ w' = w := by
  go_enter Try.func12, Try.ntmps12
  go_wp2_with fail
  go_loopw [5] (fun i wr => i = .int .i64 0 ∧ wr = w) (fun _ _ => 0)
  case atStart => exact ⟨rfl, rfl⟩
  case round =>
    obtain ⟨rfl, rfl⟩ := hrel
    go_wp2_with fail
    go_ret
    exact ⟨rfl, rfl⟩
set_option maxRecDepth 100000 in
theorem markWindow0 (a : Option Addr) (cap : Nat) (w : World) : Calls Try.prog 15 #[.slice a 0 cap, .int .i64 1] w fun e w' => e = .returned (.int .i64 1) ∧ w' = w := by
  go_enter Try.func15, Try.ntmps15
  go_wp2_with fail
  go_loopw [1, 5] (fun kk i wr => kk = .int .i64 1 ∧ i = .int .i64 0 ∧ wr = w) (fun _ _ _ => 0)
  case atStart => exact ⟨rfl, rfl, rfl⟩
  case round =>
    obtain ⟨rfl, rfl, rfl⟩ := hrel
    go_wp2_with fail
    go_ret
    exact ⟨rfl, rfl⟩
set_option maxRecDepth 100000 in
theorem heldWindow0 (a : Option Addr) (cap : Nat) (w : World) : Calls Try.prog 18 #[.slice a 0 cap, .int .i64 1] w fun e w' => e = .returned (.int .i64 1) ∧ w' = w := by
  go_enter Try.func18, Try.ntmps18
  go_wp2_with fail
  go_loopw [1, 5] (fun kk i wr => kk = .int .i64 1 ∧ i = .int .i64 0 ∧ wr = w) (fun _ _ _ => 0)
  case atStart => exact ⟨rfl, rfl, rfl⟩
  case round =>
    obtain ⟨rfl, rfl, rfl⟩ := hrel
    go_wp2_with fail
    go_ret
    exact ⟨rfl, rfl⟩
set_option maxRecDepth 100000 in
theorem eqPane0 (a c : Option Addr) (cap cap2 : Nat) (w : World) : Calls Try.prog 13 #[.slice a 0 cap, .slice c 0 cap2] w fun e w' => e = .returned (.bool true) ∧ w' = w := by
  go_enter Try.func13, Try.ntmps13
  go_wp2_with fail
  go_loopw [5] (fun i wr => i = .int .i64 0 ∧ wr = w) (fun _ _ => 0)
  case atStart => exact ⟨rfl, rfl⟩
  case round =>
    obtain ⟨rfl, rfl⟩ := hrel
    go_wp2_with fail
    go_ret
    exact ⟨rfl, rfl⟩
set_option maxRecDepth 100000 in
theorem markPane0 (a : Option Addr) (cap : Nat) (w : World) : Calls Try.prog 16 #[.slice a 0 cap, .int .i64 1] w fun e w' => e = .returned (.int .i64 1) ∧ w' = w := by
  go_enter Try.func16, Try.ntmps16
  go_wp2_with fail
  go_loopw [1, 5] (fun kk i wr => kk = .int .i64 1 ∧ i = .int .i64 0 ∧ wr = w) (fun _ _ _ => 0)
  case atStart => exact ⟨rfl, rfl, rfl⟩
  case round =>
    obtain ⟨rfl, rfl, rfl⟩ := hrel
    go_wp2_with fail
    go_ret
    exact ⟨rfl, rfl⟩
set_option maxRecDepth 100000 in
theorem heldPane0 (a : Option Addr) (cap : Nat) (w : World) : Calls Try.prog 19 #[.slice a 0 cap, .int .i64 1] w fun e w' => e = .returned (.int .i64 1) ∧ w' = w := by
  go_enter Try.func19, Try.ntmps19
  go_wp2_with fail
  go_loopw [1, 5] (fun kk i wr => kk = .int .i64 1 ∧ i = .int .i64 0 ∧ wr = w) (fun _ _ _ => 0)
  case atStart => exact ⟨rfl, rfl, rfl⟩
  case round =>
    obtain ⟨rfl, rfl, rfl⟩ := hrel
    go_wp2_with fail
    go_ret
    exact ⟨rfl, rfl⟩
set_option maxRecDepth 100000 in
theorem eqSeen0 (a c : Option Addr) (cap cap2 : Nat) (w : World) : Calls Try.prog 14 #[.slice a 0 cap, .slice c 0 cap2] w fun e w' => e = .returned (.bool true) ∧ w' = w := by
  go_enter Try.func14, Try.ntmps14
  go_wp2_with fail
  go_loopw [5] (fun i wr => i = .int .i64 0 ∧ wr = w) (fun _ _ => 0)
  case atStart => exact ⟨rfl, rfl⟩
  case round =>
    obtain ⟨rfl, rfl⟩ := hrel
    go_wp2_with fail
    go_ret
    exact ⟨rfl, rfl⟩
set_option maxRecDepth 100000 in
theorem markSeen0 (a : Option Addr) (cap : Nat) (w : World) : Calls Try.prog 17 #[.slice a 0 cap, .int .i64 1] w fun e w' => e = .returned (.int .i64 1) ∧ w' = w := by
  go_enter Try.func17, Try.ntmps17
  go_wp2_with fail
  go_loopw [1, 5] (fun kk i wr => kk = .int .i64 1 ∧ i = .int .i64 0 ∧ wr = w) (fun _ _ _ => 0)
  case atStart => exact ⟨rfl, rfl, rfl⟩
  case round =>
    obtain ⟨rfl, rfl, rfl⟩ := hrel
    go_wp2_with fail
    go_ret
    exact ⟨rfl, rfl⟩
set_option maxRecDepth 100000 in
theorem heldSeen0 (a : Option Addr) (cap : Nat) (w : World) : Calls Try.prog 20 #[.slice a 0 cap, .int .i64 1] w fun e w' => e = .returned (.int .i64 1) ∧ w' = w := by
  go_enter Try.func20, Try.ntmps20
  go_wp2_with fail
  go_loopw [1, 5] (fun kk i wr => kk = .int .i64 1 ∧ i = .int .i64 0 ∧ wr = w) (fun _ _ _ => 0)
  case atStart => exact ⟨rfl, rfl, rfl⟩
  case round =>
    obtain ⟨rfl, rfl, rfl⟩ := hrel
    go_wp2_with fail
    go_ret
    exact ⟨rfl, rfl⟩
set_option maxRecDepth 100000 in
theorem eqMux0 (j0 j1 j2 : Int) (a1 b1 c1 : Option Addr) (ca1 cb1 cc1 : Nat) (a2 b2 c2 : Option Addr) (ca2 cb2 cc2 : Nat) (w : World) : Calls Try.prog 6 #[.agg #[.int .i64 j0, .int .i64 j1, .int .i64 j2, .slice a1 0 ca1, .slice b1 0 cb1, .slice c1 0 cc1], .agg #[.int .i64 j0, .int .i64 j1, .int .i64 j2, .slice a2 0 ca2, .slice b2 0 cb2, .slice c2 0 cc2]] w fun e w' => e = .returned (.bool true) ∧ Below w.heap.size w w' := by
  have HB := hide (Go.Joins.below_alloc2 w (Obj.cells #[.int .i64 j0, .int .i64 j1, .int .i64 j2, .slice a1 0 ca1, .slice b1 0 cb1, .slice c1 0 cc1] 26) (Obj.cells #[.int .i64 j0, .int .i64 j1, .int .i64 j2, .slice a2 0 ca2, .slice b2 0 cb2, .slice c2 0 cc2] 26))
  have ne0 : (j0 != j0) = false := by simp
  have ne1 : (j1 != j1) = false := by simp
  have ne2 : (j2 != j2) = false := by simp
  go_enter Try.func6, Try.ntmps6
  go_wp2_with fail
  refine (eqWindow0 _ _ _ _ _).mono ?_
  rintro e w1 ⟨rfl, rfl⟩
  go_wp2_with fail
  refine (eqPane0 _ _ _ _ _).mono ?_
  rintro e w1 ⟨rfl, rfl⟩
  go_wp2_with fail
  refine (eqSeen0 _ _ _ _ _).mono ?_
  rintro e w1 ⟨rfl, rfl⟩
  go_wp2_with fail
  go_ret
  exact ⟨rfl, unhide HB⟩
set_option maxRecDepth 100000 in
theorem markMux0 (j0 j1 j2 : Int) (a1 b1 c1 : Option Addr) (ca1 cb1 cc1 : Nat) (w : World) : Calls Try.prog 7 #[.agg #[.int .i64 j0, .int .i64 j1, .int .i64 j2, .slice a1 0 ca1, .slice b1 0 cb1, .slice c1 0 cc1], .int .i64 1] w fun e w' => e = .returned (.int .i64 1) ∧ Below w.heap.size w w' := by
  have HB := hide (Go.Joins.below_alloc1 w (Obj.cells #[.int .i64 j0, .int .i64 j1, .int .i64 j2, .slice a1 0 ca1, .slice b1 0 cb1, .slice c1 0 cc1] 26))
  go_enter Try.func7, Try.ntmps7
  go_wp2_with fail
  refine (markWindow0 _ _ _).mono ?_
  rintro e w1 ⟨rfl, rfl⟩
  go_wp2_with fail
  refine (markPane0 _ _ _).mono ?_
  rintro e w1 ⟨rfl, rfl⟩
  go_wp2_with fail
  refine (markSeen0 _ _ _).mono ?_
  rintro e w1 ⟨rfl, rfl⟩
  go_wp2_with fail
  go_ret
  exact ⟨rfl, unhide HB⟩
set_option maxRecDepth 100000 in
theorem heldMux0 (j0 j1 j2 : Int) (a1 b1 c1 : Option Addr) (ca1 cb1 cc1 : Nat) (w : World) : Calls Try.prog 8 #[.agg #[.int .i64 j0, .int .i64 j1, .int .i64 j2, .slice a1 0 ca1, .slice b1 0 cb1, .slice c1 0 cc1], .int .i64 1] w fun e w' => e = .returned (.int .i64 1) ∧ Below w.heap.size w w' := by
  have HB := hide (Go.Joins.below_alloc1 w (Obj.cells #[.int .i64 j0, .int .i64 j1, .int .i64 j2, .slice a1 0 ca1, .slice b1 0 cb1, .slice c1 0 cc1] 26))
  go_enter Try.func8, Try.ntmps8
  go_wp2_with fail
  refine (heldWindow0 _ _ _).mono ?_
  rintro e w1 ⟨rfl, rfl⟩
  go_wp2_with fail
  refine (heldPane0 _ _ _).mono ?_
  rintro e w1 ⟨rfl, rfl⟩
  go_wp2_with fail
  refine (heldSeen0 _ _ _).mono ?_
  rintro e w1 ⟨rfl, rfl⟩
  go_wp2_with fail
  go_ret
  exact ⟨rfl, unhide HB⟩
def nmJ (aw ah x : Int) : Int := if sizeB aw ah = true then x else 0
def nmC (aw ah : Int) : Int := if sizeB aw ah = true then 0 else 4
set_option maxRecDepth 100000 in
theorem inewmux (aw ah j0 j1 j2 c : Int) (h0 : j0 = nmJ aw ah aw) (h1 : j1 = nmJ aw ah ah) (h2 : j2 = nmJ aw ah 1) (hc : c = nmC aw ah) (w : World) : Calls Try.prog 5 #[.int .i64 aw, .int .i64 ah] w fun e w' => ∃ a1 ca1 b1 cb1 c1 cc1, e = .returned (.tuple #[.agg #[.int .i64 j0, .int .i64 j1, .int .i64 j2, .slice a1 0 ca1, .slice b1 0 cb1, .slice c1 0 cc1], .int .i64 c]) ∧ Below w.heap.size w w' := by
  have HB := hide (Go.Joins.below_alloc1 w (Obj.cells #[.int .i64 0, .int .i64 0, .int .i64 0, .slice none 0 0, .slice none 0 0, .slice none 0 0] 26))
  have BZ := hide (BF.new w #[.int .i64 0, .int .i64 0, .int .i64 0, .slice none 0 0, .slice none 0 0, .slice none 0 0] 26)
  unfold nmJ at h0 h1 h2
  unfold nmC at hc
  cases hs : sizeB aw ah
  · rw [hs, if_neg (by decide)] at h0 h1 h2 hc
    subst h0 h1 h2 hc
    go_enter Try.func5, Try.ntmps5
    go_wp2_with (first | (go_at_call 11; refine (isize _ _ _).mono ?_; rintro e w1 ⟨rfl, rfl⟩; rw [hs]))
    refine bodyPost_ret (v := .tuple #[.agg #[.int .i64 0, .int .i64 0, .int .i64 0, .slice none 0 0, .slice none 0 0, .slice none 0 0], .int .i64 4]) (by simp [results, Try.results5, go_sem]) rfl ⟨none, 0, none, 0, none, 0, rfl, ?_⟩
    exact Go.Joins.below_alloc1 w _
  · rw [hs, if_pos rfl] at h0 h1 h2 hc
    subst h0 h1 h2 hc
    go_enter Try.func5, Try.ntmps5
    go_wp2_with (first | (go_at_call 11; refine (isize _ _ _).mono ?_; rintro e w1 ⟨rfl, rfl⟩; rw [hs]))
    refine bodyPost_ret (v := .tuple #[.agg #[.int .i64 j0, .int .i64 j1, .int .i64 1, .slice none 0 0, .slice none 0 0, .slice none 0 0], .int .i64 0]) (by simp [results, Try.results5, go_sem]) rfl ⟨none, 0, none, 0, none, 0, rfl, ?_⟩
    exact Go.Joins.below_alloc1 w _
set_option maxRecDepth 100000 in
theorem snew0 (aw ah : Int) (w : World) : Calls Try.prog 10 #[.int .i64 aw, .int .i64 ah] w fun e w' => ∃ a1 ca1 b1 cb1 c1 cc1, e = .returned (.agg #[.int .i64 aw, .int .i64 ah, .int .i64 1, .slice a1 0 ca1, .slice b1 0 cb1, .slice c1 0 cc1]) ∧ Below w.heap.size w w' := by
  go_enter Try.func10, Try.ntmps10
  go_wp2_with fail
  refine bodyPost_ret (v := .agg #[.int .i64 aw, .int .i64 ah, .int .i64 1, .slice (some ⟨w.heap.size + 1, 0, none⟩) 0 0, .slice (some ⟨w.heap.size + 1 + 1, 0, none⟩) 0 0, .slice (some ⟨w.heap.size + 1 + 1 + 1, 0, none⟩) 0 0]) (by simp [results, Try.results10, go_sem]) rfl ⟨_, _, _, _, _, _, rfl, ?_⟩
  repeat refine Below.setCell ?_ (by exact Nat.le_refl _) _
  have z := (Go.Joins.below_alloc1 w (Obj.cells #[.int .i64 aw] 0)).size
  exact (((Below.alloc (Below.refl w.heap.size w) (Nat.le_refl _) _).alloc (by simp) _).alloc (by simp; omega) _).alloc (by simp; omega) _
set_option maxRecDepth 100000 in
theorem snewmux (aw ah j0 j1 j2 c : Int) (h0 : j0 = nmJ aw ah aw) (h1 : j1 = nmJ aw ah ah) (h2 : j2 = nmJ aw ah 1) (hc : c = nmC aw ah) (w : World) : Calls Try.prog 4 #[.int .i64 aw, .int .i64 ah] w fun e w' => ∃ a1 ca1 b1 cb1 c1 cc1, e = .returned (.tuple #[.agg #[.int .i64 j0, .int .i64 j1, .int .i64 j2, .slice a1 0 ca1, .slice b1 0 cb1, .slice c1 0 cc1], .int .i64 c]) ∧ Below w.heap.size w w' := by
  have HB := hide (Go.Joins.below_alloc1 w (Obj.cells #[.int .i64 0, .int .i64 0, .int .i64 0, .slice none 0 0, .slice none 0 0, .slice none 0 0] 26))
  have BZ := hide (BF.new w #[.int .i64 0, .int .i64 0, .int .i64 0, .slice none 0 0, .slice none 0 0, .slice none 0 0] 26)
  unfold nmJ at h0 h1 h2
  unfold nmC at hc
  cases hs : sizeB aw ah
  · rw [hs, if_neg (by decide)] at h0 h1 h2 hc
    subst h0 h1 h2 hc
    go_enter Try.func4, Try.ntmps4
    go_wp2_with (first | (go_at_call 9; refine (ssize _ _ _).mono ?_; rintro e w1 ⟨rfl, rfl⟩; rw [hs]))
    refine bodyPost_ret (v := .tuple #[.agg #[.int .i64 0, .int .i64 0, .int .i64 0, .slice none 0 0, .slice none 0 0, .slice none 0 0], .int .i64 4]) (by simp [results, Try.results4, go_sem]) rfl ⟨none, 0, none, 0, none, 0, rfl, ?_⟩
    exact Go.Joins.below_alloc1 w _
  · rw [hs, if_pos rfl] at h0 h1 h2 hc
    subst h0 h1 h2 hc
    go_enter Try.func4, Try.ntmps4
    go_wp2_with (first | (go_at_call 9; refine (ssize _ _ _).mono ?_; rintro e w1 ⟨rfl, rfl⟩; rw [hs]))
    refine (snew0 _ _ _).mono ?_
    rintro e w2 ⟨a1, ca1, b1, cb1, c1, cc1, rfl, hb2⟩
    have HB2 := hide ((unhide HB).trans (hb2.mono (unhide HB).size))
    have BZ2 := hide ((unhide BZ).below hb2)
    clear hb2 HB BZ
    have z := (unhide BZ2).S
    have zf := (unhide BZ2).F
    go_wp2_with fail
    refine bodyPost_ret (v := .tuple #[.agg #[.int .i64 j0, .int .i64 j1, .int .i64 1, .slice a1 0 ca1, .slice b1 0 cb1, .slice c1 0 cc1], .int .i64 0]) (by simp [results, Try.results4, go_sem, z]) rfl ⟨_, _, _, _, _, _, rfl, ?_⟩
    repeat refine Below.setCell ?_ (by exact Nat.le_refl _) _
    exact unhide HB2
end Go.Proofs.Ytjollfahoncfgaa
