/- utf8.FullRuneInString and beginsRune: what the program answers. -/
import Derived.Test.YtolbmblffogloabDoorParM
import Derived.Test.YtolbmblffogloabDoorStepI
import Derived.Deep.QuietTactic
import Derived.BigQuiet
import Derived.Lib.SmallJoins
namespace Go.Proofs.YtolbmblffogloabDoor
open Go.ChangeShapes Go.WideShapes Go.ChangeAt Go.RowKit
set_option linter.unusedVariables false
/-- unicode/utf8's two tables lie in their variables. -/
def RuneTabs (w : World) : Prop := (∀ c, c < 256 → w.cell? ⟨6, c, none⟩ = some (.int .u8 (Lib.firstT c))) ∧
  (∀ i, i < 16 → w.cell? ⟨7, 2 * i, none⟩ = some (.int .u8 (Lib.accLo i)) ∧ w.cell? ⟨7, 2 * i + 1, none⟩ = some (.int .u8 (Lib.accHi i)))
theorem RuneTabs.pos1 {w : World} (h : RuneTabs w) : 6 < w.heap.size := World.block_lt_of_cell? w _ (h.1 0 (by decide))
theorem RuneTabs.pos2 {w : World} (h : RuneTabs w) : 7 < w.heap.size := World.block_lt_of_cell? w _ (h.2 0 (by decide)).1
theorem RuneTabs.below {w w' : World} {B : Nat} (h : RuneTabs w) (hb : Below B w w') (h1 : 6 < B) (h2 : 7 < B) : RuneTabs w' :=
  ⟨fun c hc => (hb.cell (p := ⟨6, c, none⟩) h1).trans (h.1 c hc), fun i hi => ⟨(hb.cell (p := ⟨7, 2 * i, none⟩) h2).trans (h.2 i hi).1, (hb.cell (p := ⟨7, 2 * i + 1, none⟩) h2).trans (h.2 i hi).2⟩⟩

set_option maxHeartbeats 400000 in
set_option maxRecDepth 100000 in
theorem ifull_240 (s : ByteArray) (h1 : 0 < s.size) (hs : s.size ≤ 1048576) (w : World) (hT : RuneTabs w) (hv : Lib.firstT s[0].toNat = 240) :
    Calls Tryd.prog 72 #[.string s] w fun e w' => e = .returned (.bool (!begB s.data.toList)) ∧ Below w.heap.size w w' := by
  have hb : (s[0].toNat : Int) ≤ 255 := by have := s[0].toNat_lt; omega
  have hc : w.cell? ⟨6, s[0].toNat, none⟩ = some (.int .u8 240) := by
    have h := hT.1 s[0].toNat s[0].toNat_lt
    rw [hv] at h; exact h
  have hall := first_all s[0].toNat s[0].toNat_lt
  rw [hv] at hall
  have hsz : leadSz s[0].toNat ≤ 1 := hall.2 (by decide)
  have HV : Hid (begB s.data.toList = false) := beg_full h1 (by omega)
  have h0 : ((s.size : Int) == 0) = false := by rw [beq_eq_false_iff_ne]; omega
  have h1' : (0 : Int) < (s.size : Int) := by omega
  clear hall hT hsz hv
  go_enter Tryd.func72, Tryd.ntmps72
  go_wp2_with fail
  go_ret
  exact ⟨ret_bool (by rw [unhide HV]; rfl), Below.refl _ _⟩
set_option maxHeartbeats 400000 in
set_option maxRecDepth 100000 in
theorem ifull_241 (s : ByteArray) (h1 : 0 < s.size) (hs : s.size ≤ 1048576) (w : World) (hT : RuneTabs w) (hv : Lib.firstT s[0].toNat = 241) :
    Calls Tryd.prog 72 #[.string s] w fun e w' => e = .returned (.bool (!begB s.data.toList)) ∧ Below w.heap.size w w' := by
  have hb : (s[0].toNat : Int) ≤ 255 := by have := s[0].toNat_lt; omega
  have hc : w.cell? ⟨6, s[0].toNat, none⟩ = some (.int .u8 241) := by
    have h := hT.1 s[0].toNat s[0].toNat_lt
    rw [hv] at h; exact h
  have hall := first_all s[0].toNat s[0].toNat_lt
  rw [hv] at hall
  have hsz : leadSz s[0].toNat ≤ 1 := hall.2 (by decide)
  have HV : Hid (begB s.data.toList = false) := beg_full h1 (by omega)
  have h0 : ((s.size : Int) == 0) = false := by rw [beq_eq_false_iff_ne]; omega
  have h1' : (0 : Int) < (s.size : Int) := by omega
  clear hall hT hsz hv
  go_enter Tryd.func72, Tryd.ntmps72
  go_wp2_with fail
  go_ret
  exact ⟨ret_bool (by rw [unhide HV]; rfl), Below.refl _ _⟩
set_option maxHeartbeats 400000 in
set_option maxRecDepth 100000 in
theorem ifull_2 (s : ByteArray) (h1 : 0 < s.size) (hs : s.size ≤ 1048576) (w : World) (hT : RuneTabs w) (hv : Lib.firstT s[0].toNat = 2) :
    Calls Tryd.prog 72 #[.string s] w fun e w' => e = .returned (.bool (!begB s.data.toList)) ∧ Below w.heap.size w w' := by
  have hb : (s[0].toNat : Int) ≤ 255 := by have := s[0].toNat_lt; omega
  have hc : w.cell? ⟨6, s[0].toNat, none⟩ = some (.int .u8 2) := by
    have h := hT.1 s[0].toNat s[0].toNat_lt
    rw [hv] at h; exact h
  have hall := first_all s[0].toNat s[0].toNat_lt
  rw [hv] at hall
  have hl : w.cell? ⟨7, 0, none⟩ = some (.int .u8 128) := (hT.2 0 (by decide)).1
  have hh : w.cell? ⟨7, 1, none⟩ = some (.int .u8 191) := (hT.2 0 (by decide)).2
  have hg := hT.pos2
  have hsz : leadSz s[0].toNat = 2 := (hall.1 (by decide)).1
  have hlo : secLo s[0].toNat = 128 := (hall.1 (by decide)).2.1
  have hhi : secHi s[0].toNat = 191 := (hall.1 (by decide)).2.2
  have HS := hide hsz
  have HLO := hide hlo
  have HHI := hide hhi
  clear hall hT hv hlo hhi
  by_cases hn : 2 ≤ s.size
  · have HV : Hid (begB s.data.toList = false) := beg_full h1 (by omega)
    have h0 : ((s.size : Int) == 0) = false := by rw [beq_eq_false_iff_ne]; omega
    have h1' : (0 : Int) < (s.size : Int) := by omega
    have hn' : (2 : Int) ≤ (s.size : Int) := by omega
    clear hsz
    go_enter Tryd.func72, Tryd.ntmps72
    go_wp2_with fail
    go_ret
    exact ⟨ret_bool (by rw [unhide HV]; rfl), Below.refl _ _⟩
  clear hsz
  by_cases e1 : s.size = 1
  · have HV : Hid (begB s.data.toList = true) := by show _ = _; rw [list1 e1, begB_1, unhide HS]; rfl
    have hn' : (s.size : Int) = 1 := by omega
    go_enter Tryd.func72, Tryd.ntmps72
    go_wp2_with fail
    go_quiet (fail)
    go_wp2_with fail
    go_ret
    exact ⟨ret_bool (by rw [unhide HV]; rfl), ((Below.refl _ _).alloc (Nat.le_refl _) _).trans (Go.Joins.below_draws _ _ _)⟩
  · exact absurd hn (by omega)
set_option maxHeartbeats 400000 in
set_option maxRecDepth 100000 in
theorem ifull_19 (s : ByteArray) (h1 : 0 < s.size) (hs : s.size ≤ 1048576) (w : World) (hT : RuneTabs w) (hv : Lib.firstT s[0].toNat = 19) :
    Calls Tryd.prog 72 #[.string s] w fun e w' => e = .returned (.bool (!begB s.data.toList)) ∧ Below w.heap.size w w' := by
  have hb : (s[0].toNat : Int) ≤ 255 := by have := s[0].toNat_lt; omega
  have hc : w.cell? ⟨6, s[0].toNat, none⟩ = some (.int .u8 19) := by
    have h := hT.1 s[0].toNat s[0].toNat_lt
    rw [hv] at h; exact h
  have hall := first_all s[0].toNat s[0].toNat_lt
  rw [hv] at hall
  have hl : w.cell? ⟨7, 2, none⟩ = some (.int .u8 160) := (hT.2 1 (by decide)).1
  have hh : w.cell? ⟨7, 3, none⟩ = some (.int .u8 191) := (hT.2 1 (by decide)).2
  have hg := hT.pos2
  have hsz : leadSz s[0].toNat = 3 := (hall.1 (by decide)).1
  have hlo : secLo s[0].toNat = 160 := (hall.1 (by decide)).2.1
  have hhi : secHi s[0].toNat = 191 := (hall.1 (by decide)).2.2
  have HS := hide hsz
  have HLO := hide hlo
  have HHI := hide hhi
  clear hall hT hv hlo hhi
  by_cases hn : 3 ≤ s.size
  · have HV : Hid (begB s.data.toList = false) := beg_full h1 (by omega)
    have h0 : ((s.size : Int) == 0) = false := by rw [beq_eq_false_iff_ne]; omega
    have h1' : (0 : Int) < (s.size : Int) := by omega
    have hn' : (3 : Int) ≤ (s.size : Int) := by omega
    clear hsz
    go_enter Tryd.func72, Tryd.ntmps72
    go_wp2_with fail
    go_ret
    exact ⟨ret_bool (by rw [unhide HV]; rfl), Below.refl _ _⟩
  clear hsz
  by_cases e1 : s.size = 1
  · have HV : Hid (begB s.data.toList = true) := by show _ = _; rw [list1 e1, begB_1, unhide HS]; rfl
    have hn' : (s.size : Int) = 1 := by omega
    go_enter Tryd.func72, Tryd.ntmps72
    go_wp2_with fail
    go_quiet (fail)
    go_wp2_with fail
    go_ret
    exact ⟨ret_bool (by rw [unhide HV]; rfl), ((Below.refl _ _).alloc (Nat.le_refl _) _).trans (Go.Joins.below_draws _ _ _)⟩
  by_cases e2 : s.size = 2
  · have hn' : (s.size : Int) = 2 := by omega
    by_cases l1 : (s[1].toNat : Int) < 160
    · have HV : Hid (begB s.data.toList = false) := by
        show _ = _; rw [list2 e2, begB_2, unhide HS, unhide HLO, unhide HHI]; unfold bIn; rw [decide_eq_false (show ¬ (160 ≤ s[1].toNat ∧ s[1].toNat ≤ 191) by omega)]; rfl
      have hd : decide ((s[1].toNat : Int) < 160) = true := by simpa using l1
      go_enter Tryd.func72, Tryd.ntmps72
      go_wp2_with fail
      go_quiet (fail)
      go_wp2_with fail
      go_ret
      exact ⟨ret_bool (by rw [unhide HV]; rfl), ((Below.refl _ _).alloc (Nat.le_refl _) _).trans (Go.Joins.below_draws _ _ _)⟩
    by_cases l2 : 191 < (s[1].toNat : Int)
    · have HV : Hid (begB s.data.toList = false) := by
        show _ = _; rw [list2 e2, begB_2, unhide HS, unhide HLO, unhide HHI]; unfold bIn; rw [decide_eq_false (show ¬ (160 ≤ s[1].toNat ∧ s[1].toNat ≤ 191) by omega)]; rfl
      have hd : decide ((s[1].toNat : Int) < 160) = false := by simpa using l1
      have hd2 : decide (191 < (s[1].toNat : Int)) = true := by simpa using l2
      go_enter Tryd.func72, Tryd.ntmps72
      go_wp2_with fail
      go_quiet (fail)
      go_wp2_with fail
      go_ret
      exact ⟨ret_bool (by rw [unhide HV]; rfl), ((Below.refl _ _).alloc (Nat.le_refl _) _).trans (Go.Joins.below_draws _ _ _)⟩
    have hd : decide ((s[1].toNat : Int) < 160) = false := by simpa using l1
    have hd2 : decide (191 < (s[1].toNat : Int)) = false := by simpa using l2
    have hok : (160 ≤ s[1].toNat ∧ s[1].toNat ≤ 191) := by omega
    have HV : Hid (begB s.data.toList = true) := by
      show _ = _; rw [list2 e2, begB_2, unhide HS, unhide HLO, unhide HHI]; unfold bIn; rw [decide_eq_true hok]; rfl
    clear hok
    go_enter Tryd.func72, Tryd.ntmps72
    go_wp2_with fail
    go_quiet (fail)
    go_wp2_with fail
    go_ret
    exact ⟨ret_bool (by rw [unhide HV]; rfl), ((Below.refl _ _).alloc (Nat.le_refl _) _).trans (Go.Joins.below_draws _ _ _)⟩
  · exact absurd hn (by omega)
set_option maxHeartbeats 400000 in
set_option maxRecDepth 100000 in
theorem ifull_3 (s : ByteArray) (h1 : 0 < s.size) (hs : s.size ≤ 1048576) (w : World) (hT : RuneTabs w) (hv : Lib.firstT s[0].toNat = 3) :
    Calls Tryd.prog 72 #[.string s] w fun e w' => e = .returned (.bool (!begB s.data.toList)) ∧ Below w.heap.size w w' := by
  have hb : (s[0].toNat : Int) ≤ 255 := by have := s[0].toNat_lt; omega
  have hc : w.cell? ⟨6, s[0].toNat, none⟩ = some (.int .u8 3) := by
    have h := hT.1 s[0].toNat s[0].toNat_lt
    rw [hv] at h; exact h
  have hall := first_all s[0].toNat s[0].toNat_lt
  rw [hv] at hall
  have hl : w.cell? ⟨7, 0, none⟩ = some (.int .u8 128) := (hT.2 0 (by decide)).1
  have hh : w.cell? ⟨7, 1, none⟩ = some (.int .u8 191) := (hT.2 0 (by decide)).2
  have hg := hT.pos2
  have hsz : leadSz s[0].toNat = 3 := (hall.1 (by decide)).1
  have hlo : secLo s[0].toNat = 128 := (hall.1 (by decide)).2.1
  have hhi : secHi s[0].toNat = 191 := (hall.1 (by decide)).2.2
  have HS := hide hsz
  have HLO := hide hlo
  have HHI := hide hhi
  clear hall hT hv hlo hhi
  by_cases hn : 3 ≤ s.size
  · have HV : Hid (begB s.data.toList = false) := beg_full h1 (by omega)
    have h0 : ((s.size : Int) == 0) = false := by rw [beq_eq_false_iff_ne]; omega
    have h1' : (0 : Int) < (s.size : Int) := by omega
    have hn' : (3 : Int) ≤ (s.size : Int) := by omega
    clear hsz
    go_enter Tryd.func72, Tryd.ntmps72
    go_wp2_with fail
    go_ret
    exact ⟨ret_bool (by rw [unhide HV]; rfl), Below.refl _ _⟩
  clear hsz
  by_cases e1 : s.size = 1
  · have HV : Hid (begB s.data.toList = true) := by show _ = _; rw [list1 e1, begB_1, unhide HS]; rfl
    have hn' : (s.size : Int) = 1 := by omega
    go_enter Tryd.func72, Tryd.ntmps72
    go_wp2_with fail
    go_quiet (fail)
    go_wp2_with fail
    go_ret
    exact ⟨ret_bool (by rw [unhide HV]; rfl), ((Below.refl _ _).alloc (Nat.le_refl _) _).trans (Go.Joins.below_draws _ _ _)⟩
  by_cases e2 : s.size = 2
  · have hn' : (s.size : Int) = 2 := by omega
    by_cases l1 : (s[1].toNat : Int) < 128
    · have HV : Hid (begB s.data.toList = false) := by
        show _ = _; rw [list2 e2, begB_2, unhide HS, unhide HLO, unhide HHI]; unfold bIn; rw [decide_eq_false (show ¬ (128 ≤ s[1].toNat ∧ s[1].toNat ≤ 191) by omega)]; rfl
      have hd : decide ((s[1].toNat : Int) < 128) = true := by simpa using l1
      go_enter Tryd.func72, Tryd.ntmps72
      go_wp2_with fail
      go_quiet (fail)
      go_wp2_with fail
      go_ret
      exact ⟨ret_bool (by rw [unhide HV]; rfl), ((Below.refl _ _).alloc (Nat.le_refl _) _).trans (Go.Joins.below_draws _ _ _)⟩
    by_cases l2 : 191 < (s[1].toNat : Int)
    · have HV : Hid (begB s.data.toList = false) := by
        show _ = _; rw [list2 e2, begB_2, unhide HS, unhide HLO, unhide HHI]; unfold bIn; rw [decide_eq_false (show ¬ (128 ≤ s[1].toNat ∧ s[1].toNat ≤ 191) by omega)]; rfl
      have hd : decide ((s[1].toNat : Int) < 128) = false := by simpa using l1
      have hd2 : decide (191 < (s[1].toNat : Int)) = true := by simpa using l2
      go_enter Tryd.func72, Tryd.ntmps72
      go_wp2_with fail
      go_quiet (fail)
      go_wp2_with fail
      go_ret
      exact ⟨ret_bool (by rw [unhide HV]; rfl), ((Below.refl _ _).alloc (Nat.le_refl _) _).trans (Go.Joins.below_draws _ _ _)⟩
    have hd : decide ((s[1].toNat : Int) < 128) = false := by simpa using l1
    have hd2 : decide (191 < (s[1].toNat : Int)) = false := by simpa using l2
    have hok : (128 ≤ s[1].toNat ∧ s[1].toNat ≤ 191) := by omega
    have HV : Hid (begB s.data.toList = true) := by
      show _ = _; rw [list2 e2, begB_2, unhide HS, unhide HLO, unhide HHI]; unfold bIn; rw [decide_eq_true hok]; rfl
    clear hok
    go_enter Tryd.func72, Tryd.ntmps72
    go_wp2_with fail
    go_quiet (fail)
    go_wp2_with fail
    go_ret
    exact ⟨ret_bool (by rw [unhide HV]; rfl), ((Below.refl _ _).alloc (Nat.le_refl _) _).trans (Go.Joins.below_draws _ _ _)⟩
  · exact absurd hn (by omega)
set_option maxHeartbeats 400000 in
set_option maxRecDepth 100000 in
theorem ifull_35 (s : ByteArray) (h1 : 0 < s.size) (hs : s.size ≤ 1048576) (w : World) (hT : RuneTabs w) (hv : Lib.firstT s[0].toNat = 35) :
    Calls Tryd.prog 72 #[.string s] w fun e w' => e = .returned (.bool (!begB s.data.toList)) ∧ Below w.heap.size w w' := by
  have hb : (s[0].toNat : Int) ≤ 255 := by have := s[0].toNat_lt; omega
  have hc : w.cell? ⟨6, s[0].toNat, none⟩ = some (.int .u8 35) := by
    have h := hT.1 s[0].toNat s[0].toNat_lt
    rw [hv] at h; exact h
  have hall := first_all s[0].toNat s[0].toNat_lt
  rw [hv] at hall
  have hl : w.cell? ⟨7, 4, none⟩ = some (.int .u8 128) := (hT.2 2 (by decide)).1
  have hh : w.cell? ⟨7, 5, none⟩ = some (.int .u8 159) := (hT.2 2 (by decide)).2
  have hg := hT.pos2
  have hsz : leadSz s[0].toNat = 3 := (hall.1 (by decide)).1
  have hlo : secLo s[0].toNat = 128 := (hall.1 (by decide)).2.1
  have hhi : secHi s[0].toNat = 159 := (hall.1 (by decide)).2.2
  have HS := hide hsz
  have HLO := hide hlo
  have HHI := hide hhi
  clear hall hT hv hlo hhi
  by_cases hn : 3 ≤ s.size
  · have HV : Hid (begB s.data.toList = false) := beg_full h1 (by omega)
    have h0 : ((s.size : Int) == 0) = false := by rw [beq_eq_false_iff_ne]; omega
    have h1' : (0 : Int) < (s.size : Int) := by omega
    have hn' : (3 : Int) ≤ (s.size : Int) := by omega
    clear hsz
    go_enter Tryd.func72, Tryd.ntmps72
    go_wp2_with fail
    go_ret
    exact ⟨ret_bool (by rw [unhide HV]; rfl), Below.refl _ _⟩
  clear hsz
  by_cases e1 : s.size = 1
  · have HV : Hid (begB s.data.toList = true) := by show _ = _; rw [list1 e1, begB_1, unhide HS]; rfl
    have hn' : (s.size : Int) = 1 := by omega
    go_enter Tryd.func72, Tryd.ntmps72
    go_wp2_with fail
    go_quiet (fail)
    go_wp2_with fail
    go_ret
    exact ⟨ret_bool (by rw [unhide HV]; rfl), ((Below.refl _ _).alloc (Nat.le_refl _) _).trans (Go.Joins.below_draws _ _ _)⟩
  by_cases e2 : s.size = 2
  · have hn' : (s.size : Int) = 2 := by omega
    by_cases l1 : (s[1].toNat : Int) < 128
    · have HV : Hid (begB s.data.toList = false) := by
        show _ = _; rw [list2 e2, begB_2, unhide HS, unhide HLO, unhide HHI]; unfold bIn; rw [decide_eq_false (show ¬ (128 ≤ s[1].toNat ∧ s[1].toNat ≤ 159) by omega)]; rfl
      have hd : decide ((s[1].toNat : Int) < 128) = true := by simpa using l1
      go_enter Tryd.func72, Tryd.ntmps72
      go_wp2_with fail
      go_quiet (fail)
      go_wp2_with fail
      go_ret
      exact ⟨ret_bool (by rw [unhide HV]; rfl), ((Below.refl _ _).alloc (Nat.le_refl _) _).trans (Go.Joins.below_draws _ _ _)⟩
    by_cases l2 : 159 < (s[1].toNat : Int)
    · have HV : Hid (begB s.data.toList = false) := by
        show _ = _; rw [list2 e2, begB_2, unhide HS, unhide HLO, unhide HHI]; unfold bIn; rw [decide_eq_false (show ¬ (128 ≤ s[1].toNat ∧ s[1].toNat ≤ 159) by omega)]; rfl
      have hd : decide ((s[1].toNat : Int) < 128) = false := by simpa using l1
      have hd2 : decide (159 < (s[1].toNat : Int)) = true := by simpa using l2
      go_enter Tryd.func72, Tryd.ntmps72
      go_wp2_with fail
      go_quiet (fail)
      go_wp2_with fail
      go_ret
      exact ⟨ret_bool (by rw [unhide HV]; rfl), ((Below.refl _ _).alloc (Nat.le_refl _) _).trans (Go.Joins.below_draws _ _ _)⟩
    have hd : decide ((s[1].toNat : Int) < 128) = false := by simpa using l1
    have hd2 : decide (159 < (s[1].toNat : Int)) = false := by simpa using l2
    have hok : (128 ≤ s[1].toNat ∧ s[1].toNat ≤ 159) := by omega
    have HV : Hid (begB s.data.toList = true) := by
      show _ = _; rw [list2 e2, begB_2, unhide HS, unhide HLO, unhide HHI]; unfold bIn; rw [decide_eq_true hok]; rfl
    clear hok
    go_enter Tryd.func72, Tryd.ntmps72
    go_wp2_with fail
    go_quiet (fail)
    go_wp2_with fail
    go_ret
    exact ⟨ret_bool (by rw [unhide HV]; rfl), ((Below.refl _ _).alloc (Nat.le_refl _) _).trans (Go.Joins.below_draws _ _ _)⟩
  · exact absurd hn (by omega)
set_option maxHeartbeats 400000 in
set_option maxRecDepth 100000 in
theorem ifull_52 (s : ByteArray) (h1 : 0 < s.size) (hs : s.size ≤ 1048576) (w : World) (hT : RuneTabs w) (hv : Lib.firstT s[0].toNat = 52) :
    Calls Tryd.prog 72 #[.string s] w fun e w' => e = .returned (.bool (!begB s.data.toList)) ∧ Below w.heap.size w w' := by
  have hb : (s[0].toNat : Int) ≤ 255 := by have := s[0].toNat_lt; omega
  have hc : w.cell? ⟨6, s[0].toNat, none⟩ = some (.int .u8 52) := by
    have h := hT.1 s[0].toNat s[0].toNat_lt
    rw [hv] at h; exact h
  have hall := first_all s[0].toNat s[0].toNat_lt
  rw [hv] at hall
  have hl : w.cell? ⟨7, 6, none⟩ = some (.int .u8 144) := (hT.2 3 (by decide)).1
  have hh : w.cell? ⟨7, 7, none⟩ = some (.int .u8 191) := (hT.2 3 (by decide)).2
  have hg := hT.pos2
  have hsz : leadSz s[0].toNat = 4 := (hall.1 (by decide)).1
  have hlo : secLo s[0].toNat = 144 := (hall.1 (by decide)).2.1
  have hhi : secHi s[0].toNat = 191 := (hall.1 (by decide)).2.2
  have HS := hide hsz
  have HLO := hide hlo
  have HHI := hide hhi
  clear hall hT hv hlo hhi
  by_cases hn : 4 ≤ s.size
  · have HV : Hid (begB s.data.toList = false) := beg_full h1 (by omega)
    have h0 : ((s.size : Int) == 0) = false := by rw [beq_eq_false_iff_ne]; omega
    have h1' : (0 : Int) < (s.size : Int) := by omega
    have hn' : (4 : Int) ≤ (s.size : Int) := by omega
    clear hsz
    go_enter Tryd.func72, Tryd.ntmps72
    go_wp2_with fail
    go_ret
    exact ⟨ret_bool (by rw [unhide HV]; rfl), Below.refl _ _⟩
  clear hsz
  by_cases e1 : s.size = 1
  · have HV : Hid (begB s.data.toList = true) := by show _ = _; rw [list1 e1, begB_1, unhide HS]; rfl
    have hn' : (s.size : Int) = 1 := by omega
    go_enter Tryd.func72, Tryd.ntmps72
    go_wp2_with fail
    go_quiet (fail)
    go_wp2_with fail
    go_ret
    exact ⟨ret_bool (by rw [unhide HV]; rfl), ((Below.refl _ _).alloc (Nat.le_refl _) _).trans (Go.Joins.below_draws _ _ _)⟩
  by_cases e2 : s.size = 2
  · have hn' : (s.size : Int) = 2 := by omega
    by_cases l1 : (s[1].toNat : Int) < 144
    · have HV : Hid (begB s.data.toList = false) := by
        show _ = _; rw [list2 e2, begB_2, unhide HS, unhide HLO, unhide HHI]; unfold bIn; rw [decide_eq_false (show ¬ (144 ≤ s[1].toNat ∧ s[1].toNat ≤ 191) by omega)]; rfl
      have hd : decide ((s[1].toNat : Int) < 144) = true := by simpa using l1
      go_enter Tryd.func72, Tryd.ntmps72
      go_wp2_with fail
      go_quiet (fail)
      go_wp2_with fail
      go_ret
      exact ⟨ret_bool (by rw [unhide HV]; rfl), ((Below.refl _ _).alloc (Nat.le_refl _) _).trans (Go.Joins.below_draws _ _ _)⟩
    by_cases l2 : 191 < (s[1].toNat : Int)
    · have HV : Hid (begB s.data.toList = false) := by
        show _ = _; rw [list2 e2, begB_2, unhide HS, unhide HLO, unhide HHI]; unfold bIn; rw [decide_eq_false (show ¬ (144 ≤ s[1].toNat ∧ s[1].toNat ≤ 191) by omega)]; rfl
      have hd : decide ((s[1].toNat : Int) < 144) = false := by simpa using l1
      have hd2 : decide (191 < (s[1].toNat : Int)) = true := by simpa using l2
      go_enter Tryd.func72, Tryd.ntmps72
      go_wp2_with fail
      go_quiet (fail)
      go_wp2_with fail
      go_ret
      exact ⟨ret_bool (by rw [unhide HV]; rfl), ((Below.refl _ _).alloc (Nat.le_refl _) _).trans (Go.Joins.below_draws _ _ _)⟩
    have hd : decide ((s[1].toNat : Int) < 144) = false := by simpa using l1
    have hd2 : decide (191 < (s[1].toNat : Int)) = false := by simpa using l2
    have hok : (144 ≤ s[1].toNat ∧ s[1].toNat ≤ 191) := by omega
    have HV : Hid (begB s.data.toList = true) := by
      show _ = _; rw [list2 e2, begB_2, unhide HS, unhide HLO, unhide HHI]; unfold bIn; rw [decide_eq_true hok]; rfl
    clear hok
    go_enter Tryd.func72, Tryd.ntmps72
    go_wp2_with fail
    go_quiet (fail)
    go_wp2_with fail
    go_ret
    exact ⟨ret_bool (by rw [unhide HV]; rfl), ((Below.refl _ _).alloc (Nat.le_refl _) _).trans (Go.Joins.below_draws _ _ _)⟩
  have e3 : s.size = 3 := by omega
  have hn' : (s.size : Int) = 3 := by omega
  by_cases l1 : (s[1].toNat : Int) < 144
  · have HV : Hid (begB s.data.toList = false) := by
      show _ = _; rw [list3 e3, begB_3, unhide HS, unhide HLO, unhide HHI]; unfold bIn; rw [decide_eq_false (show ¬ (144 ≤ s[1].toNat ∧ s[1].toNat ≤ 191) by omega)]; rfl
    have hd : decide ((s[1].toNat : Int) < 144) = true := by simpa using l1
    go_enter Tryd.func72, Tryd.ntmps72
    go_wp2_with fail
    go_quiet (fail)
    go_wp2_with fail
    go_ret
    exact ⟨ret_bool (by rw [unhide HV]; rfl), ((Below.refl _ _).alloc (Nat.le_refl _) _).trans (Go.Joins.below_draws _ _ _)⟩
  by_cases l2 : 191 < (s[1].toNat : Int)
  · have HV : Hid (begB s.data.toList = false) := by
      show _ = _; rw [list3 e3, begB_3, unhide HS, unhide HLO, unhide HHI]; unfold bIn; rw [decide_eq_false (show ¬ (144 ≤ s[1].toNat ∧ s[1].toNat ≤ 191) by omega)]; rfl
    have hd : decide ((s[1].toNat : Int) < 144) = false := by simpa using l1
    have hd2 : decide (191 < (s[1].toNat : Int)) = true := by simpa using l2
    go_enter Tryd.func72, Tryd.ntmps72
    go_wp2_with fail
    go_quiet (fail)
    go_wp2_with fail
    go_ret
    exact ⟨ret_bool (by rw [unhide HV]; rfl), ((Below.refl _ _).alloc (Nat.le_refl _) _).trans (Go.Joins.below_draws _ _ _)⟩
  have hd : decide ((s[1].toNat : Int) < 144) = false := by simpa using l1
  have hd2 : decide (191 < (s[1].toNat : Int)) = false := by simpa using l2
  have hok : (144 ≤ s[1].toNat ∧ s[1].toNat ≤ 191) := by omega
  by_cases m1 : (s[2].toNat : Int) < 128
  · have HV : Hid (begB s.data.toList = false) := by
      show _ = _; rw [list3 e3, begB_3, unhide HS, unhide HLO, unhide HHI]; unfold bIn; rw [decide_eq_false (show ¬ (128 ≤ s[2].toNat ∧ s[2].toNat ≤ 191) by omega)]; simp
    clear hok
    go_enter Tryd.func72, Tryd.ntmps72
    go_wp2_with fail
    go_quiet (fail)
    go_wp2_with fail
    go_ret
    exact ⟨ret_bool (by rw [unhide HV]; rfl), ((Below.refl _ _).alloc (Nat.le_refl _) _).trans (Go.Joins.below_draws _ _ _)⟩
  by_cases m2 : 191 < (s[2].toNat : Int)
  · have HV : Hid (begB s.data.toList = false) := by
      show _ = _; rw [list3 e3, begB_3, unhide HS, unhide HLO, unhide HHI]; unfold bIn; rw [decide_eq_false (show ¬ (128 ≤ s[2].toNat ∧ s[2].toNat ≤ 191) by omega)]; simp
    clear hok
    go_enter Tryd.func72, Tryd.ntmps72
    go_wp2_with fail
    go_quiet (fail)
    go_wp2_with fail
    go_ret
    exact ⟨ret_bool (by rw [unhide HV]; rfl), ((Below.refl _ _).alloc (Nat.le_refl _) _).trans (Go.Joins.below_draws _ _ _)⟩
  have HV : Hid (begB s.data.toList = true) := by
    show _ = _; rw [list3 e3, begB_3, unhide HS, unhide HLO, unhide HHI]; unfold bIn; rw [decide_eq_true hok, decide_eq_true (show 128 ≤ s[2].toNat ∧ s[2].toNat ≤ 191 by omega)]; rfl
  clear hok
  go_enter Tryd.func72, Tryd.ntmps72
  go_wp2_with fail
  go_quiet (fail)
  go_wp2_with fail
  go_ret
  exact ⟨ret_bool (by rw [unhide HV]; rfl), ((Below.refl _ _).alloc (Nat.le_refl _) _).trans (Go.Joins.below_draws _ _ _)⟩
set_option maxHeartbeats 400000 in
set_option maxRecDepth 100000 in
theorem ifull_4 (s : ByteArray) (h1 : 0 < s.size) (hs : s.size ≤ 1048576) (w : World) (hT : RuneTabs w) (hv : Lib.firstT s[0].toNat = 4) :
    Calls Tryd.prog 72 #[.string s] w fun e w' => e = .returned (.bool (!begB s.data.toList)) ∧ Below w.heap.size w w' := by
  have hb : (s[0].toNat : Int) ≤ 255 := by have := s[0].toNat_lt; omega
  have hc : w.cell? ⟨6, s[0].toNat, none⟩ = some (.int .u8 4) := by
    have h := hT.1 s[0].toNat s[0].toNat_lt
    rw [hv] at h; exact h
  have hall := first_all s[0].toNat s[0].toNat_lt
  rw [hv] at hall
  have hl : w.cell? ⟨7, 0, none⟩ = some (.int .u8 128) := (hT.2 0 (by decide)).1
  have hh : w.cell? ⟨7, 1, none⟩ = some (.int .u8 191) := (hT.2 0 (by decide)).2
  have hg := hT.pos2
  have hsz : leadSz s[0].toNat = 4 := (hall.1 (by decide)).1
  have hlo : secLo s[0].toNat = 128 := (hall.1 (by decide)).2.1
  have hhi : secHi s[0].toNat = 191 := (hall.1 (by decide)).2.2
  have HS := hide hsz
  have HLO := hide hlo
  have HHI := hide hhi
  clear hall hT hv hlo hhi
  by_cases hn : 4 ≤ s.size
  · have HV : Hid (begB s.data.toList = false) := beg_full h1 (by omega)
    have h0 : ((s.size : Int) == 0) = false := by rw [beq_eq_false_iff_ne]; omega
    have h1' : (0 : Int) < (s.size : Int) := by omega
    have hn' : (4 : Int) ≤ (s.size : Int) := by omega
    clear hsz
    go_enter Tryd.func72, Tryd.ntmps72
    go_wp2_with fail
    go_ret
    exact ⟨ret_bool (by rw [unhide HV]; rfl), Below.refl _ _⟩
  clear hsz
  by_cases e1 : s.size = 1
  · have HV : Hid (begB s.data.toList = true) := by show _ = _; rw [list1 e1, begB_1, unhide HS]; rfl
    have hn' : (s.size : Int) = 1 := by omega
    go_enter Tryd.func72, Tryd.ntmps72
    go_wp2_with fail
    go_quiet (fail)
    go_wp2_with fail
    go_ret
    exact ⟨ret_bool (by rw [unhide HV]; rfl), ((Below.refl _ _).alloc (Nat.le_refl _) _).trans (Go.Joins.below_draws _ _ _)⟩
  by_cases e2 : s.size = 2
  · have hn' : (s.size : Int) = 2 := by omega
    by_cases l1 : (s[1].toNat : Int) < 128
    · have HV : Hid (begB s.data.toList = false) := by
        show _ = _; rw [list2 e2, begB_2, unhide HS, unhide HLO, unhide HHI]; unfold bIn; rw [decide_eq_false (show ¬ (128 ≤ s[1].toNat ∧ s[1].toNat ≤ 191) by omega)]; rfl
      have hd : decide ((s[1].toNat : Int) < 128) = true := by simpa using l1
      go_enter Tryd.func72, Tryd.ntmps72
      go_wp2_with fail
      go_quiet (fail)
      go_wp2_with fail
      go_ret
      exact ⟨ret_bool (by rw [unhide HV]; rfl), ((Below.refl _ _).alloc (Nat.le_refl _) _).trans (Go.Joins.below_draws _ _ _)⟩
    by_cases l2 : 191 < (s[1].toNat : Int)
    · have HV : Hid (begB s.data.toList = false) := by
        show _ = _; rw [list2 e2, begB_2, unhide HS, unhide HLO, unhide HHI]; unfold bIn; rw [decide_eq_false (show ¬ (128 ≤ s[1].toNat ∧ s[1].toNat ≤ 191) by omega)]; rfl
      have hd : decide ((s[1].toNat : Int) < 128) = false := by simpa using l1
      have hd2 : decide (191 < (s[1].toNat : Int)) = true := by simpa using l2
      go_enter Tryd.func72, Tryd.ntmps72
      go_wp2_with fail
      go_quiet (fail)
      go_wp2_with fail
      go_ret
      exact ⟨ret_bool (by rw [unhide HV]; rfl), ((Below.refl _ _).alloc (Nat.le_refl _) _).trans (Go.Joins.below_draws _ _ _)⟩
    have hd : decide ((s[1].toNat : Int) < 128) = false := by simpa using l1
    have hd2 : decide (191 < (s[1].toNat : Int)) = false := by simpa using l2
    have hok : (128 ≤ s[1].toNat ∧ s[1].toNat ≤ 191) := by omega
    have HV : Hid (begB s.data.toList = true) := by
      show _ = _; rw [list2 e2, begB_2, unhide HS, unhide HLO, unhide HHI]; unfold bIn; rw [decide_eq_true hok]; rfl
    clear hok
    go_enter Tryd.func72, Tryd.ntmps72
    go_wp2_with fail
    go_quiet (fail)
    go_wp2_with fail
    go_ret
    exact ⟨ret_bool (by rw [unhide HV]; rfl), ((Below.refl _ _).alloc (Nat.le_refl _) _).trans (Go.Joins.below_draws _ _ _)⟩
  have e3 : s.size = 3 := by omega
  have hn' : (s.size : Int) = 3 := by omega
  by_cases l1 : (s[1].toNat : Int) < 128
  · have HV : Hid (begB s.data.toList = false) := by
      show _ = _; rw [list3 e3, begB_3, unhide HS, unhide HLO, unhide HHI]; unfold bIn; rw [decide_eq_false (show ¬ (128 ≤ s[1].toNat ∧ s[1].toNat ≤ 191) by omega)]; rfl
    have hd : decide ((s[1].toNat : Int) < 128) = true := by simpa using l1
    go_enter Tryd.func72, Tryd.ntmps72
    go_wp2_with fail
    go_quiet (fail)
    go_wp2_with fail
    go_ret
    exact ⟨ret_bool (by rw [unhide HV]; rfl), ((Below.refl _ _).alloc (Nat.le_refl _) _).trans (Go.Joins.below_draws _ _ _)⟩
  by_cases l2 : 191 < (s[1].toNat : Int)
  · have HV : Hid (begB s.data.toList = false) := by
      show _ = _; rw [list3 e3, begB_3, unhide HS, unhide HLO, unhide HHI]; unfold bIn; rw [decide_eq_false (show ¬ (128 ≤ s[1].toNat ∧ s[1].toNat ≤ 191) by omega)]; rfl
    have hd : decide ((s[1].toNat : Int) < 128) = false := by simpa using l1
    have hd2 : decide (191 < (s[1].toNat : Int)) = true := by simpa using l2
    go_enter Tryd.func72, Tryd.ntmps72
    go_wp2_with fail
    go_quiet (fail)
    go_wp2_with fail
    go_ret
    exact ⟨ret_bool (by rw [unhide HV]; rfl), ((Below.refl _ _).alloc (Nat.le_refl _) _).trans (Go.Joins.below_draws _ _ _)⟩
  have hd : decide ((s[1].toNat : Int) < 128) = false := by simpa using l1
  have hd2 : decide (191 < (s[1].toNat : Int)) = false := by simpa using l2
  have hok : (128 ≤ s[1].toNat ∧ s[1].toNat ≤ 191) := by omega
  by_cases m1 : (s[2].toNat : Int) < 128
  · have HV : Hid (begB s.data.toList = false) := by
      show _ = _; rw [list3 e3, begB_3, unhide HS, unhide HLO, unhide HHI]; unfold bIn; rw [decide_eq_false (show ¬ (128 ≤ s[2].toNat ∧ s[2].toNat ≤ 191) by omega)]; simp
    clear hok
    go_enter Tryd.func72, Tryd.ntmps72
    go_wp2_with fail
    go_quiet (fail)
    go_wp2_with fail
    go_ret
    exact ⟨ret_bool (by rw [unhide HV]; rfl), ((Below.refl _ _).alloc (Nat.le_refl _) _).trans (Go.Joins.below_draws _ _ _)⟩
  by_cases m2 : 191 < (s[2].toNat : Int)
  · have HV : Hid (begB s.data.toList = false) := by
      show _ = _; rw [list3 e3, begB_3, unhide HS, unhide HLO, unhide HHI]; unfold bIn; rw [decide_eq_false (show ¬ (128 ≤ s[2].toNat ∧ s[2].toNat ≤ 191) by omega)]; simp
    clear hok
    go_enter Tryd.func72, Tryd.ntmps72
    go_wp2_with fail
    go_quiet (fail)
    go_wp2_with fail
    go_ret
    exact ⟨ret_bool (by rw [unhide HV]; rfl), ((Below.refl _ _).alloc (Nat.le_refl _) _).trans (Go.Joins.below_draws _ _ _)⟩
  have HV : Hid (begB s.data.toList = true) := by
    show _ = _; rw [list3 e3, begB_3, unhide HS, unhide HLO, unhide HHI]; unfold bIn; rw [decide_eq_true hok, decide_eq_true (show 128 ≤ s[2].toNat ∧ s[2].toNat ≤ 191 by omega)]; rfl
  clear hok
  go_enter Tryd.func72, Tryd.ntmps72
  go_wp2_with fail
  go_quiet (fail)
  go_wp2_with fail
  go_ret
  exact ⟨ret_bool (by rw [unhide HV]; rfl), ((Below.refl _ _).alloc (Nat.le_refl _) _).trans (Go.Joins.below_draws _ _ _)⟩
set_option maxHeartbeats 400000 in
set_option maxRecDepth 100000 in
theorem ifull_68 (s : ByteArray) (h1 : 0 < s.size) (hs : s.size ≤ 1048576) (w : World) (hT : RuneTabs w) (hv : Lib.firstT s[0].toNat = 68) :
    Calls Tryd.prog 72 #[.string s] w fun e w' => e = .returned (.bool (!begB s.data.toList)) ∧ Below w.heap.size w w' := by
  have hb : (s[0].toNat : Int) ≤ 255 := by have := s[0].toNat_lt; omega
  have hc : w.cell? ⟨6, s[0].toNat, none⟩ = some (.int .u8 68) := by
    have h := hT.1 s[0].toNat s[0].toNat_lt
    rw [hv] at h; exact h
  have hall := first_all s[0].toNat s[0].toNat_lt
  rw [hv] at hall
  have hl : w.cell? ⟨7, 8, none⟩ = some (.int .u8 128) := (hT.2 4 (by decide)).1
  have hh : w.cell? ⟨7, 9, none⟩ = some (.int .u8 143) := (hT.2 4 (by decide)).2
  have hg := hT.pos2
  have hsz : leadSz s[0].toNat = 4 := (hall.1 (by decide)).1
  have hlo : secLo s[0].toNat = 128 := (hall.1 (by decide)).2.1
  have hhi : secHi s[0].toNat = 143 := (hall.1 (by decide)).2.2
  have HS := hide hsz
  have HLO := hide hlo
  have HHI := hide hhi
  clear hall hT hv hlo hhi
  by_cases hn : 4 ≤ s.size
  · have HV : Hid (begB s.data.toList = false) := beg_full h1 (by omega)
    have h0 : ((s.size : Int) == 0) = false := by rw [beq_eq_false_iff_ne]; omega
    have h1' : (0 : Int) < (s.size : Int) := by omega
    have hn' : (4 : Int) ≤ (s.size : Int) := by omega
    clear hsz
    go_enter Tryd.func72, Tryd.ntmps72
    go_wp2_with fail
    go_ret
    exact ⟨ret_bool (by rw [unhide HV]; rfl), Below.refl _ _⟩
  clear hsz
  by_cases e1 : s.size = 1
  · have HV : Hid (begB s.data.toList = true) := by show _ = _; rw [list1 e1, begB_1, unhide HS]; rfl
    have hn' : (s.size : Int) = 1 := by omega
    go_enter Tryd.func72, Tryd.ntmps72
    go_wp2_with fail
    go_quiet (fail)
    go_wp2_with fail
    go_ret
    exact ⟨ret_bool (by rw [unhide HV]; rfl), ((Below.refl _ _).alloc (Nat.le_refl _) _).trans (Go.Joins.below_draws _ _ _)⟩
  by_cases e2 : s.size = 2
  · have hn' : (s.size : Int) = 2 := by omega
    by_cases l1 : (s[1].toNat : Int) < 128
    · have HV : Hid (begB s.data.toList = false) := by
        show _ = _; rw [list2 e2, begB_2, unhide HS, unhide HLO, unhide HHI]; unfold bIn; rw [decide_eq_false (show ¬ (128 ≤ s[1].toNat ∧ s[1].toNat ≤ 143) by omega)]; rfl
      have hd : decide ((s[1].toNat : Int) < 128) = true := by simpa using l1
      go_enter Tryd.func72, Tryd.ntmps72
      go_wp2_with fail
      go_quiet (fail)
      go_wp2_with fail
      go_ret
      exact ⟨ret_bool (by rw [unhide HV]; rfl), ((Below.refl _ _).alloc (Nat.le_refl _) _).trans (Go.Joins.below_draws _ _ _)⟩
    by_cases l2 : 143 < (s[1].toNat : Int)
    · have HV : Hid (begB s.data.toList = false) := by
        show _ = _; rw [list2 e2, begB_2, unhide HS, unhide HLO, unhide HHI]; unfold bIn; rw [decide_eq_false (show ¬ (128 ≤ s[1].toNat ∧ s[1].toNat ≤ 143) by omega)]; rfl
      have hd : decide ((s[1].toNat : Int) < 128) = false := by simpa using l1
      have hd2 : decide (143 < (s[1].toNat : Int)) = true := by simpa using l2
      go_enter Tryd.func72, Tryd.ntmps72
      go_wp2_with fail
      go_quiet (fail)
      go_wp2_with fail
      go_ret
      exact ⟨ret_bool (by rw [unhide HV]; rfl), ((Below.refl _ _).alloc (Nat.le_refl _) _).trans (Go.Joins.below_draws _ _ _)⟩
    have hd : decide ((s[1].toNat : Int) < 128) = false := by simpa using l1
    have hd2 : decide (143 < (s[1].toNat : Int)) = false := by simpa using l2
    have hok : (128 ≤ s[1].toNat ∧ s[1].toNat ≤ 143) := by omega
    have HV : Hid (begB s.data.toList = true) := by
      show _ = _; rw [list2 e2, begB_2, unhide HS, unhide HLO, unhide HHI]; unfold bIn; rw [decide_eq_true hok]; rfl
    clear hok
    go_enter Tryd.func72, Tryd.ntmps72
    go_wp2_with fail
    go_quiet (fail)
    go_wp2_with fail
    go_ret
    exact ⟨ret_bool (by rw [unhide HV]; rfl), ((Below.refl _ _).alloc (Nat.le_refl _) _).trans (Go.Joins.below_draws _ _ _)⟩
  have e3 : s.size = 3 := by omega
  have hn' : (s.size : Int) = 3 := by omega
  by_cases l1 : (s[1].toNat : Int) < 128
  · have HV : Hid (begB s.data.toList = false) := by
      show _ = _; rw [list3 e3, begB_3, unhide HS, unhide HLO, unhide HHI]; unfold bIn; rw [decide_eq_false (show ¬ (128 ≤ s[1].toNat ∧ s[1].toNat ≤ 143) by omega)]; rfl
    have hd : decide ((s[1].toNat : Int) < 128) = true := by simpa using l1
    go_enter Tryd.func72, Tryd.ntmps72
    go_wp2_with fail
    go_quiet (fail)
    go_wp2_with fail
    go_ret
    exact ⟨ret_bool (by rw [unhide HV]; rfl), ((Below.refl _ _).alloc (Nat.le_refl _) _).trans (Go.Joins.below_draws _ _ _)⟩
  by_cases l2 : 143 < (s[1].toNat : Int)
  · have HV : Hid (begB s.data.toList = false) := by
      show _ = _; rw [list3 e3, begB_3, unhide HS, unhide HLO, unhide HHI]; unfold bIn; rw [decide_eq_false (show ¬ (128 ≤ s[1].toNat ∧ s[1].toNat ≤ 143) by omega)]; rfl
    have hd : decide ((s[1].toNat : Int) < 128) = false := by simpa using l1
    have hd2 : decide (143 < (s[1].toNat : Int)) = true := by simpa using l2
    go_enter Tryd.func72, Tryd.ntmps72
    go_wp2_with fail
    go_quiet (fail)
    go_wp2_with fail
    go_ret
    exact ⟨ret_bool (by rw [unhide HV]; rfl), ((Below.refl _ _).alloc (Nat.le_refl _) _).trans (Go.Joins.below_draws _ _ _)⟩
  have hd : decide ((s[1].toNat : Int) < 128) = false := by simpa using l1
  have hd2 : decide (143 < (s[1].toNat : Int)) = false := by simpa using l2
  have hok : (128 ≤ s[1].toNat ∧ s[1].toNat ≤ 143) := by omega
  by_cases m1 : (s[2].toNat : Int) < 128
  · have HV : Hid (begB s.data.toList = false) := by
      show _ = _; rw [list3 e3, begB_3, unhide HS, unhide HLO, unhide HHI]; unfold bIn; rw [decide_eq_false (show ¬ (128 ≤ s[2].toNat ∧ s[2].toNat ≤ 191) by omega)]; simp
    clear hok
    go_enter Tryd.func72, Tryd.ntmps72
    go_wp2_with fail
    go_quiet (fail)
    go_wp2_with fail
    go_ret
    exact ⟨ret_bool (by rw [unhide HV]; rfl), ((Below.refl _ _).alloc (Nat.le_refl _) _).trans (Go.Joins.below_draws _ _ _)⟩
  by_cases m2 : 191 < (s[2].toNat : Int)
  · have HV : Hid (begB s.data.toList = false) := by
      show _ = _; rw [list3 e3, begB_3, unhide HS, unhide HLO, unhide HHI]; unfold bIn; rw [decide_eq_false (show ¬ (128 ≤ s[2].toNat ∧ s[2].toNat ≤ 191) by omega)]; simp
    clear hok
    go_enter Tryd.func72, Tryd.ntmps72
    go_wp2_with fail
    go_quiet (fail)
    go_wp2_with fail
    go_ret
    exact ⟨ret_bool (by rw [unhide HV]; rfl), ((Below.refl _ _).alloc (Nat.le_refl _) _).trans (Go.Joins.below_draws _ _ _)⟩
  have HV : Hid (begB s.data.toList = true) := by
    show _ = _; rw [list3 e3, begB_3, unhide HS, unhide HLO, unhide HHI]; unfold bIn; rw [decide_eq_true hok, decide_eq_true (show 128 ≤ s[2].toNat ∧ s[2].toNat ≤ 191 by omega)]; rfl
  clear hok
  go_enter Tryd.func72, Tryd.ntmps72
  go_wp2_with fail
  go_quiet (fail)
  go_wp2_with fail
  go_ret
  exact ⟨ret_bool (by rw [unhide HV]; rfl), ((Below.refl _ _).alloc (Nat.le_refl _) _).trans (Go.Joins.below_draws _ _ _)⟩
theorem ifull (s : ByteArray) (h1 : 0 < s.size) (hs : s.size ≤ 1048576) (w : World) (hT : RuneTabs w) :
    Calls Tryd.prog 72 #[.string s] w fun e w' => e = .returned (.bool (!begB s.data.toList)) ∧ Below w.heap.size w w' := by
  rcases first_cases s[0].toNat with h | h | h | h | h | h | h | h | h
  · exact ifull_240 s h1 hs w hT h
  · exact ifull_241 s h1 hs w hT h
  · exact ifull_2 s h1 hs w hT h
  · exact ifull_19 s h1 hs w hT h
  · exact ifull_3 s h1 hs w hT h
  · exact ifull_35 s h1 hs w hT h
  · exact ifull_52 s h1 hs w hT h
  · exact ifull_4 s h1 hs w hT h
  · exact ifull_68 s h1 hs w hT h
set_option maxHeartbeats 400000 in
set_option maxRecDepth 100000 in
theorem ibegins (s : ByteArray) (hs : s.size ≤ 1048576) (w : World) (hT : RuneTabs w) :
    Calls Tryd.prog 47 #[.string s] w fun e w' => e = .returned (.bool (begB s.data.toList)) ∧ Below w.heap.size w w' := by
  have HT := hide hT
  clear hT
  by_cases h0 : s.size = 0
  · have HV : Hid (begB s.data.toList = false) := beg_none h0
    have he : s.toList.isEmpty = true := by rw [ByteArray.toList_eq, List.isEmpty_iff, ← List.length_eq_zero_iff, text_len]; exact h0
    clear h0
    go_enter Tryd.func47, Tryd.ntmps47
    go_wp2_with fail
    go_ret
    exact ⟨ret_bool (unhide HV).symm, Below.refl _ _⟩
  · have he : s.toList.isEmpty = false := by
      cases h : s.toList.isEmpty
      · rfl
      · rw [ByteArray.toList_eq, List.isEmpty_iff, ← List.length_eq_zero_iff, text_len] at h; exact absurd h h0
    have HP := hide (show 0 < s.size by omega)
    clear h0
    go_enter Tryd.func47, Tryd.ntmps47
    go_wp2_with (go_at_call 72; refine (ifull s (unhide HP) hs _ (unhide HT)).mono ?_; rintro e w1 ⟨rfl, hb⟩)
    go_ret
    exact ⟨ret_bool (by simp), hb⟩
end Go.Proofs.YtolbmblffogloabDoor
