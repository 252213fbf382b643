/- How many texts are not empty: both sides. -/
import Derived.Test.YtindlkieobbgmaaAcM
import Derived.Test.YtindlkieobbgmaaSizeS
namespace Go.Proofs.Ytindlkieobbgmaa
open Go.ChangeShapes Go.WideShapes Go.ChangeAt Go.RowKit
set_option linter.unusedVariables false
theorem icd (c : Int) (d : ByteArray) (h0 : 0 ≤ c) (h1 : c ≤ 1048576) (w : World) :
    Calls Try.prog 12 #[.int .i64 c, .string d] w fun e w' => e = .returned (.int .i64 (if neB d then c + 1 else c)) ∧ w' = w := by
  cases hd : neB d with
  | true =>
    have hd1 : d.toList.isEmpty = false := by simpa [neB] using hd
    clear hd
    go_enter Try.func12, Try.ntmps12
    go_wp2_with fail
    go_ret
    exact ⟨by go_num, rfl⟩
  | false =>
    have hd1 : d.toList.isEmpty = true := by simpa [neB] using hd
    clear hd
    go_enter Try.func12, Try.ntmps12
    go_wp2_with fail
    go_ret
    exact ⟨rfl, rfl⟩
set_option maxHeartbeats 400000 in
set_option maxRecDepth 100000 in
theorem ifold (a : Option Addr) (cap n : Nat) (l : List ByteArray) (HN : Hid (l.length = n)) (hn : n ≤ 60) (w : World) (hr : RowV w a (cS l)) :
    Calls Try.prog 11 #[.int .i64 0, (.func (.func 12) #[] #[]), .slice a n cap] w fun e w' => e = .returned (.int .i64 ((filS l).length : Int)) ∧ w' = w := by
  have HR := hide hr
  clear hr
  go_enter Try.func11, Try.ntmps11
  go_wp2_with fail
  go_loop [0, 11] (fun s i => ∃ (k m : Nat), k ≤ n ∧ m ≤ k ∧ i = .int .i64 k ∧ s = .int .i64 (m : Int) ∧ Hid (m = (filS (l.take k)).length)) (fun _ i => n - (intOf i).toNat)
  case atStart => exact ⟨0, 0, by omega, by omega, rfl, rfl, rfl⟩
  case round =>
    obtain ⟨k, m, hk, hm, rfl, rfl, HM⟩ := hrel
    by_cases hlt : k < n
    · have hlk : k < l.length := by rw [unhide HN]; omega
      obtain ⟨b, off, rfl, hblt, hc⟩ := (unhide HR).at (by rw [cS_len]; omega)
      obtain ⟨d, ed⟩ : ∃ d, d = l[k] := ⟨_, rfl⟩
      have x1 := hc k _ (cS_at l k hlk)
      rw [← ed] at x1
      have hlt' : (k : Int) < (n : Int) := by omega
      have HM2 : Hid ((if neB d then (m : Int) + 1 else (m : Int)) = (((filS (l.take (k + 1))).length : Nat) : Int)) := by
        show _ = _
        rw [filS_snoc l k hlk, ← ed, List.length_append, ← unhide HM]
        cases neB d <;> simp
      have hm2 : (filS (l.take (k + 1))).length ≤ k + 1 := Nat.le_trans (filS_le _) (by simp; omega)
      clear hc ed hlk
      go_wp2_with fail
      refine (icd (m : Int) d (by omega) (by omega) _).mono ?_
      rintro e w1 ⟨rfl, rfl⟩
      rw [unhide HM2]
      obtain ⟨m2, em⟩ : ∃ m2, m2 = (filS (l.take (k + 1))).length := ⟨_, rfl⟩
      rw [← em] at hm2 ⊢
      have HM3 := hide em
      clear em HM2
      go_wp2_with fail
      go_round
      case rel => exact ⟨k + 1, m2, by omega, hm2, by go_num, rfl, HM3⟩
      case measure => simp [intOf]; omega
    · obtain rfl : k = n := by omega
      have e0 : l.take k = l := List.take_of_length_le (by rw [unhide HN]; exact Nat.le_refl _)
      rw [e0] at HM
      go_wp2_with fail
      go_ret
      exact ⟨ret_int (congrArg Int.ofNat (unhide HM)), rfl⟩
set_option maxHeartbeats 400000 in
set_option maxRecDepth 100000 in
theorem iapplied (a : Option Addr) (cap n : Nat) (l : List ByteArray) (HN : Hid (l.length = n)) (hn : n ≤ 1048576) (x c : Int) (HX : Hid (x = acN l)) (HC : Hid (c = acC l)) (w : World) (hr : RowV w a (cS l)) :
    Calls Try.prog 7 #[.slice a n cap] w fun e w' => e = .returned (.tuple #[.int .i64 x, .int .i64 c]) ∧ w' = w := by
  have HR := hide hr
  clear hr
  by_cases big : 4096 < n
  · obtain rfl : x = 0 := by rw [unhide HX, acN, unhide HN, if_pos (by omega)]
    obtain rfl : c = 2 := by rw [unhide HC, acC, unhide HN, if_pos big]
    go_enter Try.func7, Try.ntmps7
    go_wp2_with fail
    go_ret2
    exact ⟨rfl, rfl⟩
  by_cases many : 60 < n
  · obtain rfl : x = 0 := by rw [unhide HX, acN, unhide HN, if_pos (by omega)]
    obtain rfl : c = 6 := by rw [unhide HC, acC, unhide HN, if_neg big, if_pos many]
    go_enter Try.func7, Try.ntmps7
    go_wp2_with fail
    go_ret2
    exact ⟨rfl, rfl⟩
  obtain rfl : c = 0 := by rw [unhide HC, acC, unhide HN, if_neg big, if_neg many]
  have HX2 : Hid (x = ((filS l).length : Int)) := by show _ = _; rw [unhide HX, acN, unhide HN, if_neg many]
  clear HX HC
  go_enter Try.func7, Try.ntmps7
  go_wp2_with fail
  refine (ifold a cap n l HN (by omega) _ (unhide HR)).mono ?_
  rintro e w1 ⟨rfl, rfl⟩
  rw [← unhide HX2]
  go_wp2_with fail
  go_ret2
  exact ⟨rfl, rfl⟩
theorem slist (a : Option Addr) (cap n : Nat) (r : Int) (HC : Hid (r = if 4096 < n then 2 else if 60 < n then 6 else 0)) (w : World) :
    Calls Try.prog 9 #[.slice a n cap] w fun e w' => e = .returned (.int .i64 r) ∧ w' = w := by
  by_cases big : 4096 < n
  · obtain rfl : r = 2 := by rw [unhide HC, if_pos big]
    go_enter Try.func9, Try.ntmps9
    go_wp2_with fail
    go_ret
    exact ⟨rfl, rfl⟩
  by_cases many : 60 < n
  · obtain rfl : r = 6 := by rw [unhide HC, if_neg big, if_pos many]
    go_enter Try.func9, Try.ntmps9
    go_wp2_with fail
    go_ret
    exact ⟨rfl, rfl⟩
  obtain rfl : r = 0 := by rw [unhide HC, if_neg big, if_neg many]
  go_enter Try.func9, Try.ntmps9
  go_wp2_with fail
  go_ret
  exact ⟨rfl, rfl⟩
set_option maxHeartbeats 400000 in
set_option maxRecDepth 100000 in
theorem sapplied (a : Option Addr) (cap n : Nat) (l : List ByteArray) (HN : Hid (l.length = n)) (hn : n ≤ 1048576) (x c : Int) (HX : Hid (x = acN l)) (HC : Hid (c = acC l)) (w : World) (hr : RowV w a (cS l)) :
    Calls Try.prog 5 #[.slice a n cap] w fun e w' => e = .returned (.tuple #[.int .i64 x, .int .i64 c]) ∧ Below w.heap.size w w' := by
  have HR := hide hr
  clear hr
  by_cases big : 4096 < n
  · obtain rfl : x = 0 := by rw [unhide HX, acN, unhide HN, if_pos (by omega)]
    obtain rfl : c = 2 := by rw [unhide HC, acC, unhide HN, if_pos big]
    go_enter Try.func5, Try.ntmps5
    go_wp2_with fail
    go_ret2
    exact ⟨rfl, Below.refl _ _⟩
  by_cases many : 60 < n
  · obtain rfl : x = 0 := by rw [unhide HX, acN, unhide HN, if_pos (by omega)]
    obtain rfl : c = 6 := by rw [unhide HC, acC, unhide HN, if_neg big, if_pos many]
    go_enter Try.func5, Try.ntmps5
    go_wp2_with fail
    refine (slist a cap n 6 (hide (by rw [if_neg big, if_pos many])) _).mono ?_
    rintro e w1 ⟨rfl, rfl⟩
    go_wp2_with fail
    go_ret2
    exact ⟨rfl, Below.refl _ _⟩
  obtain rfl : c = 0 := by rw [unhide HC, acC, unhide HN, if_neg big, if_neg many]
  have HX2 : Hid (x = ((filS l).length : Int)) := by show _ = _; rw [unhide HX, acN, unhide HN, if_neg many]
  clear HX HC
  go_enter Try.func5, Try.ntmps5
  go_wp2_with fail
  refine (slist a cap n 0 (hide (by rw [if_neg big, if_neg many])) _).mono ?_
  rintro e w1 ⟨rfl, rfl⟩
  go_wp2_with fail
  refine (sdatas a cap n l HN hn _ (unhide HR)).mono ?_
  rintro e w2 ⟨v, rfl, ho, hb⟩
  obtain ⟨aF, cF, rfl, -⟩ := own_rowV ho
  obtain ⟨m, em⟩ : ∃ m, m = (filS l).length := ⟨_, rfl⟩
  have HM := hide em
  have HB := hide hb
  rw [← em] at HX2 ⊢
  obtain rfl : x = (m : Int) := unhide HX2
  clear em ho hb HX2
  go_wp2_with fail
  go_ret2
  exact ⟨rfl, unhide HB⟩
end Go.Proofs.Ytindlkieobbgmaa
