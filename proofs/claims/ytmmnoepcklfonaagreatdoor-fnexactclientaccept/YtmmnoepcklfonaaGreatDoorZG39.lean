/- Texts put together: CelS SizeT NumS. -/
import Derived.Test.YtmmnoepcklfonaaGreatDoorZG15
import Derived.Test.YtmmnoepcklfonaaGreatDoorZG37
import Derived.Test.YtmmnoepcklfonaaGreatDoorZG17
import Derived.Test.YtmmnoepcklfonaaGreatDoorZG13
/- A right cell: what the specification answers. -/
namespace Go.Proofs.YtmmnoepcklfonaaGreatDoor
open Go.ChangeShapes Go.WideShapes Go.ChangeAt Go.RowKit
set_option linter.unusedVariables false
set_option maxHeartbeats 400000 in
set_option maxRecDepth 100000 in
theorem scell (x y : Int) (w : World) : Calls Tryz.prog 66 #[.agg #[.int .i64 x, .int .i64 y]] w fun e w' => e = .returned (.bool (runeB x && inB y 0 127)) ∧ Below w.heap.size w w' := by
  have HB := hide ((Below.refl w.heap.size w).alloc (Nat.le_refl _) (.cells #[.int .i64 x, .int .i64 y] 97))
  obtain ⟨r, hr⟩ : ∃ r, r = (inB x 0 1114111 && !(inB x 55296 57343)) := ⟨_, rfl⟩
  have HR := hide hr
  have hp := rune_parts x
  rw [← hr] at hp
  rw [hp]
  clear hr hp
  have A := fun w => (sruneok x w)
  rw [← unhide HR] at A
  have HA := hide A
  clear A
  cases r
  · go_enter Tryz.func66, Tryz.ntmps66
    go_wp2_with (go_at_call 81; refine (unhide HA _).mono ?_; rintro e w2 ⟨rfl, rfl⟩)
    go_ret
    exact ⟨rfl, unhide HB⟩
  · by_cases h1 : 32 ≤ x
    · by_cases h2 : x = 127
      · subst h2
        go_enter Tryz.func66, Tryz.ntmps66
        go_wp2_with (go_at_call 81; refine (unhide HA _).mono ?_; rintro e w2 ⟨rfl, rfl⟩)
        go_ret
        exact ⟨ret_bool (by simp), unhide HB⟩
      · have h3 : (x != 127) = true := by simpa using h2
        have h4 : decide (32 ≤ x) = true := decide_eq_true h1
        rw [h3, h4]
        clear h2
        cases h5 : inB y 0 127
        all_goals
          go_enter Tryz.func66, Tryz.ntmps66
          go_wp2_with (first | (go_at_call 81; refine (unhide HA _).mono ?_; rintro e w2 ⟨rfl, rfl⟩) | (go_at_call 38; refine (sin _ _ _ _).mono ?_; rintro e w2 ⟨rfl, rfl⟩; rw [h5]))
          go_ret
          exact ⟨rfl, unhide HB⟩
    · have h4 : decide (32 ≤ x) = false := decide_eq_false h1
      rw [h4]
      go_enter Tryz.func66, Tryz.ntmps66
      go_wp2_with (go_at_call 81; refine (unhide HA _).mono ?_; rintro e w2 ⟨rfl, rfl⟩)
      go_ret
      exact ⟨ret_bool (by simp), unhide HB⟩
end Go.Proofs.YtmmnoepcklfonaaGreatDoor

/- l04Size: a screen's size, what the specification answers. -/
namespace Go.Proofs.YtmmnoepcklfonaaGreatDoor
open Go.ChangeShapes Go.WideShapes Go.ChangeAt Go.RowKit
theorem size_in (a b : Int) : sizeB a b = (inB a 2 24 && inB b 2 10) := by
  unfold sizeB inB; simp only [Bool.decide_and]; cases decide (2 ≤ a) <;> cases decide (a ≤ 24) <;> simp
set_option maxHeartbeats 400000 in
theorem ssize (w0 h0 : Int) (w : World) : Calls Tryz.prog 39 #[.int .i64 w0, .int .i64 h0] w fun e w' => e = .returned (.bool (sizeB w0 h0)) ∧ w' = w := by
  rw [size_in]
  cases h1 : inB w0 2 24 <;> cases h2 : inB h0 2 10
  all_goals
    go_enter Tryz.func39, Tryz.ntmps39
    go_wp2_with (go_at_call 38; refine (sin _ _ _ _).mono ?_; rintro e w1 ⟨rfl, rfl⟩; first | rw [h1] | rw [h2])
    go_ret
    exact ⟨rfl, rfl⟩
end Go.Proofs.YtmmnoepcklfonaaGreatDoor

/- l02Of: the number of a text of bytes. -/
namespace Go.Proofs.YtmmnoepcklfonaaGreatDoor
open Go.ChangeShapes Go.WideShapes Go.ChangeAt Go.RowKit
set_option maxHeartbeats 400000 in
set_option maxRecDepth 100000 in
theorem snumberOf (s : ByteArray) (hs : s.size ≤ 4) (w : World) :
    Calls Tryz.prog 67 #[.string s] w fun e w' => e = .returned (.int .i64 ((ofBE s.data.toList : Nat) : Int)) ∧ w' = w := by
  obtain ⟨l, hl⟩ : ∃ l, l = s.data.toList := ⟨_, rfl⟩
  have hll : l.length = s.size := by rw [hl]; simp
  rw [← hl]
  have HL := hide hl
  clear hl
  go_enter Tryz.func67, Tryz.ntmps67
  go_wp2_with fail
  go_loop [3, 4] (fun r i => ∃ k y : Nat, k ≤ s.size ∧ i = .int .i64 k ∧ r = .int .i64 (y : Int) ∧ Hid (y = ofBE (l.take k))) (fun _ i => s.size - (intOf i).toNat)
  case atStart => exact ⟨0, 0, by omega, rfl, rfl, rfl⟩
  case round =>
    obtain ⟨k, y, hk, rfl, rfl, HY⟩ := hrel
    have hy : y < 256 ^ k := by have := ofBE_lt l k; rw [← unhide HY] at this; exact this
    by_cases hlt : k < s.size
    · have hy2 : y < 16777216 := Nat.lt_of_lt_of_le hy (Nat.le_trans (Nat.pow_le_pow_right (by decide) (show k ≤ 3 by omega)) (by decide))
      have HE : Hid (l[k]'(by omega) = s[k]) := by show _ = _; have := unhide HL; subst this; rfl
      have HZ : Hid (ofBE (l.take (k + 1)) = y * 256 + s[k].toNat) := by show _ = _; rw [ofBE_snoc l k (by omega), unhide HY, unhide HE]
      have hlt' : (k : Int) < (s.size : Int) := by omega
      have c0 : (s[k].toNat : Int) ≤ 255 := by have := s[k].toNat_lt; omega
      have y0 : (y : Int) ≤ 16777216 := by omega
      clear hy hy2 HE hll
      go_wp2_with fail
      go_round
      case rel => exact ⟨k + 1, y * 256 + s[k].toNat, by omega, by go_num, by go_num, (unhide HZ).symm⟩
      case measure => simp [intOf]; omega
    · have HV : Hid (((ofBE l : Nat) : Int) = (y : Int)) := by show _ = _; rw [unhide HY, List.take_of_length_le (by omega)]
      clear hy hll
      go_wp2_with fail
      go_ret
      exact ⟨ret_int (unhide HV).symm, rfl⟩
end Go.Proofs.YtmmnoepcklfonaaGreatDoor
