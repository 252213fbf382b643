/- What a name is, and that both texts tell it alike. -/
import Derived.Test.YtilnpkonhbmdpaaDoorZBase
namespace Go.Proofs.YtilnpkonhbmdpaaDoor
open Go.ChangeShapes Go.WideShapes Go.ChangeAt Go.RowKit
def digB (n : Int) : Bool := decide (48 ≤ n ∧ n ≤ 57)
def letB (n : Int) : Bool := decide ((97 ≤ n ∧ n ≤ 122) ∨ (65 ≤ n ∧ n ≤ 90) ∨ n = 95)

set_option maxHeartbeats 400000 in
theorem digit10 (n : Int) (h0 : 0 ≤ n) (h1 : n ≤ 255) (w : World) :
    Calls Tryd.prog 75 #[.int .u8 n] w fun e w' => e = .returned (.bool (digB n)) ∧ w' = w := by
  by_cases a : 48 ≤ n
  · by_cases b : n ≤ 57
    all_goals
      have HV := hide (show digB n = decide (48 ≤ n ∧ n ≤ 57) from rfl)
      go_enter Tryd.func75, Tryd.ntmps75
      go_wp2
      go_ret
      rw [unhide HV]
      exact ⟨ret_bool (by rw [Bool.eq_iff_iff]; simp <;> omega), rfl⟩
  · have HV := hide (show digB n = decide (48 ≤ n ∧ n ≤ 57) from rfl)
    go_enter Tryd.func75, Tryd.ntmps75
    go_wp2
    go_ret
    rw [unhide HV]
    exact ⟨ret_bool (by rw [Bool.eq_iff_iff]; simp <;> omega), rfl⟩

set_option maxHeartbeats 400000 in
theorem digit15 (n : Int) (h0 : 0 ≤ n) (h1 : n ≤ 255) (w : World) :
    Calls Tryd.prog 42 #[.int .u8 n] w fun e w' => e = .returned (.bool (digB n)) ∧ w' = w := by
  by_cases a : 48 ≤ n
  · by_cases b : n ≤ 57
    all_goals
      have HV := hide (show digB n = decide (48 ≤ n ∧ n ≤ 57) from rfl)
      go_enter Tryd.func42, Tryd.ntmps42
      go_wp2
      go_ret
      rw [unhide HV]
      exact ⟨ret_bool (by rw [Bool.eq_iff_iff]; simp <;> omega), rfl⟩
  · have HV := hide (show digB n = decide (48 ≤ n ∧ n ≤ 57) from rfl)
    go_enter Tryd.func42, Tryd.ntmps42
    go_wp2
    go_ret
    rw [unhide HV]
    exact ⟨ret_bool (by rw [Bool.eq_iff_iff]; simp <;> omega), rfl⟩

set_option maxHeartbeats 400000 in
theorem letter11 (n : Int) (h0 : 0 ≤ n) (h1 : n ≤ 255) (w : World) :
    Calls Tryd.prog 76 #[.int .u8 n] w fun e w' => e = .returned (.bool (letB n)) ∧ w' = w := by
  have hc : n < 65 ∨ (65 ≤ n ∧ n ≤ 90) ∨ (90 < n ∧ n < 95) ∨ (95 < n ∧ n < 97) ∨ n = 95 ∨ (97 ≤ n ∧ n ≤ 122) ∨ 122 < n := by omega
  have HV := hide (show letB n = decide ((97 ≤ n ∧ n ≤ 122) ∨ (65 ≤ n ∧ n ≤ 90) ∨ n = 95) from rfl)
  rcases hc with c | ⟨c, d⟩ | ⟨c, d⟩ | ⟨c, d⟩ | c | ⟨c, d⟩ | c
  all_goals
    try subst c
    go_enter Tryd.func76, Tryd.ntmps76
    go_wp2
    go_ret
    rw [unhide HV]
    exact ⟨ret_bool (by rw [Bool.eq_iff_iff]; simp <;> omega), rfl⟩

set_option maxHeartbeats 400000 in
theorem letter14 (n : Int) (h0 : 0 ≤ n) (h1 : n ≤ 255) (w : World) :
    Calls Tryd.prog 41 #[.int .u8 n] w fun e w' => e = .returned (.bool (letB n)) ∧ w' = w := by
  have hc : n < 65 ∨ (65 ≤ n ∧ n ≤ 90) ∨ (90 < n ∧ n < 95) ∨ (95 < n ∧ n < 97) ∨ n = 95 ∨ (97 ≤ n ∧ n ≤ 122) ∨ 122 < n := by omega
  have HV := hide (show letB n = decide ((97 ≤ n ∧ n ≤ 122) ∨ (65 ≤ n ∧ n ≤ 90) ∨ n = 95) from rfl)
  rcases hc with c | ⟨c, d⟩ | ⟨c, d⟩ | ⟨c, d⟩ | c | ⟨c, d⟩ | c
  all_goals
    try subst c
    go_enter Tryd.func41, Tryd.ntmps41
    go_wp2
    go_ret
    rw [unhide HV]
    exact ⟨ret_bool (by rw [Bool.eq_iff_iff]; simp <;> omega), rfl⟩
def wordB (n : Int) : Bool := letB n || digB n
theorem let_dig (n : Int) (h : letB n = true) : digB n = false := by
  unfold letB at h; unfold digB; simp at *; omega
def nameB (s : ByteArray) : Bool := decide (0 < s.size ∧ s.size ≤ 40 ∧ digB (bAt s 0) = false ∧ ∀ i, i < s.size → wordB (bAt s i) = true)
theorem name_no0 {s : ByteArray} (h : s.size = 0 ∨ 40 < s.size) : nameB s = false := by
  unfold nameB; simp; intro a b; omega
theorem name_nod {s : ByteArray} (h : digB (bAt s 0) = true) : nameB s = false := by
  unfold nameB; simp [h]
theorem name_nol {s : ByteArray} (h : letB (bAt s 0) = false) (hp : 0 < s.size) : nameB s = false := by
  unfold nameB; rw [decide_eq_false_iff_not]; rintro ⟨_, _, a, b⟩
  have := b 0 hp; unfold wordB at this; simp [h, a] at this
theorem name_now {s : ByteArray} (k : Nat) (hk : k < s.size) (h : letB (bAt s k) = false) (h2 : digB (bAt s k) = false) : nameB s = false := by
  unfold nameB; rw [decide_eq_false_iff_not]; rintro ⟨_, _, a, b⟩
  have := b k hk; unfold wordB at this; simp [h, h2] at this
theorem name_yes {s : ByteArray} (h0 : 0 < s.size) (h1 : s.size ≤ 40) (h2 : digB (bAt s 0) = false) (h3 : ∀ i, i < s.size → wordB (bAt s i) = true) : nameB s = true := by
  unfold nameB; rw [decide_eq_true_iff]; exact ⟨h0, h1, h2, h3⟩
theorem word_first {s : ByteArray} (h : letB (bAt s 0) = true) : ∀ i, i < 1 → wordB (bAt s i) = true := by
  intro i hi
  obtain rfl : i = 0 := by omega
  unfold wordB; rw [h]; rfl
theorem all_snoc {s : ByteArray} {k : Nat} (h : ∀ i, i < k → wordB (bAt s i) = true) (hk : wordB (bAt s k) = true) : ∀ i, i < k + 1 → wordB (bAt s i) = true := by
  intro i hi
  by_cases e : i = k
  · subst e; exact hk
  · exact h i (by omega)


set_option maxHeartbeats 800000 in
theorem name6 (s : ByteArray) (hs : s.size ≤ 1048576) (w : World) :
    Calls Tryd.prog 69 #[.string s] w fun e w' => e = .returned (.bool (nameB s)) ∧ w' = w := by
  by_cases z : s.size = 0
  · have HV := hide (name_no0 (.inl z))
    have z2 : ((s.size : Int) == 0) = true := by rw [beq_iff_eq]; omega
    clear z
    go_enter Tryd.func69, Tryd.ntmps69
    go_wp2_with fail
    go_ret
    rw [unhide HV]
    exact ⟨rfl, rfl⟩
  by_cases l : 40 < s.size
  · have HV := hide (name_no0 (.inr l))
    have z2 : ((s.size : Int) == 0) = false := by rw [beq_eq_false_iff_ne]; omega
    clear z
    go_enter Tryd.func69, Tryd.ntmps69
    go_wp2_with fail
    go_ret
    rw [unhide HV]
    exact ⟨rfl, rfl⟩
  have z2 : ((s.size : Int) == 0) = false := by rw [beq_eq_false_iff_ne]; omega
  have hp : 0 < s.size := by omega
  have b0 := bAt_bd s 0
  by_cases hd : digB (bAt s 0) = true
  · have HV := hide (name_nod hd)
    rw [← bAt_of s 0 hp] at hd b0
    go_enter Tryd.func69, Tryd.ntmps69
    go_wp2_with (go_at_call 75; refine (digit10 _ (by omega) (by omega) _).mono ?_; rintro e w' ⟨rfl, rfl⟩)
    go_ret
    rw [unhide HV]
    exact ⟨rfl, rfl⟩
  have hd : digB (bAt s 0) = false := by simpa using hd
  have HD := hide hd
  have HS := hide (show ∀ i, i < 0 → wordB (bAt s i) = true from fun i hi => absurd hi (Nat.not_lt_zero _))
  rw [← bAt_of s 0 hp] at hd b0
  go_enter Tryd.func69, Tryd.ntmps69
  go_wp2_with (go_at_call 75; refine (digit10 _ (by omega) (by omega) _).mono ?_; rintro e w' ⟨rfl, rfl⟩)
  go_loop [3] (fun i => ∃ k : Nat, k ≤ s.size ∧ i = .int .i64 k ∧ Hid (∀ i, i < k → wordB (bAt s i) = true)) (fun i => s.size - (intOf i).toNat)
  case atStart => exact ⟨0, by omega, rfl, HS⟩
  case round =>
    obtain ⟨k, hk, rfl, HA⟩ := hrel
    by_cases hlt : k < s.size
    · have bk := bAt_bd s k
      cases hl : letB (bAt s k)
      · cases hg : digB (bAt s k)
        · have HV := hide (name_now k hlt hl hg)
          rw [← bAt_of s k hlt] at hl hg bk
          go_wp2_with (first | (go_at_call 76; refine (letter11 _ (by omega) (by omega) _).mono ?_; rintro e w' ⟨rfl, rfl⟩) | (go_at_call 75; refine (digit10 _ (by omega) (by omega) _).mono ?_; rintro e w' ⟨rfl, rfl⟩))
          go_ret
          rw [unhide HV]
          exact ⟨rfl, rfl⟩
        · have HB := hide (all_snoc (unhide HA) (by unfold wordB; rw [hg]; simp))
          rw [← bAt_of s k hlt] at hl hg bk
          go_wp2_with (first | (go_at_call 76; refine (letter11 _ (by omega) (by omega) _).mono ?_; rintro e w' ⟨rfl, rfl⟩) | (go_at_call 75; refine (digit10 _ (by omega) (by omega) _).mono ?_; rintro e w' ⟨rfl, rfl⟩))
          go_round
          case rel => exact ⟨k + 1, by omega, by go_num, HB⟩
          case measure => simp [intOf]; omega
      · have HB := hide (all_snoc (unhide HA) (by unfold wordB; rw [hl]; simp))
        rw [← bAt_of s k hlt] at hl bk
        go_wp2_with (first | (go_at_call 76; refine (letter11 _ (by omega) (by omega) _).mono ?_; rintro e w' ⟨rfl, rfl⟩))
        go_round
        case rel => exact ⟨k + 1, by omega, by go_num, HB⟩
        case measure => simp [intOf]; omega
    · obtain rfl : k = s.size := by omega
      have HV := hide (name_yes hp (by omega) (unhide HD) (unhide HA))
      clear hlt
      go_wp2_with fail
      go_ret
      rw [unhide HV]
      exact ⟨rfl, rfl⟩

set_option maxHeartbeats 800000 in
theorem name9 (s : ByteArray) (hs : s.size ≤ 1048576) (w : World) :
    Calls Tryd.prog 30 #[.string s] w fun e w' => e = .returned (.bool (nameB s)) ∧ w' = w := by
  by_cases z : s.size = 0
  · have HV := hide (name_no0 (.inl z))
    have z2 : (s.size : Int) < 1 := by omega
    clear z
    go_enter Tryd.func30, Tryd.ntmps30
    go_wp2_with fail
    go_ret
    rw [unhide HV]
    exact ⟨rfl, rfl⟩
  by_cases l : 40 < s.size
  · have HV := hide (name_no0 (.inr l))
    have z2 : ¬ (s.size : Int) < 1 := by omega
    clear z
    go_enter Tryd.func30, Tryd.ntmps30
    go_wp2_with fail
    go_ret
    rw [unhide HV]
    exact ⟨rfl, rfl⟩
  have z2 : ¬ (s.size : Int) < 1 := by omega
  have hp : 0 < s.size := by omega
  have b0 := bAt_bd s 0
  by_cases hd : letB (bAt s 0) = false
  · have HV := hide (name_nol hd hp)
    rw [← bAt_of s 0 hp] at hd b0
    go_enter Tryd.func30, Tryd.ntmps30
    go_wp2_with (go_at_call 41; refine (letter14 _ (by omega) (by omega) _).mono ?_; rintro e w' ⟨rfl, rfl⟩)
    go_ret
    rw [unhide HV]
    exact ⟨rfl, rfl⟩
  have hd : letB (bAt s 0) = true := by simpa using hd
  have HD := hide (let_dig _ hd)
  have HS := hide (show ∀ i, i < 1 → wordB (bAt s i) = true from word_first hd)
  rw [← bAt_of s 0 hp] at hd b0
  go_enter Tryd.func30, Tryd.ntmps30
  go_wp2_with (go_at_call 41; refine (letter14 _ (by omega) (by omega) _).mono ?_; rintro e w' ⟨rfl, rfl⟩)
  go_loop [3] (fun i => ∃ k : Nat, k ≤ s.size ∧ i = .int .i64 k ∧ Hid (∀ i, i < k → wordB (bAt s i) = true)) (fun i => s.size - (intOf i).toNat)
  case atStart => exact ⟨1, by omega, rfl, HS⟩
  case round =>
    obtain ⟨k, hk, rfl, HA⟩ := hrel
    by_cases hlt : k < s.size
    · have bk := bAt_bd s k
      cases hl : letB (bAt s k)
      · cases hg : digB (bAt s k)
        · have HV := hide (name_now k hlt hl hg)
          rw [← bAt_of s k hlt] at hl hg bk
          go_wp2_with (first | (go_at_call 41; refine (letter14 _ (by omega) (by omega) _).mono ?_; rintro e w' ⟨rfl, rfl⟩) | (go_at_call 42; refine (digit15 _ (by omega) (by omega) _).mono ?_; rintro e w' ⟨rfl, rfl⟩))
          go_ret
          rw [unhide HV]
          exact ⟨rfl, rfl⟩
        · have HB := hide (all_snoc (unhide HA) (by unfold wordB; rw [hg]; simp))
          rw [← bAt_of s k hlt] at hl hg bk
          go_wp2_with (first | (go_at_call 41; refine (letter14 _ (by omega) (by omega) _).mono ?_; rintro e w' ⟨rfl, rfl⟩) | (go_at_call 42; refine (digit15 _ (by omega) (by omega) _).mono ?_; rintro e w' ⟨rfl, rfl⟩))
          go_round
          case rel => exact ⟨k + 1, by omega, by go_num, HB⟩
          case measure => simp [intOf]; omega
      · have HB := hide (all_snoc (unhide HA) (by unfold wordB; rw [hl]; simp))
        rw [← bAt_of s k hlt] at hl bk
        go_wp2_with (first | (go_at_call 41; refine (letter14 _ (by omega) (by omega) _).mono ?_; rintro e w' ⟨rfl, rfl⟩))
        go_round
        case rel => exact ⟨k + 1, by omega, by go_num, HB⟩
        case measure => simp [intOf]; omega
    · obtain rfl : k = s.size := by omega
      have HV := hide (name_yes hp (by omega) (unhide HD) (unhide HA))
      clear hlt
      go_wp2_with fail
      go_ret
      rw [unhide HV]
      exact ⟨rfl, rfl⟩
theorem name5 (s : ByteArray) (hs : s.size ≤ 1048576) (w : World) :
    Calls Tryd.prog 19 #[.string s] w fun e w' => e = .returned (.bool (nameB s)) ∧ w' = w := by
  have HS := hide hs
  go_enter Tryd.func19, Tryd.ntmps19
  go_wp2_with (go_at_call 30; refine (name9 _ (unhide HS) _).mono ?_; rintro e w' ⟨rfl, rfl⟩)
  go_ret
  exact ⟨rfl, rfl⟩
end Go.Proofs.YtilnpkonhbmdpaaDoor
