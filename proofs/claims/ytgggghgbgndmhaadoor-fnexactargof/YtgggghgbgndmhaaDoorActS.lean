/- spec's ActionOK: what the specification answers. -/
import Derived.Test.YtgggghgbgndmhaaDoorActM
import Derived.Test.YtgggghgbgndmhaaDoorActL
namespace Go.Proofs.YtgggghgbgndmhaaDoor
open Go.ChangeShapes Go.WideShapes Go.ChangeAt Go.RowKit
set_option linter.unusedVariables false
theorem act_long {kd n : Int} {pr : Bool} {l : List Int} {t : List UInt8} (h : 8 < l.length) : actB kd n pr l t = false := by
  have e1 : bareB pr l = false := by unfold bareB; rw [decide_eq_false (by omega)]; rfl
  have e2 : argsB l = false := by unfold argsB; rw [decide_eq_false (by omega)]; rfl
  unfold actB; rw [e1, e2]; simp
theorem act_args {kd n : Int} {pr : Bool} {l : List Int} {t : List UInt8} (k : ¬ kd = 4) (h : bareB pr l = false) : actB kd n pr l t = false := by
  unfold actB; rw [h, if_neg k]; simp
theorem act_text {kd n : Int} {pr : Bool} {l : List Int} {t : List UInt8} (k : ¬ kd = 5) (h : emptyB t = false) : actB kd n pr l t = false := by
  unfold actB; rw [h, if_neg k]; simp
theorem bare_not {pr : Bool} {l : List Int} (h : 0 < l.length) : bareB pr l = false := by unfold bareB; rw [decide_eq_false (by omega)]; rfl
theorem bare_pr {l : List Int} : bareB true l = false := by unfold bareB; simp
theorem bare_yes {l : List Int} (h : l.length = 0) : bareB false l = true := by unfold bareB; rw [decide_eq_true h]; rfl
theorem rune_parts (n : Int) : runeB n = (inB n 0 1114111 && !(inB n 55296 57343) && decide (32 ≤ n) && (n != 127)) := by
  unfold runeB inB; rw [Bool.eq_iff_iff]; simp; omega
theorem title_long {t : ByteArray} (h : ¬ t.size ≤ 40) : titleB t.data.toList = false := by
  unfold titleB; rw [text_len, decide_eq_false h]; rfl
theorem esc_parts (n : Int) : escB n = (n == 55 || n == 56 || n == 68 || n == 69 || n == 77 || n == 99) := by
  unfold escB; rw [Bool.eq_iff_iff]; simp; omega
set_option maxHeartbeats 400000 in
set_option maxRecDepth 100000 in
theorem sin (n a b : Int) (w : World) : Calls Tryd.prog 24 #[.int .i64 n, .int .i64 a, .int .i64 b] w fun e w' => e = .returned (.bool (inB n a b)) ∧ w' = w := by
  by_cases h : a ≤ n
  · by_cases h2 : n ≤ b
    · go_enter Tryd.func24, Tryd.ntmps24
      go_wp2_with fail
      go_ret
      exact ⟨ret_bool (b_true ⟨h, h2⟩), rfl⟩
    · go_enter Tryd.func24, Tryd.ntmps24
      go_wp2_with fail
      go_ret
      exact ⟨ret_bool (b_false (by omega)), rfl⟩
  · go_enter Tryd.func24, Tryd.ntmps24
    go_wp2_with fail
    go_ret
    exact ⟨ret_bool (b_false (by omega)), rfl⟩
set_option maxHeartbeats 400000 in
set_option maxRecDepth 100000 in
theorem sruneok (n : Int) (w : World) : Calls Tryd.prog 36 #[.int .i64 n] w fun e w' => e = .returned (.bool (inB n 0 1114111 && !(inB n 55296 57343))) ∧ w' = w := by
  cases h : inB n 0 1114111 <;> cases h2 : inB n 55296 57343
  all_goals
    go_enter Tryd.func36, Tryd.ntmps36
    go_wp2_with (go_at_call 24; refine (sin _ _ _ _).mono ?_; rintro e w2 ⟨rfl, hw⟩; subst w2; first | rw [h] | rw [h2])
    go_ret
    exact ⟨rfl, rfl⟩
set_option maxHeartbeats 400000 in
set_option maxRecDepth 100000 in
theorem sctrl (n : Int) (w : World) : Calls Tryd.prog 37 #[.int .i64 n] w fun e w' => e = .returned (.bool (ctrlB n)) ∧ w' = w := by
  have hv : ctrlB n = (n == 7 || n == 8 || n == 9 || n == 10 || n == 13) := by
    unfold ctrlB; rw [Bool.eq_iff_iff]; simp; omega
  have HV := hide hv
  clear hv
  go_enter Tryd.func37, Tryd.ntmps37
  go_wp2_with fail
  all_goals
    go_ret
    exact ⟨ret_bool (by rw [unhide HV]; try simp [*]), rfl⟩
set_option maxHeartbeats 400000 in
set_option maxRecDepth 100000 in
theorem sact_long (kd : Int) (n : Int) (pr : Bool) (a : Option Addr) (len cap : Nat) (l : List Int) (t : ByteArray) (hlen : l.length = len) (hl : l.length ≤ 1048576) (ht : t.size ≤ 1048576) (h : 8 < len) (w : World) (hr : RowV w a (cI l)) :
    Calls Tryd.prog 23 #[.agg #[.int .i64 kd, .int .i64 n, .bool pr, .slice a len cap, .string t]] w fun e w' => e = .returned (.bool (actB kd n pr l t.data.toList)) ∧ Below w.heap.size w w' := by
  have hle : len ≤ 1048576 := by omega
  have h8 : (8 : Int) < (len : Int) := by omega
  have HV : Hid (actB kd n pr l t.data.toList = false) := act_long (by omega)
  clear hr hl hlen
  go_enter Tryd.func23, Tryd.ntmps23
  go_wp2_with fail
  all_goals
    go_ret
    exact ⟨ret_bool (unhide HV).symm, (Below.refl _ _).alloc (Nat.le_refl _) _⟩
set_option maxHeartbeats 400000 in
set_option maxRecDepth 100000 in
theorem sact_args (kd : Int) (n : Int) (pr : Bool) (a : Option Addr) (len cap : Nat) (l : List Int) (t : ByteArray) (hlen : l.length = len) (hl : l.length ≤ 1048576) (ht : t.size ≤ 1048576) (k : ¬ kd = 4) (h : 0 < len) (h8 : len ≤ 8) (w : World) (hr : RowV w a (cI l)) :
    Calls Tryd.prog 23 #[.agg #[.int .i64 kd, .int .i64 n, .bool pr, .slice a len cap, .string t]] w fun e w' => e = .returned (.bool (actB kd n pr l t.data.toList)) ∧ Below w.heap.size w w' := by
  have k4 : (kd != 4) = true := by simpa using k
  have h0 : (0 : Int) < (len : Int) := by omega
  have HV : Hid (actB kd n pr l t.data.toList = false) := act_args k (bare_not (by omega))
  clear hr hl hlen k
  go_enter Tryd.func23, Tryd.ntmps23
  go_wp2_with fail
  all_goals
    go_ret
    exact ⟨ret_bool (unhide HV).symm, (Below.refl _ _).alloc (Nat.le_refl _) _⟩
set_option maxHeartbeats 400000 in
set_option maxRecDepth 100000 in
theorem sact_priv (kd : Int) (n : Int) (a : Option Addr) (cap : Nat) (l : List Int) (t : ByteArray) (hlen : l.length = 0) (hl : l.length ≤ 1048576) (ht : t.size ≤ 1048576) (k : ¬ kd = 4) (w : World) (hr : RowV w a (cI l)) :
    Calls Tryd.prog 23 #[.agg #[.int .i64 kd, .int .i64 n, .bool true, .slice a 0 cap, .string t]] w fun e w' => e = .returned (.bool (actB kd n true l t.data.toList)) ∧ Below w.heap.size w w' := by
  have k4 : (kd != 4) = true := by simpa using k
  have HV : Hid (actB kd n true l t.data.toList = false) := act_args k bare_pr
  clear hr hl hlen k
  go_enter Tryd.func23, Tryd.ntmps23
  go_wp2_with fail
  all_goals
    go_ret
    exact ⟨ret_bool (unhide HV).symm, (Below.refl _ _).alloc (Nat.le_refl _) _⟩
set_option maxHeartbeats 400000 in
set_option maxRecDepth 100000 in
theorem sact_text4 (n : Int) (pr : Bool) (a : Option Addr) (len cap : Nat) (l : List Int) (t : ByteArray) (hlen : l.length = len) (hl : l.length ≤ 1048576) (ht : t.size ≤ 1048576) (h8 : len ≤ 8) (he : t.toList.isEmpty = false) (w : World) (hr : RowV w a (cI l)) :
    Calls Tryd.prog 23 #[.agg #[.int .i64 4, .int .i64 n, .bool pr, .slice a len cap, .string t]] w fun e w' => e = .returned (.bool (actB 4 n pr l t.data.toList)) ∧ Below w.heap.size w w' := by
  have HV : Hid (actB 4 n pr l t.data.toList = false) := act_text (by decide) (by rw [← emp_eq]; exact he)
  clear hr hl hlen
  go_enter Tryd.func23, Tryd.ntmps23
  go_wp2_with fail
  all_goals
    go_ret
    exact ⟨ret_bool (unhide HV).symm, (Below.refl _ _).alloc (Nat.le_refl _) _⟩
set_option maxHeartbeats 400000 in
set_option maxRecDepth 100000 in
theorem sact_text (kd : Int) (n : Int) (a : Option Addr) (cap : Nat) (l : List Int) (t : ByteArray) (hlen : l.length = 0) (hl : l.length ≤ 1048576) (ht : t.size ≤ 1048576) (k : ¬ kd = 4) (k5 : ¬ kd = 5) (he : t.toList.isEmpty = false) (w : World) (hr : RowV w a (cI l)) :
    Calls Tryd.prog 23 #[.agg #[.int .i64 kd, .int .i64 n, .bool false, .slice a 0 cap, .string t]] w fun e w' => e = .returned (.bool (actB kd n false l t.data.toList)) ∧ Below w.heap.size w w' := by
  have k4 : (kd != 4) = true := by simpa using k
  have k5' : (kd != 5) = true := by simpa using k5
  have HV : Hid (actB kd n false l t.data.toList = false) := act_text k5 (by rw [← emp_eq]; exact he)
  clear hr hl hlen k k5
  go_enter Tryd.func23, Tryd.ntmps23
  go_wp2_with fail
  all_goals
    go_ret
    exact ⟨ret_bool (unhide HV).symm, (Below.refl _ _).alloc (Nat.le_refl _) _⟩
set_option maxHeartbeats 400000 in
set_option maxRecDepth 100000 in
theorem sact1 (n : Int) (a : Option Addr) (cap : Nat) (l : List Int) (t : ByteArray) (hlen : l.length = 0) (hl : l.length ≤ 1048576) (ht : t.size ≤ 1048576) (he : t.toList.isEmpty = true) (w : World) (hr : RowV w a (cI l)) :
    Calls Tryd.prog 23 #[.agg #[.int .i64 1, .int .i64 n, .bool false, .slice a 0 cap, .string t]] w fun e w' => e = .returned (.bool (actB 1 n false l t.data.toList)) ∧ Below w.heap.size w w' := by
  have HE : Hid (emptyB t.data.toList = true) := by show _ = _; rw [← emp_eq]; exact he
  have HBR := hide (bare_yes hlen)
  clear hr hl hlen 
  go_enter Tryd.func23, Tryd.ntmps23
  go_wp2_with fail
  go_loopw [3] (fun i wr => i = .int .i64 0 ∧ wr = w.alloc (.cells #[.int .i64 1, .int .i64 n, .bool false, .slice a 0 cap, .string t] 38)) (fun i _ => 0)
  case atStart => exact ⟨rfl, rfl⟩
  case round =>
    obtain ⟨rfl, rfl⟩ := hrel
    go_wp2_with (go_at_call 36; refine (sruneok _ _).mono ?_; rintro e w2 ⟨rfl, hw⟩; subst w2)
    all_goals
      go_ret
      refine ⟨ret_bool ?_, (Below.refl _ _).alloc (Nat.le_refl _) _⟩
      rw [actB_1, rune_parts, unhide HBR, unhide HE]
      first | (simp [*]; done) | (simp [*]; omega)
set_option maxHeartbeats 400000 in
set_option maxRecDepth 100000 in
theorem sact2 (n : Int) (a : Option Addr) (cap : Nat) (l : List Int) (t : ByteArray) (hlen : l.length = 0) (hl : l.length ≤ 1048576) (ht : t.size ≤ 1048576) (he : t.toList.isEmpty = true) (w : World) (hr : RowV w a (cI l)) :
    Calls Tryd.prog 23 #[.agg #[.int .i64 2, .int .i64 n, .bool false, .slice a 0 cap, .string t]] w fun e w' => e = .returned (.bool (actB 2 n false l t.data.toList)) ∧ Below w.heap.size w w' := by
  have HE : Hid (emptyB t.data.toList = true) := by show _ = _; rw [← emp_eq]; exact he
  have HBR := hide (bare_yes hlen)
  clear hr hl hlen 
  go_enter Tryd.func23, Tryd.ntmps23
  go_wp2_with fail
  go_loopw [3] (fun i wr => i = .int .i64 0 ∧ wr = w.alloc (.cells #[.int .i64 2, .int .i64 n, .bool false, .slice a 0 cap, .string t] 38)) (fun i _ => 0)
  case atStart => exact ⟨rfl, rfl⟩
  case round =>
    obtain ⟨rfl, rfl⟩ := hrel
    go_wp2_with (go_at_call 37; refine (sctrl _ _).mono ?_; rintro e w2 ⟨rfl, hw⟩; subst w2)
    all_goals
      go_ret
      refine ⟨ret_bool ?_, (Below.refl _ _).alloc (Nat.le_refl _) _⟩
      rw [actB_2, unhide HBR, unhide HE]
      first | (simp [*]; done) | (simp [*]; omega)
set_option maxHeartbeats 400000 in
set_option maxRecDepth 100000 in
theorem sact3 (n : Int) (a : Option Addr) (cap : Nat) (l : List Int) (t : ByteArray) (hlen : l.length = 0) (hl : l.length ≤ 1048576) (ht : t.size ≤ 1048576) (he : t.toList.isEmpty = true) (w : World) (hr : RowV w a (cI l)) :
    Calls Tryd.prog 23 #[.agg #[.int .i64 3, .int .i64 n, .bool false, .slice a 0 cap, .string t]] w fun e w' => e = .returned (.bool (actB 3 n false l t.data.toList)) ∧ Below w.heap.size w w' := by
  have HE : Hid (emptyB t.data.toList = true) := by show _ = _; rw [← emp_eq]; exact he
  have HBR := hide (bare_yes hlen)
  clear hr hl hlen 
  go_enter Tryd.func23, Tryd.ntmps23
  go_wp2_with fail
  go_loopw [3] (fun i wr => i = .int .i64 0 ∧ wr = w.alloc (.cells #[.int .i64 3, .int .i64 n, .bool false, .slice a 0 cap, .string t] 38)) (fun i _ => 0)
  case atStart => exact ⟨rfl, rfl⟩
  case round =>
    obtain ⟨rfl, rfl⟩ := hrel
    go_wp2_with (fail)
    all_goals
      go_ret
      refine ⟨ret_bool ?_, (Below.refl _ _).alloc (Nat.le_refl _) _⟩
      rw [actB_3, esc_parts, unhide HBR, unhide HE]
      first | (simp [*]; done) | (simp [*]; omega)
set_option maxHeartbeats 400000 in
set_option maxRecDepth 100000 in
theorem sacto (kd : Int) (h1 : ¬ kd = 1) (h2 : ¬ kd = 2) (h3 : ¬ kd = 3) (h4 : ¬ kd = 4) (h5 : ¬ kd = 5) (n : Int) (a : Option Addr) (cap : Nat) (l : List Int) (t : ByteArray) (hlen : l.length = 0) (hl : l.length ≤ 1048576) (ht : t.size ≤ 1048576) (he : t.toList.isEmpty = true) (w : World) (hr : RowV w a (cI l)) :
    Calls Tryd.prog 23 #[.agg #[.int .i64 kd, .int .i64 n, .bool false, .slice a 0 cap, .string t]] w fun e w' => e = .returned (.bool (actB kd n false l t.data.toList)) ∧ Below w.heap.size w w' := by
  have HV : Hid (actB kd n false l t.data.toList = false) := by show _ = _; unfold actB; rw [if_neg h1, if_neg h2, if_neg h3, if_neg h4, if_neg h5]
  have k1 : (kd == 1) = false := by simpa using h1
  have k2 : (kd == 2) = false := by simpa using h2
  have k3 : (kd == 3) = false := by simpa using h3
  have k4 : (kd == 4) = false := by simpa using h4
  have k5 : (kd == 5) = false := by simpa using h5
  have k4' : (kd != 4) = true := by simpa using h4
  have k5' : (kd != 5) = true := by simpa using h5
  clear hr hl hlen h1 h2 h3 h4 h5
  go_enter Tryd.func23, Tryd.ntmps23
  go_wp2_with fail
  go_loopw [3] (fun i wr => i = .int .i64 0 ∧ wr = w.alloc (.cells #[.int .i64 kd, .int .i64 n, .bool false, .slice a 0 cap, .string t] 38)) (fun i _ => 0)
  case atStart => exact ⟨rfl, rfl⟩
  case round =>
    obtain ⟨rfl, rfl⟩ := hrel
    go_wp2_with fail
    all_goals
      go_ret
      exact ⟨ret_bool (unhide HV).symm, (Below.refl _ _).alloc (Nat.le_refl _) _⟩
set_option maxHeartbeats 400000 in
set_option maxRecDepth 100000 in
theorem sact4 (n : Int) (pr : Bool) (a : Option Addr) (len cap : Nat) (l : List Int) (t : ByteArray) (hlen : l.length = len) (hl : l.length ≤ 1048576) (ht : t.size ≤ 1048576) (h8 : len ≤ 8) (he : t.toList.isEmpty = true) (w : World) (hr : RowV w a (cI l)) :
    Calls Tryd.prog 23 #[.agg #[.int .i64 4, .int .i64 n, .bool pr, .slice a len cap, .string t]] w fun e w' => e = .returned (.bool (actB 4 n pr l t.data.toList)) ∧ Below w.heap.size w w' := by
  have HE : Hid (emptyB t.data.toList = true) := by show _ = _; rw [← emp_eq]; exact he
  have HR := hide hr
  have HL := hide hlen
  clear hr hl hlen
  go_enter Tryd.func23, Tryd.ntmps23
  go_wp2_with fail
  go_loopw [3] (fun i wr => ∃ k : Nat, k ≤ len ∧ i = .int .i64 k ∧ wr = w.alloc (.cells #[.int .i64 4, .int .i64 n, .bool pr, .slice a len cap, .string t] 38) ∧ Hid (∀ q (h : q < l.length), q < k → inB l[q] (-1) 9999 = true)) (fun i _ => len - (intOf i).toNat)
  case atStart => exact ⟨0, by omega, rfl, rfl, fun q _ h => absurd h (Nat.not_lt_zero _)⟩
  case round =>
    obtain ⟨k, hk, rfl, rfl, HF⟩ := hrel
    by_cases hlt : k < len
    · have hltl : k < l.length := by rw [unhide HL]; exact hlt
      obtain ⟨b, off, ha, hblt, hc⟩ := (unhide HR).at (by rw [cI_len]; omega)
      subst ha
      have hc1 : w.cell? ⟨b, off + k, none⟩ = some (.int .i64 l[k]) := hc k _ (cI_at l k hltl)
      have hne : ¬ b = w.heap.size := by omega
      have hlt' : (k : Int) < (len : Int) := by omega
      obtain ⟨x, hx⟩ : ∃ x, x = l[k] := ⟨_, rfl⟩
      rw [← hx] at hc1
      cases hi : inB x (-1) 9999
      · have HV : Hid (actB 4 n pr l t.data.toList = false) := by
          show _ = _; rw [actB_4]; unfold argsB; rw [args_bad hltl (by rw [← hx]; exact hi)]; simp
        clear hc HR HF hx hltl
        go_wp2_with (go_at_call 24; refine (sin _ _ _ _).mono ?_; rintro e w2 ⟨rfl, hw⟩; subst w2; rw [hi])
        go_ret
        exact ⟨ret_bool (unhide HV).symm, (Below.refl _ _).alloc (Nat.le_refl _) _⟩
      · have HF2 : Hid (∀ q (h : q < l.length), q < k + 1 → inB l[q] (-1) 9999 = true) := fun q h hq => by
          by_cases e : q = k
          · subst e; rw [← hx]; exact hi
          · exact unhide HF q h (by omega)
        clear hc HR HF hx hltl
        go_wp2_with (go_at_call 24; refine (sin _ _ _ _).mono ?_; rintro e w2 ⟨rfl, hw⟩; subst w2; rw [hi])
        go_roundw
        case rel => exact ⟨k + 1, by omega, by go_num, by first | rfl | trivial, HF2⟩
        case measure => simp [intOf]; omega
    · have ek : k = len := by omega
      have HA : Hid (argsB l = decide (0 < len)) := by
        show _ = _
        unfold argsB; rw [args_take_all fun q hq => unhide HF q hq (by have := unhide HL; omega), unhide HL, Bool.and_true]
        by_cases h : 0 < len
        · rw [decide_eq_true h, decide_eq_true ⟨h, h8⟩]
        · rw [decide_eq_false h, decide_eq_false (by omega)]
      clear HR HF HL
      by_cases hp : 0 < len
      · have hp' : (0 : Int) < (len : Int) := by omega
        go_wp2_with (go_at_call 24; refine (sin _ _ _ _).mono ?_; rintro e w2 ⟨rfl, hw⟩; subst w2)
        all_goals
          go_ret
          refine ⟨ret_bool ?_, (Below.refl _ _).alloc (Nat.le_refl _) _⟩
          rw [actB_4, unhide HA, unhide HE]
          simp [*]
      · obtain rfl : len = 0 := by omega
        go_wp2_with (go_at_call 24; refine (sin _ _ _ _).mono ?_; rintro e w2 ⟨rfl, hw⟩; subst w2)
        all_goals
          go_ret
          refine ⟨ret_bool ?_, (Below.refl _ _).alloc (Nat.le_refl _) _⟩
          rw [actB_4, unhide HA, unhide HE]
          simp [*]
set_option maxHeartbeats 400000 in
set_option maxRecDepth 100000 in
theorem sact5 (n : Int) (a : Option Addr) (cap : Nat) (l : List Int) (t : ByteArray) (hlen : l.length = 0) (hl : l.length ≤ 1048576) (ht : t.size ≤ 1048576) (w : World) (hr : RowV w a (cI l)) :
    Calls Tryd.prog 23 #[.agg #[.int .i64 5, .int .i64 n, .bool false, .slice a 0 cap, .string t]] w fun e w' => e = .returned (.bool (actB 5 n false l t.data.toList)) ∧ Below w.heap.size w w' := by
  have HBR := hide (bare_yes hlen)
  clear hr hl hlen
  go_enter Tryd.func23, Tryd.ntmps23
  go_wp2_with fail
  go_loopw [3] (fun i wr => i = .int .i64 0 ∧ wr = w.alloc (.cells #[.int .i64 5, .int .i64 n, .bool false, .slice a 0 cap, .string t] 38)) (fun i _ => 0)
  case atStart => exact ⟨rfl, rfl⟩
  case round =>
    obtain ⟨rfl, rfl⟩ := hrel
    by_cases hn : n = 0
    · subst hn
      by_cases h40 : t.size ≤ 40
      · go_wp2_with fail
        go_loopw [4] (fun i wr => ∃ k : Nat, k ≤ t.size ∧ i = .int .i64 k ∧ wr = w.alloc (.cells #[.int .i64 5, .int .i64 0, .bool false, .slice a 0 cap, .string t] 38) ∧ Hid (∀ q (h : q < t.size), q < k → inB (t[q].toNat : Int) 32 126 = true)) (fun i _ => t.size - (intOf i).toNat)
        case atStart => exact ⟨0, by omega, rfl, rfl, fun q _ h => absurd h (Nat.not_lt_zero _)⟩
        case round =>
          obtain ⟨k, hk, rfl, rfl, HF⟩ := hrel
          by_cases hlt : k < t.size
          · have hlt' : (k : Int) < (t.size : Int) := by omega
            have hb : (t[k].toNat : Int) ≤ 255 := by have := t[k].toNat_lt; omega
            cases hi : inB (t[k].toNat : Int) 32 126
            · have HV : Hid (actB 5 0 false l t.data.toList = false) := by
                show _ = _; rw [actB_5]; unfold titleB; rw [text_bad hlt hi]; simp
              clear HF
              go_wp2_with (go_at_call 24; refine (sin _ _ _ _).mono ?_; rintro e w2 ⟨rfl, hw⟩; subst w2; rw [hi])
              go_ret
              exact ⟨ret_bool (unhide HV).symm, (Below.refl _ _).alloc (Nat.le_refl _) _⟩
            · have HF2 : Hid (∀ q (h : q < t.size), q < k + 1 → inB (t[q].toNat : Int) 32 126 = true) := fun q h hq => by
                by_cases e : q = k
                · subst e; exact hi
                · exact unhide HF q h (by omega)
              clear HF
              go_wp2_with (go_at_call 24; refine (sin _ _ _ _).mono ?_; rintro e w2 ⟨rfl, hw⟩; subst w2; rw [hi])
              go_roundw
              case rel => exact ⟨k + 1, by omega, by go_num, by first | rfl | trivial, HF2⟩
              case measure => simp [intOf]; omega
          · have HV : Hid (actB 5 0 false l t.data.toList = true) := by
              show _ = _; rw [actB_5, unhide HBR]; unfold titleB; rw [text_take_all fun q hq => unhide HF q hq (by omega)]; simp; omega
            clear HF
            go_wp2_with fail
            go_ret
            exact ⟨ret_bool (unhide HV).symm, (Below.refl _ _).alloc (Nat.le_refl _) _⟩
      · have HV : Hid (actB 5 0 false l t.data.toList = false) := by
          show _ = _; rw [actB_5, title_long h40]; simp
        go_wp2_with fail
        go_ret
        exact ⟨ret_bool (unhide HV).symm, (Below.refl _ _).alloc (Nat.le_refl _) _⟩
    · have HV : Hid (actB 5 n false l t.data.toList = false) := by
        show _ = _; rw [actB_5, decide_eq_false hn]; rfl
      have hn' : (n != 0) = true := by simpa using hn
      clear hn
      go_wp2_with fail
      go_ret
      exact ⟨ret_bool (unhide HV).symm, (Below.refl _ _).alloc (Nat.le_refl _) _⟩
theorem sactok (kd n : Int) (pr : Bool) (a : Option Addr) (len cap : Nat) (l : List Int) (t : ByteArray) (hlen : l.length = len) (hl : l.length ≤ 1048576) (ht : t.size ≤ 1048576) (w : World) (hr : RowV w a (cI l)) :
    Calls Tryd.prog 23 #[.agg #[.int .i64 kd, .int .i64 n, .bool pr, .slice a len cap, .string t]] w fun e w' => e = .returned (.bool (actB kd n pr l t.data.toList)) ∧ Below w.heap.size w w' := by
  by_cases h8 : 8 < len
  · exact sact_long kd n pr a len cap l t hlen hl ht h8 w hr
  by_cases h4 : kd = 4
  · subst h4
    cases he : t.toList.isEmpty
    · exact sact_text4 n pr a len cap l t hlen hl ht (by omega) he w hr
    · exact sact4 n pr a len cap l t hlen hl ht (by omega) he w hr
  by_cases h0 : len = 0
  · subst h0
    cases pr
    · by_cases h5 : kd = 5
      · subst h5; exact sact5 n a cap l t hlen hl ht w hr
      cases he : t.toList.isEmpty
      · exact sact_text kd n a cap l t hlen hl ht h4 h5 he w hr
      by_cases h1 : kd = 1
      · subst h1; exact sact1 n a cap l t hlen hl ht he w hr
      by_cases h2 : kd = 2
      · subst h2; exact sact2 n a cap l t hlen hl ht he w hr
      by_cases h3 : kd = 3
      · subst h3; exact sact3 n a cap l t hlen hl ht he w hr
      exact sacto kd h1 h2 h3 h4 h5 n a cap l t hlen hl ht he w hr
    · exact sact_priv kd n a cap l t hlen hl ht h4 w hr
  · exact sact_args kd n pr a len cap l t hlen hl ht h4 (by omega) (by omega) w hr
end Go.Proofs.YtgggghgbgndmhaaDoor
